/-
  The law FnMacKey returns true for every list of bytes. Condition: the program's two tables are the standard's.
-/
import Derived.Test.YtadefoeolbhnmaaDoorLExactShaMac
import Derived.Test.YtadefoeolbhnmaaDoorDrawM
import Derived.Test.YtadefoeolbhnmaaDoorEaB
namespace Go.Proofs.YtadefoeolbhnmaaDoor
open Go.RowKit

theorem key64_snoc (k : List UInt8) (h : k.length < 64) : key64 (k ++ [0]) = key64 k := by
  unfold key64
  simp only [List.length_append, List.length_cons, List.length_nil]
  rw [if_neg (by omega), if_neg (by omega), List.append_assoc]
  obtain ⟨n, hn⟩ : ∃ n, 64 - k.length = n + 1 := ⟨63 - k.length, by omega⟩
  simp only [List.length_append, List.length_cons, List.length_nil]
  rw [hn, show 64 - (k.length + (0 + 1)) = n from by omega, List.replicate_succ]
  rfl
theorem key64_sha (k : List UInt8) (h : 64 < k.length) : key64 (sha k) = key64 k := by
  unfold key64
  have := sha_length k
  rw [if_neg (by omega), if_pos h]
theorem mac_key {k k' : List UInt8} (h : key64 k = key64 k') (l : List UInt8) : mac k l = mac k' l := by unfold mac; rw [h]

set_option maxHeartbeats 2000000 in
theorem fnMacKey_small (A : Option Addr) (c : Nat) (l : List UInt8) (w : World) (hT : Tabs w) (h : Has w w.heap.size A l) (hc : l.length ≤ c) (hs : l.length ≤ 1048576) :
    Calls Tryd.prog 5 #[.slice A l.length c] w fun e w' => e = .returned (.bool true) ∧ Below w.heap.size w w' := by
  have hb : (l.length : Int) ≤ 1048576 := by omega
  have HT : Hid (∀ W, Below w.heap.size w W → Tabs W) := Lib.hid fun W hb => hT.below hb hT.2.2
  clear hT
  go_enter Tryd.func5, Tryd.ntmps5
  go_wp2_with fail
  refine (drawShaMac_any A c l _ (by omega) hc h).mono ?_
  rintro e w1 ⟨A1, c1, A2, c2, k, b, rfl, h1, h2, hk, hbl, B1⟩
  have z1 := B1.size
  have HMO : Hid (macOut k b = mac k b) := Lib.hid (by unfold macOut; rw [if_neg (by omega)])
  have hml := mac_length k b
  clear h
  go_wp2_with fail
  refine (implShaMac_any A1 A2 c1 c2 k b w1 (by omega) (by omega) (HT.out _ B1) h1 h2).mono ?_
  rw [HMO.out]
  rintro e w2 ⟨v2, rfl, ho2, hb2⟩
  obtain ⟨A3, c3, hv, -, h3⟩ := ho2.has
  rw [hml] at hv
  subst hv
  have B2 : Below w.heap.size w w2 := B1.trans (hb2.mono z1)
  have z2 := B2.size
  have h12 := h1.carry hb2 (Nat.le_refl _) hb2.size
  have h22 := h2.carry hb2 (Nat.le_refl _) hb2.size
  clear ho2 hb2 h1 h2 B1
  go_wp2_with fail
  refine (specShaMac_any A1 A2 c1 c2 k b w2 h12 h22).mono ?_
  rw [HMO.out]
  rintro e w3 ⟨v3, rfl, ho3, hb3⟩
  obtain ⟨A4, c4, hv, -, h4⟩ := ho3.has
  rw [hml] at hv
  subst hv
  have B3 : Below w.heap.size w w3 := B2.trans (hb3.mono z2)
  have z3 := B3.size
  have h13 := h12.carry hb3 (Nat.le_refl _) hb3.size
  have h23 := h22.carry hb3 (Nat.le_refl _) hb3.size
  have h33 := h3.carry hb3 (Nat.le_refl _) hb3.size
  clear ho3 hb3 h12 h22 h3 B2
  have CE := Lib.hid fun A A' c c' B B' W (hh : Has W B A (mac k b)) (hh' : Has W B' A' (mac k b)) => eaBytes_same A A' c c' B B' (mac k b) W hh hh'
  rw [hml] at CE
  go_wp2_with fail
  refine (CE.out _ _ _ _ _ _ _ h33 h4).mono ?_
  rintro e w' ⟨rfl, rfl⟩
  clear h4
  rcases Nat.lt_trichotomy k.length 64 with hlt | heq | hgt
  · have HKE : Hid (mac (k ++ [0]) b = mac k b) := Lib.hid (mac_key (key64_snoc k hlt) b)
    have HMO2 : Hid (macOut (k ++ [0]) b = mac (k ++ [0]) b) := Lib.hid (by unfold macOut; rw [if_neg (by simp; omega)])
    have hk0 : (k ++ [0]).length = k.length + 1 := by simp
    have HK1 := Lib.hid (h13.kept (w' := w3.alloc (.cells #[] 5)) fun p hp => World.cell?_of_block (Below.heap_alloc w3 _ p.block hp))
    have CI := Lib.hid fun A A' c c' W hT (hh : Has W W.heap.size A (k ++ [0])) (hh' : Has W W.heap.size A' b) => implShaMac_any A A' c c' (k ++ [0]) b W (by omega) (by omega) hT hh hh'
    rw [HMO2.out, HKE.out, hk0] at CI
    have hlt1 : ∀ q, (Value.slice (some ⟨w3.heap.size, 0, none⟩) 0 0).ownBlock = some q → w3.heap.size ≤ q := fun q hq => by simp [Value.ownBlock] at hq; omega
    have HL1 := Lib.hid hlt1
    clear hlt1
    go_wp2_with (first
      | (at_builtin; refine wpList_pushAll rfl (.tmp 31) (.tmp 32) rfl w3.heap.size _ [] rfl (own_empty (Nat.le_refl _)) _ A1 c1 k rfl HK1.out (by simp; omega) (by simp) ?_; intro v5 w5 ho5 hg5; rw [List.nil_append] at ho5)
      | (at_builtin; refine wpList_push1 rfl (.tmp 33) (.tmp 34) rfl w3.heap.size v5 k rfl ho5 0 w5.heap.size rfl rfl (by omega) (by have := hg5.size; simp at this; omega) ?_; intro g6 c6 w6 ho6 hg6))
    have hb5 : Below w3.heap.size w3 w5 := ((Below.refl _ w3).alloc (Nat.le_refl _) _).grown hg5 (by simp) HL1.out
    have hb6 : Below w3.heap.size w3 w6 := (hb5.alloc hb5.size _).grown hg6 (by have := hb5.size; simp; omega) (fun q hq => (World.ownsRow.lt ho5 q hq).1)
    have h26 := h23.carry hb6 (Nat.le_refl _) hb6.size
    have h36 := h33.carry hb6 (Nat.le_refl _) hb6.size
    have B6 : Below w.heap.size w w6 := B3.trans (hb6.mono z3)
    refine (CI.out _ A2 c6 c2 w6 (HT.out _ B6) ho6.reads h26).mono ?_
    rintro e w7 ⟨v7, rfl, ho7, hb7⟩
    obtain ⟨A7, c7, hv, -, h7⟩ := ho7.has
    rw [hml] at hv
    subst hv
    have h37 := h36.carry hb7 (Nat.le_refl _) hb7.size
    have B7 : Below w.heap.size w w7 := B6.trans (hb7.mono B6.size)
    clear hb5 hb6 h26 h36 ho5 ho6 hg5 hg6 ho7 hb7 CI h13 h23 h33 B6 hk0
    go_wp2_with fail
    refine (CE.out _ _ _ _ _ _ _ h7 h37).mono ?_
    rintro e w' ⟨rfl, rfl⟩
    go_wp2_with fail
    go_ret
    exact ⟨rfl, B7⟩
  · go_wp2_with fail
    go_ret
    exact ⟨rfl, B3⟩
  · have HSO : Hid (shaOut k = sha k) := Lib.hid (by unfold shaOut; rw [if_neg (by omega)])
    have hsl := sha_length k
    have HKE : Hid (mac (sha k) b = mac k b) := Lib.hid (mac_key (key64_sha k hgt) b)
    have HMO2 : Hid (macOut (sha k) b = mac (sha k) b) := Lib.hid (by unfold macOut; rw [if_neg (by omega)])
    have CI := Lib.hid fun A A' c c' W hT (hh : Has W W.heap.size A (sha k)) (hh' : Has W W.heap.size A' b) => implShaMac_any A A' c c' (sha k) b W (by omega) (by omega) hT hh hh'
    rw [HMO2.out, HKE.out, hsl] at CI
    go_wp2_with fail
    refine (implShaSum_any A1 c1 k w3 (by omega) (HT.out _ B3) h13).mono ?_
    rw [HSO.out]
    rintro e w5 ⟨v5, rfl, ho5, hb5⟩
    obtain ⟨A5, c5, hv, -, h5⟩ := ho5.has
    rw [hsl] at hv
    subst hv
    have h25 := h23.carry hb5 (Nat.le_refl _) hb5.size
    have h35 := h33.carry hb5 (Nat.le_refl _) hb5.size
    have B5 : Below w.heap.size w w5 := B3.trans (hb5.mono z3)
    clear ho5 hb5 h13 h23 h33 B3
    go_wp2_with fail
    refine (CI.out A5 A2 c5 c2 w5 (HT.out _ B5) h5 h25).mono ?_
    rintro e w7 ⟨v7, rfl, ho7, hb7⟩
    obtain ⟨A7, c7, hv, -, h7⟩ := ho7.has
    rw [hml] at hv
    subst hv
    have h37 := h35.carry hb7 (Nat.le_refl _) hb7.size
    have B7 : Below w.heap.size w w7 := B5.trans (hb7.mono B5.size)
    clear ho7 hb7 h25 h35 B5 h5 CI
    go_wp2_with fail
    refine (CE.out _ _ _ _ _ _ _ h7 h37).mono ?_
    rintro e w' ⟨rfl, rfl⟩
    go_wp2_with fail
    go_ret
    exact ⟨rfl, B7⟩

theorem fnMacKey_walk (A : Option Addr) (c : Nat) (l : List UInt8) (w : World) (hT : Tabs w) (h : Has w w.heap.size A l) (hc : l.length ≤ c) :
    Calls Tryd.prog 5 #[.slice A l.length c] w fun e w' => e = .returned (.bool true) ∧ Below w.heap.size w w' := by
  by_cases hbig : 1048576 < l.length
  · have hb : (1048576 : Int) < (l.length : Int) := by omega
    go_enter Tryd.func5, Tryd.ntmps5
    go_wp2
    go_ret
    exact ⟨rfl, Below.refl _ _⟩
  · exact fnMacKey_small A c l w hT h hc (by omega)
end Go.Proofs.YtadefoeolbhnmaaDoor
