/-
  The law FnShaMac returns true for every list of bytes. Condition: the program's two tables are the standard's.
-/
import Derived.Test.YtadefoeolbhnmaaDoorLMacKey
namespace Go.Proofs.YtadefoeolbhnmaaDoor
open Go.RowKit

set_option maxHeartbeats 8000000 in
set_option maxRecDepth 100000 in
theorem fnShaMac_small (A : Option Addr) (c : Nat) (l : List UInt8) (w : World) (hT : Tabs w) (h : Has w w.heap.size A l) (hc : l.length ≤ c) (hs : l.length ≤ 1048576) :
    Calls Tryd.prog 4 #[.slice A l.length c] w fun e w' => e = .returned (.bool true) ∧ Below w.heap.size w w' := by
  have hb : (l.length : Int) ≤ 1048576 := by omega
  have HT : Hid (∀ W, Below w.heap.size w W → Tabs W) := Lib.hid fun W hb => hT.below hb hT.2.2
  clear hT
  go_enter Tryd.func4, Tryd.ntmps4
  go_wp2_with fail
  refine (drawShaMac_any A c l _ (by omega) hc h).mono ?_
  rintro e w1 ⟨A1, c1, A2, c2, k, b, rfl, h1, h2, hk, hbl, B1⟩
  have z1 := B1.size
  have HMO : Hid (macOut k b = mac k b) := Lib.hid (by unfold macOut; rw [if_neg (by omega)])
  have hml := mac_length k b
  clear h
  go_wp2_with fail
  refine (implShaMac_any A1 A2 c1 c2 k b w1 (by omega) (by omega) (HT.out _ B1) h1 h2).mono ?_
  rw [HMO.out]
  rintro e w2 ⟨v2, rfl, ho2, hb2⟩
  obtain ⟨A3, c3, hv, -, h3⟩ := ho2.has
  rw [hml] at hv
  subst hv
  have B2 : Below w.heap.size w w2 := B1.trans (hb2.mono z1)
  have z2 := B2.size
  have h12 := h1.carry hb2 (Nat.le_refl _) hb2.size
  have h22 := h2.carry hb2 (Nat.le_refl _) hb2.size
  clear ho2 hb2 h1 h2 B1
  go_wp2_with fail
  refine (specShaMac_any A1 A2 c1 c2 k b w2 h12 h22).mono ?_
  rw [HMO.out]
  rintro e w3 ⟨v3, rfl, ho3, hb3⟩
  obtain ⟨A4, c4, hv, -, h4⟩ := ho3.has
  rw [hml] at hv
  subst hv
  have B3 : Below w.heap.size w w3 := B2.trans (hb3.mono z2)
  have z3 := B3.size
  have h13 := h12.carry hb3 (Nat.le_refl _) hb3.size
  have h23 := h22.carry hb3 (Nat.le_refl _) hb3.size
  have h33 := h3.carry hb3 (Nat.le_refl _) hb3.size
  clear ho3 hb3 h12 h22 h3 B2
  have CE := Lib.hid fun A A' c c' B B' W (hh : Has W B A (mac k b)) (hh' : Has W B' A' (mac k b)) => eaBytes_same A A' c c' B B' (mac k b) W hh hh'
  rw [hml] at CE
  go_wp2_with fail
  refine (CE.out _ _ _ _ _ _ _ h33 h4).mono ?_
  rintro e w' ⟨rfl, rfl⟩
  clear h4
  have hsk := sha_length k
  have HM : Hid (mac k b = sha ((key64 k).map (· ^^^ 92) ++ sha ((key64 k).map (· ^^^ 54) ++ b))) := Lib.hid rfl
  have HKl := Lib.hid (key64_length k)
  have HK0 := Lib.hid (h13.kept (w' := w3.alloc (.cells #[] 5)) fun p hp => World.cell?_of_block (Below.heap_alloc w3 _ p.block hp))
  have hlt1 : ∀ q, (Value.slice (some ⟨w3.heap.size, 0, none⟩) 0 0).ownBlock = some q → w3.heap.size ≤ q := fun q hq => by simp [Value.ownBlock] at hq; omega
  have CH : Hid (∀ A c l W, l.length ≤ 500 → Tabs W → Has W W.heap.size A l → Calls Tryd.prog 9 #[.slice A l.length c] W fun e w' => ∃ v, e = .returned v ∧ Own w' W.heap.size v (sha l) ∧ Below W.heap.size W w') := Lib.hid fun A c l W hl hT hh => by
    have := implShaSum_any A c l W (by omega) hT hh
    rw [show shaOut l = sha l from by unfold shaOut; rw [if_neg (by omega)]] at this
    exact this
  clear h13
  rcases Nat.lt_or_ge 64 k.length with hlt | hlt
  focus
    have HK : Hid (key64 k = padK (sha k) (64 - (sha k).length)) := Lib.hid (by unfold key64; rw [if_pos hlt]; rfl)
    go_wp2_with (at_builtin; refine wpList_pushAll rfl (.tmp 27) (.tmp 28) rfl w3.heap.size _ [] rfl (own_empty (Nat.le_refl _)) _ A1 c1 k rfl HK0.out (by simp; omega) (by simp) ?_; intro v5 w5 ho5 hg5; obtain ⟨A5, c5, hv5, -, hh5⟩ := ho5.has; rw [List.nil_append] at hv5 hh5; subst hv5)
    have hb5 : Below w3.heap.size w3 w5 := ((Below.refl _ w3).alloc (Nat.le_refl _) _).grown hg5 (by simp) hlt1
    refine (CH.out A5 c5 k w5 (by omega) (HT.out _ (B3.trans (hb5.mono z3))) hh5).mono ?_
    rintro e w6 ⟨v6, rfl, ho6, hb6⟩
    have hbj : Below w3.heap.size w3 w6 := hb5.trans (hb6.mono hb5.size)
    have hoj : Own w6 w3.heap.size v6 (sha k) := ho6.lower hb5.size
    have hj64 : (sha k).length ≤ 64 := by omega
    obtain ⟨j, hjk⟩ : ∃ j, sha k = j := ⟨_, rfl⟩
    rw [hjk] at HK hoj hj64
    clear ho5 hg5 hh5 hb5 hb6 ho6 hsk hjk
    go_wp2_with fail
  rotate_left
  focus
    obtain ⟨j, hjk⟩ : ∃ j, k = j := ⟨_, rfl⟩
    have HK : Hid (key64 k = padK j (64 - j.length)) := Lib.hid (by rw [← hjk]; unfold key64; rw [if_neg (by omega)]; rfl)
    have HJ := Lib.hid hjk
    clear hjk
    go_wp2_with (at_builtin; refine wpList_pushAll rfl (.tmp 27) (.tmp 28) rfl w3.heap.size _ [] rfl (own_empty (Nat.le_refl _)) _ A1 c1 k rfl HK0.out (by simp; omega) (by simp) ?_; intro v6 w6 ho5 hg5; obtain ⟨A5, c5, hv5, -, hh5⟩ := ho5.has; rw [List.nil_append] at hv5 hh5; subst hv5)
    have hbj : Below w3.heap.size w3 w6 := ((Below.refl _ w3).alloc (Nat.le_refl _) _).grown hg5 (by simp) hlt1
    have hoj : Own w6 w3.heap.size (.slice A5 k.length c5) j := by rw [← HJ.out]; exact ho5
    have hj64 : j.length ≤ 64 := by rw [← HJ.out]; exact hlt
    clear ho5 hg5 hh5
  all_goals
    obtain ⟨kk, hkk⟩ : ∃ kk, key64 k = kk := ⟨_, rfl⟩
    rw [hkk] at HM HKl HK
    clear hkk hlt1 HK0
    rw [← padK_zero j] at hoj
    go_loopw [6] (fun v wr => ∃ z : Nat, z ≤ 64 - j.length ∧ Own wr w3.heap.size v (padK j z) ∧ Below w3.heap.size w3 wr) (fun v _ => 64 - (match v with | .slice _ n _ => n | _ => 0))
    case atStart => exact ⟨0, by omega, hoj, hbj⟩
    case round =>
      clear hoj hbj
      obtain ⟨z, hz, hown, hbel⟩ := hrel
      have hws := hbel.size
      obtain ⟨A7, c7, hv, -, h7⟩ := hown.has
      have hpl := padK_length j z
      obtain ⟨m, hm⟩ : ∃ m, j.length + z = m := ⟨_, rfl⟩
      rw [hm] at hpl
      rw [hpl] at hv
      subst hv
      by_cases hlt2 : z < 64 - j.length
      · have hm64 : m < 64 := by omega
        have HS := Lib.hid (padK_succ j z)
        go_wp2_with (at_builtin; refine wpList_push1 rfl (.tmp 38) (.tmp 39) rfl w3.heap.size _ (padK j z) rfl hown 0 wr.heap.size rfl rfl (by omega) (by omega) ?_; intro g4 c4 w4 ho4 hg4)
        have hb4 : Below w3.heap.size w3 w4 := (hbel.alloc hws _).grown hg4 (by simp; omega) (fun k hk => (World.ownsRow.lt hown k hk).1)
        rw [HS.out, hpl] at ho4
        clear hg4 hown h7
        go_wp2
        go_roundw
        case rel => exact ⟨z + 1, by omega, ho4, hb4⟩
        case measure => simp; omega
      · obtain rfl : z = 64 - j.length := by omega
        obtain rfl : m = 64 := by omega
        rw [← HK.out] at h7
        have hkl := HKl.out
        clear hown hpl hm hz hlt2 HK hj64
        obtain ⟨W9, hW9⟩ : ∃ W9, W9 = wr := ⟨_, rfl⟩
        subst hW9
        go_wp2_with fail
        go_loopw [7, 8, 9] (fun u v i wq => ∃ t : Nat, t ≤ 64 ∧ i = .int .i64 t ∧ Twin W9.heap.size ((kk.take t).map (· ^^^ 54)) ((kk.take t).map (· ^^^ 92)) u v wq ∧ Below W9.heap.size W9 wq) (fun _ _ i _ => 64 - (intOf i).toNat)
        case atStart => exact ⟨0, by omega, rfl, twin_new W9, ((Below.refl _ W9).alloc (Nat.le_refl _) _).alloc (by simp) _⟩
        case round =>
          obtain ⟨t, ht, rfl, htw, hbq⟩ := hrel
          have hwz := hbq.size
          by_cases hlt3 : t < 64
          · obtain ⟨bb, o, x, rfl, hbB, hx, hcx⟩ := h7.spot (k := t) (by omega)
            have d1 := (hbq.cell (p := ⟨bb, o + t, none⟩) hbB).trans hcx
            have x1 : bits .xor .u8 (x.toNat : Int) 54 = ((x ^^^ 54).toNat : Int) := xor8 x 54
            have x2 : bits .xor .u8 (x.toNat : Int) 92 = ((x ^^^ 92).toNat : Int) := xor8 x 92
            have HX1 := Lib.hid (mapTake kk (· ^^^ 54) t x hx)
            have HX2 := Lib.hid (mapTake kk (· ^^^ 92) t x hx)
            have l1 : ((kk.take t).map (· ^^^ 54)).length ≤ 64 := by rw [List.length_map, List.length_take]; omega
            have l2 : ((kk.take t).map (· ^^^ 92)).length ≤ 64 := by rw [List.length_map, List.length_take]; omega
            generalize (kk.take t).map (· ^^^ 54) = m1 at *
            generalize (kk.take t).map (· ^^^ 92) = m2 at *
            generalize x ^^^ 54 = y1 at *
            generalize x ^^^ 92 = y2 at *
            have HC := Lib.hid hcx
            clear hx hcx
            go_wp2_with (first
              | (at_builtin; refine wpList_push1L rfl (.tmp 49) (.tmp 55) rfl W9.heap.size _ m1 rfl htw.1 y1 wr.heap.size rfl rfl (by omega) (by omega) ?_; intro g4 c4 w4 ho4 hg4 hor4; have htw4 := htw.push (m' := m1 ++ [y1]) (by simp) ho4 hg4 hor4; have hb4 : Below W9.heap.size W9 w4 := (hbq.alloc hwz _).grown hg4 (by simp; omega) (fun q hq => (World.ownsRow.lt htw.1 q hq).1); have d4 := (hb4.cell (p := ⟨bb, o + t, none⟩) hbB).trans HC.out; have hz4 := hb4.size; clear ho4 hg4 hor4)
              | (at_builtin; refine wpList_push1L rfl (.tmp 57) (.tmp 63) rfl W9.heap.size _ m2 rfl htw4.2.1 y2 w4.heap.size rfl rfl (by omega) (by omega) ?_; intro g5 c5 w5 ho5 hg5 hor5))
            have htw5 := (htw4.swap.push (m' := m2 ++ [y2]) (by simp) ho5 hg5 hor5).swap
            have hb5 : Below W9.heap.size W9 w5 := (hb4.alloc hz4 _).grown hg5 (by simp; omega) (fun q hq => (World.ownsRow.lt htw4.2.1 q hq).1)
            rw [HX1.out, HX2.out] at htw5
            clear htw htw4 d1 d4 x1 x2 ho5 hg5 hor5 hb4
            go_wp2
            go_roundw
            case rel => exact ⟨t + 1, by omega, by go_num, htw5, hb5⟩
            case measure => simp [intOf]; omega
          · obtain rfl : t = 64 := by omega
            rw [show ((64 : Nat) : Int) = 64 from rfl]
            rw [List.take_of_length_le (by omega)] at htw
            have l1 : (kk.map (· ^^^ 54)).length = 64 := by rw [List.length_map, hkl]
            have l2 : (kk.map (· ^^^ 92)).length = 64 := by rw [List.length_map, hkl]
            generalize kk.map (· ^^^ 54) = m1 at *
            generalize kk.map (· ^^^ 92) = m2 at *
            obtain ⟨ml, hml2⟩ : ∃ ml, m1 ++ b = ml := ⟨_, rfl⟩
            have hmll : ml.length ≤ 124 := by rw [← hml2, List.length_append]; omega
            have HML := Lib.hid hml2
            rw [hml2] at HM
            have hsl := sha_length ml
            have CL := Lib.hid fun A c W hT (hh : Has W W.heap.size A ml) => CH.out A c ml W (by omega) hT hh
            generalize sha ml = s1 at *
            obtain ⟨ms, hms⟩ : ∃ ms, m2 ++ s1 = ms := ⟨_, rfl⟩
            have hmsl : ms.length ≤ 96 := by rw [← hms, List.length_append]; omega
            have HMS := Lib.hid hms
            have hbs : m2.length + s1.length ≤ 1000000000 := by omega
            rw [hms] at HM
            have hb3q : Below w3.heap.size w3 wr := hbel.trans (hbq.mono hws)
            have HL' : Hid (Has wr w3.heap.size A2 b) := Lib.hid (h23.below hb3q)
            have HE' : Hid (∀ W, Below w3.heap.size w3 W → Has W W.heap.size A3 (mac k b)) := Lib.hid fun W hb => h33.carry hb (Nat.le_refl _) hb.size
            obtain ⟨hti, hto, gi, ci, go, co, e1, e2, hne⟩ := htw
            have HNE : Hid (u8.ownBlock ≠ u7.ownBlock) := Lib.hid (by rw [e1, e2]; simp [Value.ownBlock]; omega)
            have hTW : Hid (∀ W, Below W9.heap.size W9 W → Tabs W) := Lib.hid fun W hb => HT.out _ (B3.trans ((hbel.trans (hb.mono hws)).mono z3))
            clear hml2 hms e1 e2 hne h7 h23 h33 hsl
            go_wp2_with (at_builtin; refine wpList_pushAll rfl (.tmp 67) (.tmp 68) rfl W9.heap.size u7 m1 rfl hti w3.heap.size A2 c2 b rfl HL'.out (by omega) (by omega) ?_; intro v6 w6 ho6 hg6; rw [HML.out] at ho6; obtain ⟨A6, c6, hv6, -, hh6⟩ := ho6.has; subst hv6)
            have hb6 : Below W9.heap.size W9 w6 := hbq.grown hg6 hwz (fun q hq => (World.ownsRow.lt hti q hq).1)
            have hoo6 := hto.keep hg6 (.inr HNE.out)
            refine (CL.out A6 c6 w6 (hTW.out _ hb6) hh6).mono ?_
            rintro e w7 ⟨v7, rfl, ho7, hb7⟩
            obtain ⟨A8, c8, hv7, -, hh7⟩ := ho7.has
            subst hv7
            have hoo7 := hoo6.below hb7 (Nat.le_refl _)
            have hb7' : Below W9.heap.size W9 w7 := hb6.trans (hb7.mono hb6.size)
            have hz7 := hb7'.size
            clear ho6 hg6 hh6 hti hto hoo6 hb6 hb7 ho7 CL
            go_wp2_with (at_builtin; refine wpList_pushAll rfl (.tmp 66) (.tmp 70) rfl W9.heap.size u8 m2 rfl hoo7 w7.heap.size A8 c8 s1 rfl hh7 hbs hz7 ?_; intro v8 w8 ho8 hg8; rw [HMS.out] at ho8; obtain ⟨A9, c9, hv8, -, hh8⟩ := ho8.has; subst hv8)
            have hb8 : Below W9.heap.size W9 w8 := hb7'.grown hg8 hz7 (fun q hq => (World.ownsRow.lt hoo7 q hq).1)
            refine (CH.out A9 c9 ms w8 (by omega) (hTW.out _ hb8) hh8).mono ?_
            rw [← HM.out]
            rintro e w9 ⟨v9, rfl, ho9, hb9⟩
            obtain ⟨A10, c10, hv9, -, h9⟩ := ho9.has
            rw [hml] at hv9
            subst hv9
            have hb93 : Below w3.heap.size w3 w9 := hbel.trans ((hb8.trans (hb9.mono hb8.size)).mono hws)
            have B9 : Below w.heap.size w w9 := B3.trans (hb93.mono z3)
            clear ho9 hb9 hb8 ho8 hg8 hh8 hoo7
            go_wp2_with fail
            refine (CE.out _ _ _ _ _ _ _ (HE'.out _ hb93) h9).mono ?_
            rintro e w' ⟨rfl, rfl⟩
            go_wp2_with fail
            go_ret
            exact ⟨rfl, B9⟩

theorem fnShaMac_walk (A : Option Addr) (c : Nat) (l : List UInt8) (w : World) (hT : Tabs w) (h : Has w w.heap.size A l) (hc : l.length ≤ c) :
    Calls Tryd.prog 4 #[.slice A l.length c] w fun e w' => e = .returned (.bool true) ∧ Below w.heap.size w w' := by
  by_cases hbig : 1048576 < l.length
  · have hb : (1048576 : Int) < (l.length : Int) := by omega
    go_enter Tryd.func4, Tryd.ntmps4
    go_wp2
    go_ret
    exact ⟨rfl, Below.refl _ _⟩
  · exact fnShaMac_small A c l w hT h hc (by omega)
end Go.Proofs.YtadefoeolbhnmaaDoor
