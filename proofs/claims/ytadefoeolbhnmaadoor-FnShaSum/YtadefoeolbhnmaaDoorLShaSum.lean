/-
  DrawShaSum draws at most 501 bytes; the law FnShaSum returns true for every list of bytes. Condition: the program's two tables are the standard's.
-/
import Derived.Test.YtadefoeolbhnmaaDoorLExactShaSum
import Derived.Test.YtadefoeolbhnmaaDoorDrawM
import Derived.Test.YtadefoeolbhnmaaDoorEaB
import Derived.Test.YtadefoeolbhnmaaDoorHexI
import Derived.Test.YtadefoeolbhnmaaDoorShaT
import Derived.Lib.SlBytesConst
namespace Go.Proofs.YtadefoeolbhnmaaDoor
open Go.RowKit

set_option maxHeartbeats 400000 in
theorem odd_any (g p : Nat) (w : World) (h : Rdr w g p) (hp : p ≤ 1000000000) :
    Calls Tryd.prog 22 #[.pointer (some ⟨g, 0, none⟩), .int .i64 12] w fun e w' => ∃ b : Bool, e = .returned (.bool b) ∧ ∃ p', p' ≤ p + 1 ∧ Rdr w' g p' ∧ w.grownBy w' (some g) := by
  go_enter Tryd.func22, Tryd.ntmps22
  go_wp2_with fail
  refine (pick_any g p _ _ h (by omega) (by omega) (by omega)).mono ?_
  rintro e w1 ⟨k1, rfl, -, -, hr1, hg1, -⟩
  go_wp2_with fail
  go_ret
  exact ⟨_, rfl, p + 1, Nat.le_refl _, hr1, hg1⟩
theorem own_made {w : World} {base n : Nat} {v : Value} (h : w.ownsRow base 5 1 v n (madeCells (Value.int .u8 0).cells (n * 1)).toList) : Own w base v (List.replicate n 0) := by
  unfold Own
  rw [Nat.mul_one] at h
  have e : (madeCells (Value.int .u8 0).cells n).toList = List.replicate n (.int .u8 0) := toList_madeCells_one _ _
  rw [List.length_replicate, List.map_replicate, show bv 0 = .int .u8 0 from rfl, ← e]
  exact h
set_option maxHeartbeats 400000 in
theorem drawShaSum_any (A : Option Addr) (c : Nat) (l : List UInt8) (w : World) (hs : l.length ≤ 1073741824) (hc : l.length ≤ c) (h : Has w w.heap.size A l) :
    Calls Tryd.prog 8 #[.slice A l.length c] w fun e w' => ∃ A1 c1, ∃ b : List UInt8, e = .returned (.slice A1 b.length c1) ∧ Has w' w'.heap.size A1 b ∧ b.length ≤ 501 ∧ Below w.heap.size w w' := by
  obtain ⟨i0, hi, hz0, hz1, hz2⟩ := info_parts info8
  go_enter Tryd.func8, Tryd.ntmps8
  go_wp2_with fail
  refine (l20Open_any A c l _ hs hc h).mono ?_
  rintro e w1 ⟨rfl, hr, hb⟩
  have hz := hr.lt
  go_wp2_with fail
  refine (l20Bytes_any _ 0 130 130 rfl _ hr (by omega) (by omega)).mono ?_
  rintro e w2 ⟨v, k, p', rfl, ho, hl, hp, hr2, hg⟩
  have hb2 := below_of_grown hb hg (Nat.le_refl _) (by omega)
  have hz2' := hg.size
  clear hg hr hb
  go_wp2_with fail
  refine (odd_any _ p' _ hr2 (by omega)).mono ?_
  rintro e w3 ⟨bb, rfl, p3, hp3, hr3, hg3⟩
  have hb3 := below_of_grown hb2 hg3 (Nat.le_refl _) (by omega)
  have hz3 := hr3.lt
  cases bb
  · have ho2 : Own w3 w1.heap.size v k := ho.keep hg3 (by
      cases hv : v.ownBlock with
      | none => exact .inl rfl
      | some q =>
        refine .inr fun e => ?_
        have := (World.ownsRow.lt ho q hv).1
        injection e with e
        omega)
    obtain ⟨A1, c1, rfl, -, h1⟩ := ho2.has
    go_wp2_with fail
    go_ret
    exact ⟨A1, c1, k, rfl, h1, by omega, hb3⟩
  · go_wp2_with fail
    refine (pick_any _ p3 _ _ hr3 (by omega) (by omega) (by omega)).mono ?_
    rintro e w4 ⟨k1, rfl, hk1, -, -, hg4, -⟩
    have hb4 := below_of_grown hb3 hg4 (Nat.le_refl _) (by omega)
    have hz4 := hb4.size
    have hk2 := hk1 (by omega)
    clear hk1 ho hg3 hr2 hr3 hg4 hb3 hb2
    obtain ⟨n, hn⟩ : ∃ n, 500 + k1 = n := ⟨_, rfl⟩
    have hn' : 500 + (k1 : Int) = (n : Int) := by omega
    have hn5 : n ≤ 501 := by omega
    go_wp2_with (at_make; refine wpList_make_full _ rfl _ _ 22 rfl w4.heap.size 5 i0 (.int .u8 0) 1 Tryd.underlying22 hi hz0 hz1 _ _ _ _ n rfl rfl rfl rfl (by rw [hz2]; omega) (by unfold maxLen; omega) (Nat.le_refl _) ?_; intro w5 hown hgrow)
    have hb5 : Below w.heap.size w w5 := hb4.grown hgrow hz4 (fun _ e => by cases e)
    have ho5 := (own_made hown).reads
    go_ret
    exact ⟨some ⟨w4.heap.size, 0, none⟩, n, List.replicate n 0, by rw [List.length_replicate]; rfl, ho5, by rw [List.length_replicate]; omega, hb5⟩

theorem sumNil (A : Option Addr) (c : Nat) (W : World) (hT : Tabs W) : Calls Tryd.prog 9 #[.slice A 0 c] W fun e w' => ∃ A' c', e = .returned (.slice A' 32 c') ∧ Has w' w'.heap.size A' (sha []) ∧ Below W.heap.size W w' :=
  (implShaSum_any A c [] W (by simp) hT (.inl rfl)).mono fun e w' ⟨v, he, ho, hb⟩ => by
    obtain ⟨A', c', hv, -, h⟩ := ho.has
    have hl : (shaOut []).length = 32 := sha_length []
    rw [hl] at hv
    subst hv
    exact ⟨A', c', he, h, hb⟩
theorem sumAbc (A : Option Addr) (c : Nat) (W : World) (hT : Tabs W) (hh : Has W W.heap.size A [97, 98, 99]) : Calls Tryd.prog 9 #[.slice A 3 c] W fun e w' => ∃ A' c', e = .returned (.slice A' 32 c') ∧ Has w' w'.heap.size A' (sha [97, 98, 99]) ∧ Below W.heap.size W w' :=
  (implShaSum_any A c [97, 98, 99] W (by simp) hT hh).mono fun e w' ⟨v, he, ho, hb⟩ => by
    obtain ⟨A', c', hv, -, h⟩ := ho.has
    have hl : (shaOut [97, 98, 99]).length = 32 := sha_length [97, 98, 99]
    rw [hl] at hv
    subst hv
    exact ⟨A', c', he, h, hb⟩
theorem hexNil (A : Option Addr) (c : Nat) (W : World) (hh : Has W W.heap.size A (sha [])) : Calls Tryd.prog 12 #[.slice A 32 c] W fun e w' => e = .returned (.string ⟨#[101, 51, 98, 48, 99, 52, 52, 50, 57, 56, 102, 99, 49, 99, 49, 52, 57, 97, 102, 98, 102, 52, 99, 56, 57, 57, 54, 102, 98, 57, 50, 52, 50, 55, 97, 101, 52, 49, 101, 52, 54, 52, 57, 98, 57, 51, 52, 99, 97, 52, 57, 53, 57, 57, 49, 98, 55, 56, 53, 50, 98, 56, 53, 53]⟩) ∧ Below W.heap.size W w' := by
  have := implHexText_any A c (sha []) W (by rw [sha_length]; omega) hh
  rw [sha_length, sha_nil] at this
  exact this
theorem hexAbc (A : Option Addr) (c : Nat) (W : World) (hh : Has W W.heap.size A (sha [97, 98, 99])) : Calls Tryd.prog 12 #[.slice A 32 c] W fun e w' => e = .returned (.string ⟨#[98, 97, 55, 56, 49, 54, 98, 102, 56, 102, 48, 49, 99, 102, 101, 97, 52, 49, 52, 49, 52, 48, 100, 101, 53, 100, 97, 101, 50, 50, 50, 51, 98, 48, 48, 51, 54, 49, 97, 51, 57, 54, 49, 55, 55, 97, 57, 99, 98, 52, 49, 48, 102, 102, 54, 49, 102, 50, 48, 48, 49, 53, 97, 100]⟩) ∧ Below W.heap.size W w' := by
  have := implHexText_any A c (sha [97, 98, 99]) W (by rw [sha_length]; omega) hh
  rw [sha_length, sha_abc] at this
  exact this

theorem wpList_unguard {P : Program} {ops : Array Oper} {rest : List Oper} {o : Oper} {a : Act} {w : World} {Q : Exit → Act → World → Prop} (hw : Region.wanted o (yielded ops a.tmps) = true)
    (h : wpList P ops Q ({ o with guard := none } :: rest) a w) : wpList P ops Q (o :: rest) a w := by
  unfold wpList at h ⊢
  rw [if_pos hw]
  rw [if_pos (by simp [Region.wanted])] at h
  exact h
/-- The world with the three bytes of abc. -/
def withAbc (w : World) : World := w.alloc (.cells #[.int .u8 97, .int .u8 98, .int .u8 99] 5 (3, 4))
theorem withAbc_size (w : World) : (withAbc w).heap.size = w.heap.size + 1 := by simp [withAbc]
theorem withAbc_has (w : World) : Has (withAbc w) (withAbc w).heap.size (some ⟨w.heap.size, 0, none⟩) [97, 98, 99] :=
  .inr ⟨_, _, rfl, by rw [withAbc_size]; omega, fun i x hx => by
    unfold withAbc
    rw [Nat.zero_add, cell_of_row _ _ i _ _ _ (heap_alloc_new w _)]
    match i, hx with
    | 0, hx => cases hx; rfl
    | 1, hx => cases hx; rfl
    | 2, hx => cases hx; rfl⟩
set_option maxHeartbeats 2000000 in
theorem fnShaSum_small (A : Option Addr) (c : Nat) (l : List UInt8) (w : World) (hT : Tabs w) (h : Has w w.heap.size A l) (hc : l.length ≤ c) (hs : l.length ≤ 1048576) :
    Calls Tryd.prog 3 #[.slice A l.length c] w fun e w' => e = .returned (.bool true) ∧ Below w.heap.size w w' := by
  have hb : (l.length : Int) ≤ 1048576 := by omega
  have HT : Hid (∀ W, Below w.heap.size w W → Tabs W) := Lib.hid fun W hb => hT.below hb hT.2.2
  clear hT
  go_enter Tryd.func3, Tryd.ntmps3
  go_wp2_with fail
  refine (drawShaSum_any A c l _ (by omega) hc h).mono ?_
  rintro e w1 ⟨A1, c1, b, rfl, h1, hbl, B1⟩
  have z1 := B1.size
  have hol := shaOut_length_le b
  clear h
  go_wp2_with fail
  refine (implShaSum_any A1 c1 b w1 (by omega) (HT.out _ B1) h1).mono ?_
  rintro e w2 ⟨v2, rfl, ho2, hb2⟩
  obtain ⟨A2, c2, rfl, -, h2⟩ := ho2.has
  have B2 : Below w.heap.size w w2 := B1.trans (hb2.mono z1)
  have z2 := B2.size
  have h12 := h1.carry hb2 (Nat.le_refl _) hb2.size
  clear ho2 hb2 h1 B1
  go_wp2_with fail
  refine (specShaSum_any A1 c1 b w2 (by omega) h12).mono ?_
  rintro e w3 ⟨v3, rfl, ho3, hb3⟩
  obtain ⟨A3, c3, rfl, -, h3⟩ := ho3.has
  have B3 : Below w.heap.size w w3 := B2.trans (hb3.mono z2)
  have z3 := B3.size
  have h13 := h12.carry hb3 (Nat.le_refl _) hb3.size
  have h23 := h2.carry hb3 (Nat.le_refl _) hb3.size
  clear ho3 hb3 h12 h2 B2
  go_wp2_with fail
  refine (eaBytes_same _ _ _ _ _ _ (shaOut b) _ h23 h3).mono ?_
  rintro e w' ⟨rfl, rfl⟩
  clear h3
  go_wp2_with fail
  refine (sumNil _ _ _ (HT.out _ (B3.alloc z3 _))).mono ?_
  rintro e w4 ⟨A4, c4, rfl, h4, hb4⟩
  have hb4' : Below w3.heap.size w3 w4 := ((Below.refl _ w3).alloc (Nat.le_refl _) _).trans (hb4.mono (by simp))
  have B4 : Below w.heap.size w w4 := B3.trans (hb4'.mono z3)
  have z4 := B4.size
  have h14 := h13.carry hb4' (Nat.le_refl _) hb4'.size
  have h24 := h23.carry hb4' (Nat.le_refl _) hb4'.size
  clear hb4 hb4' B3 h13 h23
  go_wp2_with fail
  refine (hexNil A4 c4 w4 h4).mono ?_
  rintro e w5 ⟨rfl, hb5⟩
  have B5 : Below w.heap.size w w5 := B4.trans (hb5.mono z4)
  have z5 := B5.size
  have h15 := h14.carry hb5 (Nat.le_refl _) hb5.size
  have h25 := h24.carry hb5 (Nat.le_refl _) hb5.size
  clear hb5 B4 h14 h24 h4
  have hcv : (convert 22 22 (.slice (some ⟨w5.heap.size, 0, none⟩) 3 3)).run Tryd.prog (w5.alloc (.cells #[.int .u8 97, .int .u8 98, .int .u8 99] 5)) = .ok (.slice (some ⟨w5.heap.size, 0, none⟩) 3 3) (withAbc w5) :=
    Lib.run_convert_bytes_const w5 _ _ #[.int .u8 97, .int .u8 98, .int .u8 99] 3 3 Tryd.underlying22 Tryd.underlying5
  go_wp2_with fail
  refine (sumAbc _ _ _ (HT.out _ (B5.alloc z5 _)) (withAbc_has w5)).mono ?_
  rintro e w6 ⟨A6, c6, rfl, h6, hb6⟩
  have hb6' : Below w5.heap.size w5 w6 := ((Below.refl _ w5).alloc (Nat.le_refl _) _).trans (hb6.mono (by simp))
  have B6 : Below w.heap.size w w6 := B5.trans (hb6'.mono z5)
  have z6 := B6.size
  have h16 := h15.carry hb6' (Nat.le_refl _) hb6'.size
  have h26 := h25.carry hb6' (Nat.le_refl _) hb6'.size
  clear hb6 hb6' B5 h15 h25 hcv
  go_wp2_with fail
  refine (hexAbc A6 c6 w6 h6).mono ?_
  rintro e w7 ⟨rfl, hb7⟩
  have B7 : Below w.heap.size w w7 := B6.trans (hb7.mono z6)
  have z7 := B7.size
  have h17 := h16.carry hb7 (Nat.le_refl _) hb7.size
  have h27 := h26.carry hb7 (Nat.le_refl _) hb7.size
  clear hb7 B6 h16 h26 h6
  by_cases h500 : 500 < b.length
  · have ho : (shaOut b).length = 0 := by unfold shaOut; rw [if_pos h500]; rfl
    have h5 : (500 : Int) < (b.length : Int) := by omega
    go_wp2_with fail
    go_ret
    exact ⟨rfl, B7⟩
  · have ho : (shaOut b).length = 32 := by unfold shaOut; rw [if_neg h500]; exact sha_length b
    have h5 : (b.length : Int) ≤ 500 := by omega
    have HK0 := Lib.hid (h17.kept (w' := w7.alloc (.cells #[] 5)) fun p hp => World.cell?_of_block (Below.heap_alloc w7 _ p.block hp))
    have hlt1 : ∀ q, (Value.slice (some ⟨w7.heap.size, 0, none⟩) 0 0).ownBlock = some q → w7.heap.size ≤ q := fun q hq => by simp [Value.ownBlock] at hq; omega
    have HL1 := Lib.hid hlt1
    have CE := Lib.hid fun A A' c c' B B' W (hh : Has W B A (shaOut b)) (hh' : Has W B' A' (shaOut b)) => eaBytes_same A A' c c' B B' (shaOut b) W hh hh'
    rw [ho] at CE
    clear hlt1
    go_wp2_with (at_builtin; refine wpList_unguard (by rfl) ?_; refine wpList_pushAll rfl (.tmp 40) (.tmp 41) rfl w7.heap.size _ [] rfl (own_empty (Nat.le_refl _)) _ A1 c1 b rfl HK0.out (by simp; omega) (by simp) ?_; intro v8 w8 ho8 hg8; rw [List.nil_append] at ho8; obtain ⟨A8, c8, hv8, -, hh8⟩ := ho8.has; subst hv8)
    have hb8 : Below w7.heap.size w7 w8 := ((Below.refl _ w7).alloc (Nat.le_refl _) _).grown hg8 (by simp) HL1.out
    have B8 : Below w.heap.size w w8 := B7.trans (hb8.mono z7)
    refine (implShaSum_any A8 c8 b w8 (by omega) (HT.out _ B8) hh8).mono ?_
    rintro e w9 ⟨v9, rfl, ho9, hb9⟩
    obtain ⟨A9, c9, hv9, -, h9⟩ := ho9.has
    rw [ho] at hv9
    subst hv9
    have h29 := (h27.carry hb8 (Nat.le_refl _) hb8.size).carry hb9 (Nat.le_refl _) hb9.size
    have B9 : Below w.heap.size w w9 := B8.trans (hb9.mono B8.size)
    clear ho8 hg8 hb8 hh8 ho9 hb9 h27 h17 B7 B8
    go_wp2_with fail
    refine (CE.out _ _ _ _ _ _ _ h9 h29).mono ?_
    rintro e w' ⟨rfl, rfl⟩
    go_wp2_with fail
    go_ret
    exact ⟨rfl, B9⟩

theorem fnShaSum_walk (A : Option Addr) (c : Nat) (l : List UInt8) (w : World) (hT : Tabs w) (h : Has w w.heap.size A l) (hc : l.length ≤ c) :
    Calls Tryd.prog 3 #[.slice A l.length c] w fun e w' => e = .returned (.bool true) ∧ Below w.heap.size w w' := by
  by_cases hbig : 1048576 < l.length
  · have hb : (1048576 : Int) < (l.length : Int) := by omega
    go_enter Tryd.func3, Tryd.ntmps3
    go_wp2
    go_ret
    exact ⟨rfl, Below.refl _ _⟩
  · exact fnShaSum_small A c l w hT h hc (by omega)
end Go.Proofs.YtadefoeolbhnmaaDoor
