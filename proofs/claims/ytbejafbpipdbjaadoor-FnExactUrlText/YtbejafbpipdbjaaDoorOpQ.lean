/-
  toOpOpS copies operations, szOpOpS counts them, eqOpOpS tells that the same are the same, markOpOpS writes counted marks, heldOpOpS finds them. Conditions: at most 2^30 operations; the first mark is at most 2^30.
-/
import Derived.Test.YtbejafbpipdbjaaDoorPush
import Derived.Test.YtbejafbpipdbjaaDoorOpO
import Derived.Test.YtbejafbpipdbjaaDoorOpVal
import Derived.Test.YtbejafbpipdbjaaDoorOpTo
import Derived.StillTailTactics
namespace Go.Proofs.YtbejafbpipdbjaaDoor
set_option maxRecDepth 4000
open Go.RowKit

theorem rowO_below {w w' : World} {base B : Nat} {e : TypeId} {size : Nat} {v : Value} {n : Nat} {xs : List Value} (h : w.ownsRow base e size v n xs) (hb : Below B w w') (hB : w.heap.size ≤ B) : w'.ownsRow base e size v n xs := by
  refine ⟨h.1, ?_⟩
  rcases h.2 with hn | ⟨g, cap, cur, rfl, hg, hh, rest⟩
  · exact .inl hn
  · exact .inr ⟨g, cap, cur, rfl, hg, (hb.block g (Nat.lt_of_lt_of_le (Array.getElem?_eq_some_iff.1 hh).1 hB)).trans hh, rest⟩
def partO (l : List Op) (k : Nat) : List Value := opE.flat (l.take k) ++ List.replicate ((l.length - k) * 5) (.int .i64 0)
theorem partO_all (l : List Op) : partO l l.length = opE.flat l := by simp [partO]
theorem madeO (n : Nat) : (madeCells (Value.agg #[.int .i64 0, .int .i64 0, .int .i64 0, .int .i64 0, .int .i64 0]).cells (n * 5)).toList = List.replicate (n * 5) (.int .i64 0) := by
  apply List.ext_getElem?
  intro i
  by_cases hi : i < n * 5
  · have h2 : i % 5 = 0 ∨ i % 5 = 1 ∨ i % 5 = 2 ∨ i % 5 = 3 ∨ i % 5 = 4 := by omega
    rcases h2 with h2 | h2 | h2 | h2 | h2 <;> simp [madeCells, hi, Value.cells, h2]
  · simp [madeCells, hi]
theorem partO_zero (l : List Op) : partO l 0 = List.replicate (l.length * 5) (.int .i64 0) := by simp [partO, El.flat_nil]
theorem flatO_length (l : List Op) : (opE.flat l).length = l.length * 5 := El.flat_length opE l
theorem partO_length (l : List Op) (k : Nat) (hk : k ≤ l.length) : (partO l k).length = l.length * 5 := by
  simp only [partO, List.length_append, flatO_length, List.length_take, List.length_replicate]
  omega
theorem partO_set (l : List Op) (k : Nat) (p : Op) (hp : l[k]? = some p) : ((((((partO l k)).set (k * 5) (.int .i64 p.k)).set (k * 5 + 1) (.int .i64 p.a)).set (k * 5 + 2) (.int .i64 p.b)).set (k * 5 + 3) (.int .i64 p.c)).set (k * 5 + 4) (.int .i64 p.d) = partO l (k + 1) := by
  obtain ⟨hk, hpk⟩ := List.getElem?_eq_some_iff.1 hp
  have h1 : (opE.flat (l.take k)).length = k * 5 := by rw [flatO_length, List.length_take]; omega
  obtain ⟨m, hm⟩ : ∃ m, l.length - k = m + 1 := ⟨l.length - k - 1, by omega⟩
  unfold partO
  rw [List.set_append_right _ _ (by omega), List.set_append_right _ _ (by omega), List.set_append_right _ _ (by omega), List.set_append_right _ _ (by omega), List.set_append_right _ _ (by omega), h1, Nat.sub_self, show k * 5 + 1 - k * 5 = 1 from by omega, show k * 5 + 2 - k * 5 = 2 from by omega, show k * 5 + 3 - k * 5 = 3 from by omega, show k * 5 + 4 - k * 5 = 4 from by omega, hm, show l.length - (k + 1) = m from by omega,
    show (m + 1) * 5 = m * 5 + 1 + 1 + 1 + 1 + 1 from by omega, List.replicate_succ, List.replicate_succ, List.replicate_succ, List.replicate_succ, List.replicate_succ]
  simp only [List.set_cons_zero, List.set_cons_succ]
  rw [List.take_add_one, hp, El.flat_append]
  simp [El.flat, opE, Op.cells]
theorem flatO_set (l : List Op) (k : Nat) (p : Op) (hk : k < l.length) : ((((((opE.flat l)).set (k * 5) (.int .i64 p.k)).set (k * 5 + 1) (.int .i64 p.a)).set (k * 5 + 2) (.int .i64 p.b)).set (k * 5 + 3) (.int .i64 p.c)).set (k * 5 + 4) (.int .i64 p.d) = opE.flat (l.set k p) := by
  have h : l = l.take k ++ l[k] :: l.drop (k + 1) := by rw [← List.drop_eq_getElem_cons hk, List.take_append_drop]
  have h1 : (opE.flat (l.take k)).length = k * 5 := by rw [flatO_length, List.length_take]; omega
  have e1 : opE.flat l = opE.flat (l.take k) ++ (Op.cells l[k] ++ opE.flat (l.drop (k + 1))) := by
    conv => lhs; rw [h, El.flat_append, El.flat_cons]
    rfl
  have e2 : opE.flat (l.set k p) = opE.flat (l.take k) ++ (Op.cells p ++ opE.flat (l.drop (k + 1))) := by
    rw [List.set_eq_take_append_cons_drop, if_pos hk, El.flat_append, El.flat_cons]
    rfl
  rw [e1, e2, List.set_append_right _ _ (by omega), List.set_append_right _ _ (by omega), List.set_append_right _ _ (by omega), List.set_append_right _ _ (by omega), List.set_append_right _ _ (by omega), h1, Nat.sub_self, show k * 5 + 1 - k * 5 = 1 from by omega, show k * 5 + 2 - k * 5 = 2 from by omega, show k * 5 + 3 - k * 5 = 3 from by omega, show k * 5 + 4 - k * 5 = 4 from by omega]
  rfl
theorem szOpOpS_any (A : Option Addr) (n c : Nat) (M : Int) (w : World) (hM : 0 ≤ M ∧ M ≤ 1048576) (hn : n ≤ maxLen) :
    Calls Tryd.prog 47 #[.slice A n c, .int .i64 M] w fun e w' => e = .returned (.int .i64 (if (n : Int) ≤ M then M - (n : Int) else -1)) ∧ w' = w := by
  have u1 := IntWalk.i64_in (M - (n : Int)) (by unfold maxLen at hn; omega)
  clear hn
  by_cases h : (n : Int) ≤ M
  · rw [if_pos h]
    have hb : ¬ (M - (n : Int) < 0) := by omega
    clear h hM
    go_enter Tryd.func47, Tryd.ntmps47
    go_wp2
    go_ret
    exact ⟨rfl, rfl⟩
  · rw [if_neg h]
    have hb : M - (n : Int) < 0 := by omega
    clear h hM
    go_enter Tryd.func47, Tryd.ntmps47
    go_wp2
    go_ret
    exact ⟨rfl, rfl⟩
set_option maxHeartbeats 400000 in
theorem eqOpOp_same (p : Op) (w : World) :
    Calls Tryd.prog 16 #[.agg #[.int .i64 p.k, .int .i64 p.a, .int .i64 p.b, .int .i64 p.c, .int .i64 p.d], .agg #[.int .i64 p.k, .int .i64 p.a, .int .i64 p.b, .int .i64 p.c, .int .i64 p.d]] w fun e w' => e = .returned (.bool true) ∧ Below w.heap.size w w' := by
  go_enter Tryd.func16, Tryd.ntmps16
  go_wp2
  go_ret
  exact ⟨rfl, ((Below.refl _ w).alloc (Nat.le_refl _) _).alloc (by simp) _⟩
set_option maxHeartbeats 400000 in
theorem eqOpOpS_same (A A' : Option Addr) (c c' : Nat) (l : List Op) (w : World) (hs : l.length ≤ 1073741824) (h : opE.Has w w.heap.size A l) (h' : opE.Has w w.heap.size A' l) :
    Calls Tryd.prog 54 #[.slice A l.length c, .slice A' l.length c'] w fun e w' => e = .returned (.bool true) ∧ Below w.heap.size w w' := by
  go_enter Tryd.func54, Tryd.ntmps54
  go_wp2
  go_loopw [5] (fun i wr => ∃ k : Nat, k ≤ l.length ∧ i = .int .i64 k ∧ Below w.heap.size w wr) (fun i _ => l.length - (intOf i).toNat)
  case atStart => exact ⟨0, Nat.zero_le _, rfl, Below.refl _ _⟩
  case round =>
    obtain ⟨k, hk, rfl, hbel⟩ := hrel
    by_cases hlt : k < l.length
    · obtain ⟨b, o, p, rfl, hbB, hp, hc⟩ := (h.below hbel).spot hlt
      obtain ⟨b', o', p', rfl, hbB', hp', hc'⟩ := (h'.below hbel).spot hlt
      obtain rfl : p = p' := by rw [hp] at hp'; injection hp'
      have d0 : wr.drew.cell? ⟨b, o + k * 5, none⟩ = _ := hc 0 _ rfl
      have d0' : wr.drew.cell? ⟨b', o' + k * 5, none⟩ = _ := hc' 0 _ rfl
      have d1 : wr.drew.cell? ⟨b, o + k * 5 + 1, none⟩ = _ := hc 1 _ rfl
      have d1' : wr.drew.cell? ⟨b', o' + k * 5 + 1, none⟩ = _ := hc' 1 _ rfl
      have d2 : wr.drew.cell? ⟨b, o + k * 5 + 2, none⟩ = _ := hc 2 _ rfl
      have d2' : wr.drew.cell? ⟨b', o' + k * 5 + 2, none⟩ = _ := hc' 2 _ rfl
      have d3 : wr.drew.cell? ⟨b, o + k * 5 + 3, none⟩ = _ := hc 3 _ rfl
      have d3' : wr.drew.cell? ⟨b', o' + k * 5 + 3, none⟩ = _ := hc' 3 _ rfl
      have d4 : wr.drew.cell? ⟨b, o + k * 5 + 4, none⟩ = _ := hc 4 _ rfl
      have d4' : wr.drew.cell? ⟨b', o' + k * 5 + 4, none⟩ = _ := hc' 4 _ rfl
      have pk : 0 ≤ (k : Int) ∧ (k : Int) < (l.length : Int) := by omega
      have HB : Hid (Below w.heap.size w wr.drew) := Lib.hid ⟨hbel.os, hbel.tape, hbel.output, hbel.size, hbel.block⟩
      clear hp hp' h h' hbel hc hc'
      go_wp2_with fail
      refine wp_region_still_tail 8 (by kernel_rfl) (by kernel_rfl) ?_
      simp only [List.take_succ_cons, List.take_zero, List.drop_succ_cons, List.drop_zero]
      change wpStill _ _ wr.drew _ _ _
      repeat still_step
      refine wpStill_nil ?_
      change wpList _ _ _ _ _ wr.drew
      generalize wr.drew = w2 at *
      go_wp2_with fail
      refine (eqOpOp_same p w2).mono ?_
      rintro e w3 ⟨rfl, hb3⟩
      have HB3 := Lib.hid (HB.out.trans (hb3.mono HB.out.size))
      clear hb3 HB d0 d1 d0' d1' d2 d3 d2' d3' d4 d4'
      go_wp2_with fail
      go_roundw
      case rel => exact ⟨k + 1, by omega, by go_num, HB3.out⟩
      case measure => simp [intOf]; omega
    · go_wp2
      go_ret
      exact ⟨rfl, hbel⟩
set_option maxHeartbeats 1000000 in
theorem toOpOpS_any (A : Option Addr) (c : Nat) (l : List Op) (w : World) (hs : l.length ≤ 1073741824) (h : opL.Has w w.heap.size A l) :
    Calls Tryd.prog 51 #[.slice A l.length c] w fun e w' => e = .returned (.slice (some ⟨w.heap.size, 0, none⟩) l.length l.length) ∧
      opE.Own w' w.heap.size (.slice (some ⟨w.heap.size, 0, none⟩) l.length l.length) l ∧ Below w.heap.size w w' := by
  obtain ⟨i0, hi, hz0', hz1', hz2'⟩ := El.parts opE
  have hz0 : i0.zero = some (.agg #[.int .i64 0, .int .i64 0, .int .i64 0, .int .i64 0, .int .i64 0]) := hz0'
  have hz1 : i0.size = 5 := hz1'
  have hz2 : i0.bytes = 40 := hz2'
  go_enter Tryd.func51, Tryd.ntmps51
  go_wp2_with (at_make; refine wpList_make_full _ rfl _ _ 37 rfl w.heap.size 25 i0 (.agg #[.int .i64 0, .int .i64 0, .int .i64 0, .int .i64 0, .int .i64 0]) 5 Tryd.underlying37 hi hz0 hz1 _ _ _ _ l.length rfl rfl rfl rfl (by rw [hz2]; omega) (by unfold maxLen; omega) (Nat.le_refl _) ?_; intro w1 hown hgrow)
  have hb1 : Below w.heap.size w w1 := (Below.refl _ w).grown hgrow (Nat.le_refl _) (fun _ e => by cases e)
  have ho1 : w1.ownsRow w.heap.size 25 5 (.slice (some ⟨w.heap.size, 0, none⟩) l.length l.length) l.length (partO l 0) := by
    rw [partO_zero, ← madeO]
    exact hown
  clear hown hgrow
  go_loopw [4] (fun i wr => ∃ k : Nat, k ≤ l.length ∧ i = .int .i64 k ∧ wr.ownsRow w.heap.size 25 5 (.slice (some ⟨w.heap.size, 0, none⟩) l.length l.length) l.length (partO l k) ∧ Below w.heap.size w wr)
    (fun i _ => l.length - (intOf i).toNat)
  case atStart => exact ⟨0, Nat.zero_le _, rfl, ho1, hb1⟩
  case round =>
    obtain ⟨k, hk, rfl, hown, hbel⟩ := hrel
    by_cases hlt : k < l.length
    · obtain ⟨b, o, p, rfl, hbB, hp, hc⟩ := (h.below hbel).spot hlt
      have d0 : wr.cell? ⟨b, o + k * 5, none⟩ = _ := hc 0 _ rfl
      have d1 : wr.cell? ⟨b, o + k * 5 + 1, none⟩ = _ := hc 1 _ rfl
      have d2 : wr.cell? ⟨b, o + k * 5 + 2, none⟩ = _ := hc 2 _ rfl
      have d3 : wr.cell? ⟨b, o + k * 5 + 3, none⟩ = _ := hc 3 _ rfl
      have d4 : wr.cell? ⟨b, o + k * 5 + 4, none⟩ = _ := hc 4 _ rfl
      have hkl := partO_length l k hk
      have HO := Lib.hid hown
      have HB := Lib.hid hbel
      have HP := Lib.hid hp
      clear hown hbel hp h ho1 hb1 hc
      have CT := Lib.hid (toOpOp_any p)
      unfold Op.v at CT
      go_wp2_with fail
      refine (CT.out _).mono ?_
      rintro e w2 ⟨rfl, hb2⟩
      have ho2 := rowO_below HO.out hb2 (Nat.le_refl _)
      have hB2 := HB.out.trans (hb2.mono HB.out.size)
      have f0 := ho2.frozenAt (k * 5)
      have f1 := ho2.frozenAt (k * 5 + 1)
      have f2 := ho2.frozenAt (k * 5 + 2)
      have f3 := ho2.frozenAt (k * 5 + 3)
      have f4 := ho2.frozenAt (k * 5 + 4)
      obtain ⟨y0, hy0⟩ : ∃ y, w2.cell? ⟨w.heap.size, k * 5, none⟩ = some y := by
        rw [ho2.cellAt (k * 5) (by omega)]
        exact ⟨_, List.getElem?_eq_getElem (by omega)⟩
      obtain ⟨y1, hy1⟩ : ∃ y, w2.cell? ⟨w.heap.size, k * 5 + 1, none⟩ = some y := by
        rw [ho2.cellAt (k * 5 + 1) (by omega)]
        exact ⟨_, List.getElem?_eq_getElem (by omega)⟩
      obtain ⟨y2, hy2⟩ : ∃ y, w2.cell? ⟨w.heap.size, k * 5 + 2, none⟩ = some y := by
        rw [ho2.cellAt (k * 5 + 2) (by omega)]
        exact ⟨_, List.getElem?_eq_getElem (by omega)⟩
      obtain ⟨y3, hy3⟩ : ∃ y, w2.cell? ⟨w.heap.size, k * 5 + 3, none⟩ = some y := by
        rw [ho2.cellAt (k * 5 + 3) (by omega)]
        exact ⟨_, List.getElem?_eq_getElem (by omega)⟩
      obtain ⟨y4, hy4⟩ : ∃ y, w2.cell? ⟨w.heap.size, k * 5 + 4, none⟩ = some y := by
        rw [ho2.cellAt (k * 5 + 4) (by omega)]
        exact ⟨_, List.getElem?_eq_getElem (by omega)⟩
      have hst := (((((ho2.stored (k * 5) (.int .i64 p.k)).1.stored (k * 5 + 1) (.int .i64 p.a)).1.stored (k * 5 + 2) (.int .i64 p.b)).1.stored (k * 5 + 3) (.int .i64 p.c)).1.stored (k * 5 + 4) (.int .i64 p.d))
      rw [partO_set l k p HP.out] at hst
      have HS := Lib.hid hst.1
      have HBB := Lib.hid (((((hB2.setCell (p := ⟨w.heap.size, k * 5, none⟩) (Nat.le_refl _) (.int .i64 p.k)).setCell (p := ⟨w.heap.size, k * 5 + 1, none⟩) (Nat.le_refl _) (.int .i64 p.a)).setCell (p := ⟨w.heap.size, k * 5 + 2, none⟩) (Nat.le_refl _) (.int .i64 p.b)).setCell (p := ⟨w.heap.size, k * 5 + 3, none⟩) (Nat.le_refl _) (.int .i64 p.c)).setCell (p := ⟨w.heap.size, k * 5 + 4, none⟩) (Nat.le_refl _) (.int .i64 p.d))
      clear hb2 ho2 hB2 hst hkl HO HB CT d0 d1 d2 d3 d4
      go_wp2_with fail
      go_roundw
      case rel => exact ⟨k + 1, by omega, by go_num, HS.out, HBB.out⟩
      case measure => simp [intOf]; omega
    · obtain rfl : k = l.length := by omega
      rw [partO_all] at hown
      have HO := Lib.hid hown
      clear hown
      go_wp2
      go_ret
      exact ⟨rfl, HO.out, hbel⟩
/-- The marks of operation i. -/
def omark (m i : Nat) : Op := ⟨(m : Int) + 5 * (i : Int), (m : Int) + 5 * (i : Int) + 1, (m : Int) + 5 * (i : Int) + 1 + 1, (m : Int) + 5 * (i : Int) + 1 + 1 + 1, (m : Int) + 5 * (i : Int) + 1 + 1 + 1 + 1⟩
def omarks (m n : Nat) : List Op := (List.range n).map (omark m)
theorem omarks_length (m n : Nat) : (omarks m n).length = n := by simp [omarks]
theorem omarks_at (m n k : Nat) (hk : k < n) : (omarks m n)[k]? = some (omark m k) := by simp [omarks, hk]
def omarked (m : Nat) (l : List Op) (k : Nat) : List Op := omarks m k ++ l.drop k
theorem omarked_zero (m : Nat) (l : List Op) : omarked m l 0 = l := by simp [omarked, omarks]
theorem omarked_all (m : Nat) (l : List Op) : omarked m l l.length = omarks m l.length := by simp [omarked]
theorem omarked_length (m : Nat) (l : List Op) (k : Nat) (hk : k ≤ l.length) : (omarked m l k).length = l.length := by simp [omarked, omarks]; omega
theorem omarked_set (m : Nat) (l : List Op) (k : Nat) (hk : k < l.length) : (omarked m l k).set k (omark m k) = omarked m l (k + 1) := by
  unfold omarked omarks
  rw [List.set_append_right _ _ (by simp), List.length_map, List.length_range, Nat.sub_self, List.drop_eq_getElem_cons hk, List.set_cons_zero, List.range_succ, List.map_append]
  simp
theorem ownO_nonnil {w : World} {base : Nat} {A : Option Addr} {n c : Nat} {l : List Op} (h : opE.Own w base (.slice A n c) l) (hl : 0 < l.length) : ∃ g, A = some ⟨g, 0, none⟩ ∧ base ≤ g ∧ g < w.heap.size := by
  rcases h.2 with ⟨e, hn⟩ | ⟨g, cap, cur, e, hb, hg, _⟩
  · omega
  · injection e with e _ _
    exact ⟨g, e, hb, (Array.getElem?_eq_some_iff.1 hg).1⟩
set_option maxHeartbeats 1000000 in
theorem markOpOpS_from (A : Option Addr) (c : Nat) (l : List Op) (base m : Nat) (w : World) (hm : (m : Int) ≤ 1073741824) (hs : l.length ≤ 1073741824) (h : opE.Own w base (.slice A l.length c) l) :
    Calls Tryd.prog 61 #[.slice A l.length c, .int .i64 (m : Int)] w fun e w' => e = .returned (.int .i64 ((m : Int) + 5 * (l.length : Int))) ∧
      opE.Own w' base (.slice A l.length c) (omarks m l.length) ∧ w.grownBy w' (Value.slice A l.length c).ownBlock := by
  go_enter Tryd.func61, Tryd.ntmps61
  go_wp2
  go_loopw [1, 5] (fun t i wr => ∃ k : Nat, k ≤ l.length ∧ i = .int .i64 k ∧ t = .int .i64 ((m : Int) + 5 * (k : Int)) ∧ opE.Own wr base (.slice A l.length c) (omarked m l k) ∧ w.grownBy wr (Value.slice A l.length c).ownBlock)
    (fun _ i _ => l.length - (intOf i).toNat)
  case atStart => exact ⟨0, Nat.zero_le _, rfl, by go_num, by rw [omarked_zero]; exact h, World.grownBy.refl _ _⟩
  case round =>
    obtain ⟨k, hk, rfl, rfl, hown, hgr⟩ := hrel
    by_cases hlt : k < l.length
    · obtain ⟨g, rfl, hg1, hg2⟩ := ownO_nonnil hown (by rw [omarked_length m l k hk]; omega)
      have hl := omarked_length m l k hk
      have ho : wr.ownsRow base 25 5 (.slice (some ⟨g, 0, none⟩) l.length c) l.length (opE.flat (omarked m l k)) := by
        have := hown
        unfold El.Own at this
        rw [hl] at this
        exact this
      have hfl := flatO_length (omarked m l k)
      rw [hl] at hfl
      have f0 := ho.frozenAt (k * 5)
      have f1 := ho.frozenAt (k * 5 + 1)
      have f2 := ho.frozenAt (k * 5 + 2)
      have f3 := ho.frozenAt (k * 5 + 3)
      have f4 := ho.frozenAt (k * 5 + 4)
      obtain ⟨y0, hy0⟩ : ∃ y, wr.cell? ⟨g, k * 5, none⟩ = some y := by
        rw [ho.cellAt (k * 5) (by omega)]
        exact ⟨_, List.getElem?_eq_getElem (by omega)⟩
      obtain ⟨y1, hy1⟩ : ∃ y, wr.cell? ⟨g, k * 5 + 1, none⟩ = some y := by
        rw [ho.cellAt (k * 5 + 1) (by omega)]
        exact ⟨_, List.getElem?_eq_getElem (by omega)⟩
      obtain ⟨y2, hy2⟩ : ∃ y, wr.cell? ⟨g, k * 5 + 2, none⟩ = some y := by
        rw [ho.cellAt (k * 5 + 2) (by omega)]
        exact ⟨_, List.getElem?_eq_getElem (by omega)⟩
      obtain ⟨y3, hy3⟩ : ∃ y, wr.cell? ⟨g, k * 5 + 3, none⟩ = some y := by
        rw [ho.cellAt (k * 5 + 3) (by omega)]
        exact ⟨_, List.getElem?_eq_getElem (by omega)⟩
      obtain ⟨y4, hy4⟩ : ∃ y, wr.cell? ⟨g, k * 5 + 4, none⟩ = some y := by
        rw [ho.cellAt (k * 5 + 4) (by omega)]
        exact ⟨_, List.getElem?_eq_getElem (by omega)⟩
      have s0 := ho.stored (k * 5) (.int .i64 (omark m k).k)
      have s1 := s0.1.stored (k * 5 + 1) (.int .i64 (omark m k).a)
      have s2 := s1.1.stored (k * 5 + 2) (.int .i64 (omark m k).b)
      have s3 := s2.1.stored (k * 5 + 3) (.int .i64 (omark m k).c)
      have s4 := s3.1.stored (k * 5 + 4) (.int .i64 (omark m k).d)
      have HG := Lib.hid (grown_trans hgr (grown_trans s0.2 (grown_trans s1.2 (grown_trans s2.2 (grown_trans s3.2 s4.2)))))
      have HS : Hid (opE.Own _ base (.slice (some ⟨g, 0, none⟩) l.length c) (omarked m l (k + 1))) := Lib.hid (by
        have e := s4.1
        rw [flatO_set _ k (omark m k) (by omega), omarked_set m l k hlt] at e
        unfold El.Own
        rw [omarked_length m l (k + 1) hlt]
        exact e)
      clear s0 s1 s2 s3 s4 ho hown hl hfl hgr
      go_wp2
      go_roundw
      case rel => exact ⟨k + 1, by omega, by go_num, by go_num, HS.out, HG.out⟩
      case measure => simp [intOf]; omega
    · obtain rfl : k = l.length := by omega
      rw [omarked_all] at hown
      have HO := Lib.hid hown
      clear hown
      go_wp2
      go_ret
      exact ⟨rfl, HO.out, hgr⟩
end Go.Proofs.YtbejafbpipdbjaaDoor
