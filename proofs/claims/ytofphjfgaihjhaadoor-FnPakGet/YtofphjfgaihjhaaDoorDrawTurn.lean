/-
  l20Turn draws a list of bytes that is the given one with one byte left out, put in, or turned. Conditions: fewer than 10^9 draws before, at most 1000 bytes.
-/
import Derived.Test.YtofphjfgaihjhaaDoorDraw
import Derived.Test.YtofphjfgaihjhaaDoorPush
import Derived.Test.YtofphjfgaihjhaaDoorOwnSet
import Derived.Test.YtofphjfgaihjhaaDoorPushAll
import Derived.Test.YtofphjfgaihjhaaDoorRegT
namespace Go.Proofs.YtofphjfgaihjhaaDoor
open Go.RowKit

theorem byteOfT (z : Int) : ∃ x : UInt8, IntKind.u8.wrap z = (x.toNat : Int) := by
  refine ⟨UInt8.ofNat (z % 256).toNat, ?_⟩
  rw [IntKind.wrap_u8]
  simp
  omega
theorem news_of_has {w : World} {B : Nat} {ad : Addr} {m : List UInt8} (hm : Has w B (some ad) m) : ∀ (j : Nat) (u : Value), (m.map bv)[j]? = some u → w.cell? (ad.add j) = some u := by
  intro j u hu
  rcases hm with rfl | ⟨b, o, e, _, hc⟩
  · simp at hu
  · injection e with e
    subst e
    rw [plain_add]
    simp only [List.getElem?_map, Option.map_eq_some_iff] at hu
    obtain ⟨x, hx, rfl⟩ := hu
    exact hc j x hx
/-- 'append(v, m...)' of bytes that are read, as one step of a region that draws its order. -/
theorem step_pushAllB {w : World} {ops : Array Oper} {o : Oper} {a : Act} {K : Act → World → Prop} {Q : Exit → Act → World → Prop} {E : Prop} (hgd : o.guard = none) (s x : Operand)
    (ho : o.op = .call { callee := .builtin .append, args := #[s, x], argTypes := #[22, 22] })
    (base : Nat) (v : Value) (l : List UInt8) (hs : a.eval s = v) (hown : Own w base v l) (B : Nat) (ad : Addr) (c n : Nat) (m : List UInt8) (hn : m.length = n)
    (hx : a.eval x = .slice (some ad) n c) (hm : Has w B (some ad) m) (hb : l.length + m.length ≤ 1073741824) (hbase : base ≤ w.heap.size)
    (h : ∀ v' w', Own w' base v' (l ++ m) → w.grownBy w' v.ownBlock → K (a.put o.dst v') w') :
    if Region.wanted o (yielded ops a.tmps) = true then Oper.wp Tryd.prog o a w K Q else E := by
  subst hn
  obtain ⟨i0, hi, hz0, hz1, hz2⟩ := info_parts info8
  have hw : Region.wanted o (yielded ops a.tmps) = true := by simp [Region.wanted, hgd]
  rw [if_pos hw]
  obtain ⟨v', w', hrun, r1, r2, _⟩ := run_append_own (P := Tryd.prog) w base 22 o.type 5 i0 (.int .u8 0) 1 1 Tryd.underlying22 hi hz0 hz1 hz2 rfl (by omega) v l.length (l.map bv) hown ad m.length c (m.map bv) (by simp) (news_of_has hm) (bvs_one _) (by unfold maxLen; omega) (by omega) hbase
  unfold Oper.wp
  simp [execOp, ho, resolve, invoke, builtin, hs, hx, hrun, Result.andThen]
  refine h v' w' ?_ r2
  unfold Own
  rw [List.length_append, List.map_append]
  exact r1
/-- What l20Turn answers. -/
def DrewT (w : World) (g p N : Nat) (e : Ending) (w' : World) : Prop :=
  ∃ A' c', ∃ l' : List UInt8, e = .returned (.slice A' l'.length c') ∧ Has w' w'.heap.size A' l' ∧ l'.length ≤ c' ∧ l'.length ≤ N + 1 ∧ (∃ p', p' ≤ p + 4 ∧ Rdr w' g p') ∧ w.grownBy w' (some g)
theorem Has.grown_ne {w w' : World} {B g : Nat} {A : Option Addr} {l : List UInt8} (h : Has w B A l) (hB : B ≤ w.heap.size) (hg : w.grownBy w' (some g)) (hA : ∀ b o, A = some ⟨b, o, none⟩ → b ≠ g) : Has w' B A l := by
  rcases h with rfl | ⟨b, o, rfl, hb, hc⟩
  · exact .inl rfl
  · exact .inr ⟨b, o, rfl, hb, fun j y hy => (World.cell?_of_block (hg.block b (by omega) (by intro e; injection e with e; exact hA b o rfl e))).trans (hc j y hy)⟩
theorem Has.drop {w : World} {B b o : Nat} {l : List UInt8} (h : Has w B (some ⟨b, o, none⟩) l) (n : Nat) : Has w B (some ⟨b, o + n, none⟩) (l.drop n) := by
  rcases h with rfl | ⟨b', o', e, hb, hc⟩
  · exact .inl (by simp)
  · injection e with e
    injection e with e1 e2 _
    subst e1 e2
    exact .inr ⟨b, o + n, rfl, hb, fun i x hx => by
      rw [List.getElem?_drop] at hx
      have := hc (n + i) x hx
      rw [← Nat.add_assoc] at this
      exact this⟩
theorem ownBlock_geT {w : World} {base g : Nat} {v : Value} {l : List UInt8} (h : Own w base v l) (hg : g < base) : v.ownBlock = none ∨ v.ownBlock ≠ some g := by
  cases hv : v.ownBlock with
  | none => exact .inl rfl
  | some q => exact .inr fun e => by have := (World.ownsRow.lt h q hv).1; injection e with e; omega
theorem below_grown {w w' : World} {row : Option Nat} (h : Below w.heap.size w w') : w.grownBy w' row := ⟨h.os, h.tape, h.output, h.size, fun k hk _ => h.block k hk⟩
set_option maxHeartbeats 4000000 in
theorem l20Turn_any (g p : Nat) (Ab : Option Addr) (cb : Nat) (bl : List UInt8) (w : World) (h : Rdr w g p) (hp : p ≤ 100000000) (hh : Has w w.heap.size Ab bl) (hcb : bl.length ≤ cb) (hbl : bl.length ≤ 1000) (hne : ∀ b o, Ab = some ⟨b, o, none⟩ → b ≠ g) :
    Calls Tryd.prog 37 #[.pointer (some ⟨g, 0, none⟩), .slice Ab bl.length cb] w (DrewT w g p bl.length) := by
  have hgw := h.lt
  by_cases h0 : bl.length = 0
  · have h0b : ((bl.length : Int) == 0) = true := beq_iff_eq.2 (by omega)
    have HL := Lib.hid h0
    clear h0 hh hne hcb
    go_enter Tryd.func37, Tryd.ntmps37
    go_wp2_with fail
    refine (pick_any g p _ _ h (by omega) (by omega) (by omega)).mono ?_
    rintro e w1 ⟨k1, rfl, hk1, -, hr1, hg1, -⟩
    have hk1' : (k1 : Int) < 256 := hk1 (by omega)
    obtain ⟨x, hx⟩ := byteOfT (k1 : Int)
    have hx2 : (k1 : Int) = (x.toNat : Int) := by rw [← hx, IntKind.wrap_u8]; omega
    have HX := Lib.hid hx2
    clear hk1 hx hx2
    go_wp2_with fail
    go_ret
    refine ⟨some ⟨w1.heap.size, 0, none⟩, 1, [x], rfl, ?_, by simp, by simp, ⟨p + 1, by omega, hr1.alloc _⟩, grown_trans hg1 (World.grownBy_alloc w1 _ _)⟩
    refine .inr ⟨w1.heap.size, 0, rfl, by simp, fun i y hy => ?_⟩
    match i, hy with
    | 0, hy =>
      simp at hy
      subst hy
      rw [HX.out]
      exact (World.cell?_alloc_mark w1 _ _ _ 0).trans rfl
  have h0b : ((bl.length : Int) == 0) = false := beq_eq_false_iff_ne.2 (by omega)
  have hn1 : 1 ≤ (bl.length : Int) := by omega
  obtain ⟨b, o, hA⟩ : ∃ b o, Ab = some ⟨b, o, none⟩ := by
    rcases hh with e | ⟨b, o, e, _⟩
    · rw [e] at h0; simp at h0
    · exact ⟨b, o, e⟩
  subst hA
  have hbg : b ≠ g := hne b o rfl
  have HNE := Lib.hid hne
  have hbl2 : (bl.length : Int) ≤ 1000 := by omega
  clear hne h0
  go_enter Tryd.func37, Tryd.ntmps37
  go_wp2_with fail
  refine (pick_any g p _ _ h (by omega) (by omega) (by omega)).mono ?_
  rintro e w1 ⟨k, rfl, hk1, -, hr1, hg1, -⟩
  have hk : (k : Int) < (bl.length : Int) := hk1 (by omega)
  have hh1 := (hh.grown_ne (Nat.le_refl _) hg1 HNE.out).wider hg1.size
  clear hk1 hh h
  go_wp2_with fail
  refine (pick_any g (p + 1) _ _ hr1 (by omega) (by omega) (by omega)).mono ?_
  rintro e w2 ⟨k2, rfl, hk2, -, hr2, hg2, -⟩
  have hk2' : (k2 : Int) < 3 := hk2 (by omega)
  have hh2 := (hh1.grown_ne (Nat.le_refl _) hg2 HNE.out).wider hg2.size
  have hG2 := grown_trans hg1 hg2
  clear hk2 hh1 hr1 hg1 hg2
  have hkc : (k : Int) < (cb : Int) := by omega
  have hkn : ¬ cb < k := by omega
  have hkn2 : ¬ bl.length < k := by omega
  have hgz := hr2.lt
  have h3 : k2 = 0 ∨ k2 = 1 ∨ k2 = 2 := by omega
  rcases h3 with rfl | rfl | rfl
  · have hpk : 0 ≤ (k : Int) + 1 ∧ (k : Int) + 1 ≤ (bl.length : Int) := by omega
    have hw1 := IntWalk.i64_in ((k : Int) + 1) (by omega)
    by_cases hc1 : cb = k + 1
    · subst hc1
      have hdl : (bl.drop (k + 1)).length = 0 := by rw [List.length_drop]; omega
      have hdrop : ∀ W : World, Has W w2.heap.size (some ⟨b, o, none⟩) bl → Has W w2.heap.size (some ⟨b, o, none⟩) (bl.drop (k + 1)) := fun W _ => .inl (List.eq_nil_of_length_eq_zero hdl)
      have hb1 : bl.length - (k + 1) = 0 := by omega
      have hkk : ¬ ((k : Int) + 1 < (k : Int)) := by omega
      go_wp2_with fail
      obtain ⟨L5, hL5⟩ : ∃ L5, ([] ++ bl.take k) ++ bl.drop (k + 1) = L5 := ⟨_, rfl⟩
      have HL5 := Lib.hid hL5
      have hL5n : L5.length ≤ bl.length + 1 := by rw [← hL5]; simp <;> omega
      clear hL5
      refine wp_region_T (fun _ => True) 10 (by kernel_rfl) ?_
      refine wpAnyT_take (i := 1) (d := 23) (v := .slice (some ⟨b, o, none⟩) bl.length (k + 1)) rfl rfl (by kernel_rfl) (by kernel_rfl) (by kernel_rfl) (by kernel_rfl) (by kernel_rfl) (fun _ _ _ h => h) trivial (Or.inl ⟨by rfl, fun w' hS' => ?_⟩) ?_
      · go_simp
      simp only [Act.put, List.setIfInBounds_toArray, List.set_cons_zero, List.set_cons_succ]
      refine wpAnyT_take (i := 2) (d := 24) (v := .int .i64 (k : Int)) rfl rfl (by kernel_rfl) (by kernel_rfl) (by kernel_rfl) (by kernel_rfl) (by kernel_rfl) (fun _ _ _ h => h) trivial (Or.inl ⟨by rfl, fun w' hS' => ?_⟩) ?_
      · go_simp
      simp only [Act.put, List.setIfInBounds_toArray, List.set_cons_zero, List.set_cons_succ]
      refine wpAnyT_take (i := 3) (d := 25) (v := .slice (some ⟨b, o, none⟩) k (k + 1)) rfl rfl (by kernel_rfl) (by kernel_rfl) (by kernel_rfl) (by kernel_rfl) (by kernel_rfl) (fun _ _ _ h => h) trivial (Or.inl ⟨by rfl, fun w' hS' => ?_⟩) ?_
      · go_simp
      simp only [Act.put, List.setIfInBounds_toArray, List.set_cons_zero, List.set_cons_succ]
      refine wpAnyT_take (i := 5) (d := 27) (v := .slice (some ⟨b, o, none⟩) bl.length (k + 1)) rfl rfl (by kernel_rfl) (by kernel_rfl) (by kernel_rfl) (by kernel_rfl) (by kernel_rfl) (fun _ _ _ h => h) trivial (Or.inl ⟨by rfl, fun w' hS' => ?_⟩) ?_
      · go_simp
      simp only [Act.put, List.setIfInBounds_toArray, List.set_cons_zero, List.set_cons_succ]
      refine wpAnyT_take (i := 6) (d := 28) (v := .int .i64 (k : Int)) rfl rfl (by kernel_rfl) (by kernel_rfl) (by kernel_rfl) (by kernel_rfl) (by kernel_rfl) (fun _ _ _ h => h) trivial (Or.inl ⟨by rfl, fun w' hS' => ?_⟩) ?_
      · go_simp
      simp only [Act.put, List.setIfInBounds_toArray, List.set_cons_zero, List.set_cons_succ]
      refine wpAnyT_take (i := 7) (d := 29) (v := .int .i64 ((k : Int) + 1)) rfl rfl (by kernel_rfl) (by kernel_rfl) (by kernel_rfl) (by kernel_rfl) (by kernel_rfl) (fun _ _ _ h => h) trivial (Or.inl ⟨by rfl, fun w' hS' => ?_⟩) ?_
      · go_simp
      simp only [Act.put, List.setIfInBounds_toArray, List.set_cons_zero, List.set_cons_succ]
      refine wpAnyT_take (i := 8) (d := 30) (v := .slice (some ⟨b, o, none⟩) 0 0) rfl rfl (by kernel_rfl) (by kernel_rfl) (by kernel_rfl) (by kernel_rfl) (by kernel_rfl) (fun _ _ _ h => h) trivial (Or.inl ⟨by rfl, fun w' hS' => ?_⟩) ?_
      · go_simp
      simp only [Act.put, List.setIfInBounds_toArray, List.set_cons_zero, List.set_cons_succ]
      refine wpAnyT_one (i := 0) (by kernel_rfl) rfl (fun K hK => ?_)
      go_simp
      refine hK.out _ _ (fun _ => trivial) ?_
      clear hK
      have own3 : Own (w2.alloc (.cells #[] 5)).drew w2.heap.size (.slice (some ⟨w2.heap.size, 0, none⟩) 0 0) [] := own_empty (w := w2) (Nat.le_refl _)
      have b3 : Below w2.heap.size w2 (w2.alloc (.cells #[] 5)).drew := ⟨rfl, rfl, rfl, by simp, fun j hj => Below.heap_alloc w2 _ j hj⟩
      have hh3 := hh2.below b3
      have hz3 : w2.heap.size ≤ (w2.alloc (.cells #[] 5)).drew.heap.size := by simp
      generalize (w2.alloc (.cells #[] 5)).drew = w3 at *
      refine wpAnyT_one (i := 4) (by kernel_rfl) rfl (fun K hK => ?_)
      refine step_pushAllB rfl (.tmp 22) (.tmp 25) rfl w2.heap.size _ [] rfl own3 _ _ (k + 1) k (bl.take k) (by rw [List.length_take]; omega) rfl (hh3.take k) (by simp; omega) hz3 ?_
      intro v4 w4 own4 g4
      have b4 : Below w2.heap.size w3 w4 := (Below.refl _ _).grown g4 hz3 (fun q hq => (World.ownsRow.lt own3 q hq).1)
      have hh4 := hh3.below b4
      have B4 := b3.trans b4
      have hz4 : w2.heap.size ≤ w4.heap.size := B4.size
      obtain ⟨A4, c4, rfl, -, -⟩ := own4.has
      refine hK.out _ _ (fun _ => trivial) ?_
      clear hK
      clear g4 b4 own3 hh3 hz3 b3
      try simp only [Act.put, List.setIfInBounds_toArray]
      refine wpAnyT_one (i := 9) (by kernel_rfl) rfl (fun K hK => ?_)
      refine step_pushAllB rfl (.tmp 26) (.tmp 30) rfl w2.heap.size _ _ rfl own4 _ _ 0 (0) (bl.drop (k + 1)) hdl rfl (hdrop _ hh4) (by simp; omega) hz4 ?_
      intro v5 w5 own5 g5
      rw [HL5.out] at own5
      have b5 : Below w2.heap.size w4 w5 := (Below.refl _ _).grown g5 hz4 (fun q hq => (World.ownsRow.lt own4 q hq).1)
      have B5 := B4.trans b5
      obtain ⟨A5, c5, rfl, hc5, h5⟩ := own5.has
      refine hK.out _ _ (fun _ => trivial) ?_
      clear hK
      clear g5 b5 own4 hh4 hz4 B4
      try simp only [Act.put]
      refine wpAnyT_one (i := 10) (by kernel_rfl) rfl (fun K hK => ?_)
      go_simp
      refine hK.out _ _ (fun _ => trivial) ?_
      clear hK
      refine wpAnyT_done (by kernel_rfl) ?_ _
      have HF : Hid (DrewT w g p bl.length (.returned (.slice A5 L5.length c5)) w5) := Lib.hid ⟨A5, c5, L5, rfl, h5, hc5, hL5n, ⟨p + 1 + 1, by omega, hr2.below B5 hgz⟩, grown_own hG2 (below_grown (row := none) B5) (fun q hq => by cases hq)⟩
      clear own5 hc5 h5 B5 hr2 hh2 hG2
      go_wp2_with fail
      go_ret
      exact HF.out
    · have hdl : (bl.drop (k + 1)).length = bl.length - (k + 1) := by rw [List.length_drop]
      have hdrop : ∀ W : World, Has W w2.heap.size (some ⟨b, o, none⟩) bl → Has W w2.heap.size (some ⟨b, o + (k + 1), none⟩) (bl.drop (k + 1)) := fun W hW => hW.drop (k + 1)
      go_wp2_with fail
      obtain ⟨L5, hL5⟩ : ∃ L5, ([] ++ bl.take k) ++ bl.drop (k + 1) = L5 := ⟨_, rfl⟩
      have HL5 := Lib.hid hL5
      have hL5n : L5.length ≤ bl.length + 1 := by rw [← hL5]; simp <;> omega
      clear hL5
      refine wp_region_T (fun _ => True) 10 (by kernel_rfl) ?_
      refine wpAnyT_take (i := 1) (d := 23) (v := .slice (some ⟨b, o, none⟩) bl.length cb) rfl rfl (by kernel_rfl) (by kernel_rfl) (by kernel_rfl) (by kernel_rfl) (by kernel_rfl) (fun _ _ _ h => h) trivial (Or.inl ⟨by rfl, fun w' hS' => ?_⟩) ?_
      · go_simp
      simp only [Act.put, List.setIfInBounds_toArray, List.set_cons_zero, List.set_cons_succ]
      refine wpAnyT_take (i := 2) (d := 24) (v := .int .i64 (k : Int)) rfl rfl (by kernel_rfl) (by kernel_rfl) (by kernel_rfl) (by kernel_rfl) (by kernel_rfl) (fun _ _ _ h => h) trivial (Or.inl ⟨by rfl, fun w' hS' => ?_⟩) ?_
      · go_simp
      simp only [Act.put, List.setIfInBounds_toArray, List.set_cons_zero, List.set_cons_succ]
      refine wpAnyT_take (i := 3) (d := 25) (v := .slice (some ⟨b, o, none⟩) k cb) rfl rfl (by kernel_rfl) (by kernel_rfl) (by kernel_rfl) (by kernel_rfl) (by kernel_rfl) (fun _ _ _ h => h) trivial (Or.inl ⟨by rfl, fun w' hS' => ?_⟩) ?_
      · go_simp
      simp only [Act.put, List.setIfInBounds_toArray, List.set_cons_zero, List.set_cons_succ]
      refine wpAnyT_take (i := 5) (d := 27) (v := .slice (some ⟨b, o, none⟩) bl.length cb) rfl rfl (by kernel_rfl) (by kernel_rfl) (by kernel_rfl) (by kernel_rfl) (by kernel_rfl) (fun _ _ _ h => h) trivial (Or.inl ⟨by rfl, fun w' hS' => ?_⟩) ?_
      · go_simp
      simp only [Act.put, List.setIfInBounds_toArray, List.set_cons_zero, List.set_cons_succ]
      refine wpAnyT_take (i := 6) (d := 28) (v := .int .i64 (k : Int)) rfl rfl (by kernel_rfl) (by kernel_rfl) (by kernel_rfl) (by kernel_rfl) (by kernel_rfl) (fun _ _ _ h => h) trivial (Or.inl ⟨by rfl, fun w' hS' => ?_⟩) ?_
      · go_simp
      simp only [Act.put, List.setIfInBounds_toArray, List.set_cons_zero, List.set_cons_succ]
      refine wpAnyT_take (i := 7) (d := 29) (v := .int .i64 ((k : Int) + 1)) rfl rfl (by kernel_rfl) (by kernel_rfl) (by kernel_rfl) (by kernel_rfl) (by kernel_rfl) (fun _ _ _ h => h) trivial (Or.inl ⟨by rfl, fun w' hS' => ?_⟩) ?_
      · go_simp
      simp only [Act.put, List.setIfInBounds_toArray, List.set_cons_zero, List.set_cons_succ]
      refine wpAnyT_take (i := 8) (d := 30) (v := .slice (some ⟨b, o + (k + 1), none⟩) (bl.length - (k + 1)) (cb - (k + 1))) rfl rfl (by kernel_rfl) (by kernel_rfl) (by kernel_rfl) (by kernel_rfl) (by kernel_rfl) (fun _ _ _ h => h) trivial (Or.inl ⟨by rfl, fun w' hS' => ?_⟩) ?_
      · go_simp
      simp only [Act.put, List.setIfInBounds_toArray, List.set_cons_zero, List.set_cons_succ]
      refine wpAnyT_one (i := 0) (by kernel_rfl) rfl (fun K hK => ?_)
      go_simp
      refine hK.out _ _ (fun _ => trivial) ?_
      clear hK
      have own3 : Own (w2.alloc (.cells #[] 5)).drew w2.heap.size (.slice (some ⟨w2.heap.size, 0, none⟩) 0 0) [] := own_empty (w := w2) (Nat.le_refl _)
      have b3 : Below w2.heap.size w2 (w2.alloc (.cells #[] 5)).drew := ⟨rfl, rfl, rfl, by simp, fun j hj => Below.heap_alloc w2 _ j hj⟩
      have hh3 := hh2.below b3
      have hz3 : w2.heap.size ≤ (w2.alloc (.cells #[] 5)).drew.heap.size := by simp
      generalize (w2.alloc (.cells #[] 5)).drew = w3 at *
      refine wpAnyT_one (i := 4) (by kernel_rfl) rfl (fun K hK => ?_)
      refine step_pushAllB rfl (.tmp 22) (.tmp 25) rfl w2.heap.size _ [] rfl own3 _ _ cb k (bl.take k) (by rw [List.length_take]; omega) rfl (hh3.take k) (by simp; omega) hz3 ?_
      intro v4 w4 own4 g4
      have b4 : Below w2.heap.size w3 w4 := (Below.refl _ _).grown g4 hz3 (fun q hq => (World.ownsRow.lt own3 q hq).1)
      have hh4 := hh3.below b4
      have B4 := b3.trans b4
      have hz4 : w2.heap.size ≤ w4.heap.size := B4.size
      obtain ⟨A4, c4, rfl, -, -⟩ := own4.has
      refine hK.out _ _ (fun _ => trivial) ?_
      clear hK
      clear g4 b4 own3 hh3 hz3 b3
      try simp only [Act.put, List.setIfInBounds_toArray]
      refine wpAnyT_one (i := 9) (by kernel_rfl) rfl (fun K hK => ?_)
      refine step_pushAllB rfl (.tmp 26) (.tmp 30) rfl w2.heap.size _ _ rfl own4 _ _ (cb - (k + 1)) ((bl.length - (k + 1))) (bl.drop (k + 1)) hdl rfl (hdrop _ hh4) (by simp; omega) hz4 ?_
      intro v5 w5 own5 g5
      rw [HL5.out] at own5
      have b5 : Below w2.heap.size w4 w5 := (Below.refl _ _).grown g5 hz4 (fun q hq => (World.ownsRow.lt own4 q hq).1)
      have B5 := B4.trans b5
      obtain ⟨A5, c5, rfl, hc5, h5⟩ := own5.has
      refine hK.out _ _ (fun _ => trivial) ?_
      clear hK
      clear g5 b5 own4 hh4 hz4 B4
      try simp only [Act.put]
      refine wpAnyT_one (i := 10) (by kernel_rfl) rfl (fun K hK => ?_)
      go_simp
      refine hK.out _ _ (fun _ => trivial) ?_
      clear hK
      refine wpAnyT_done (by kernel_rfl) ?_ _
      have HF : Hid (DrewT w g p bl.length (.returned (.slice A5 L5.length c5)) w5) := Lib.hid ⟨A5, c5, L5, rfl, h5, hc5, hL5n, ⟨p + 1 + 1, by omega, hr2.below B5 hgz⟩, grown_own hG2 (below_grown (row := none) B5) (fun q hq => by cases hq)⟩
      clear own5 hc5 h5 B5 hr2 hh2 hG2
      go_wp2_with fail
      go_ret
      exact HF.out
  · have hkc3 : ¬ cb = k := by omega
    go_wp2_with fail
    obtain ⟨T4, hT4⟩ : ∃ T4, [] ++ bl.take k = T4 := ⟨_, rfl⟩
    obtain ⟨T7, hT7⟩ : ∃ T7 : UInt8 → List UInt8, ∀ y, T4 ++ [y] = T7 y := ⟨fun y => _, fun _ => rfl⟩
    obtain ⟨L5, hL5⟩ : ∃ L5 : UInt8 → List UInt8, ∀ y, T7 y ++ bl.drop k = L5 y := ⟨fun y => _, fun _ => rfl⟩
    have hT4n : T4.length ≤ 1000 := by rw [← hT4]; simp; omega
    have hT7n : ∀ y, (T7 y).length ≤ 1001 := fun y => by rw [← hT7, List.length_append]; simp; omega
    have hL5n : ∀ y, (L5 y).length ≤ bl.length + 1 := fun y => by rw [← hL5, ← hT7, ← hT4]; simp; omega
    have HT4 := Lib.hid hT4
    have HT7 := Lib.hid hT7
    have HL5 := Lib.hid hL5
    have HLN := Lib.hid hL5n
    have H7N := Lib.hid hT7n
    clear hL5 hL5n hT4 hT7 hT7n
    refine wp_region_T (fun _ => True) 14 (by kernel_rfl) ?_
    refine wpAnyT_take (i := 1) (d := 35) (v := .slice (some ⟨b, o, none⟩) bl.length cb) rfl rfl (by kernel_rfl) (by kernel_rfl) (by kernel_rfl) (by kernel_rfl) (by kernel_rfl) (fun _ _ _ h => h) trivial (Or.inl ⟨by rfl, fun w' hS' => ?_⟩) ?_
    · go_simp
    simp only [Act.put, List.setIfInBounds_toArray, List.set_cons_zero, List.set_cons_succ]
    refine wpAnyT_take (i := 2) (d := 36) (v := .int .i64 (k : Int)) rfl rfl (by kernel_rfl) (by kernel_rfl) (by kernel_rfl) (by kernel_rfl) (by kernel_rfl) (fun _ _ _ h => h) trivial (Or.inl ⟨by rfl, fun w' hS' => ?_⟩) ?_
    · go_simp
    simp only [Act.put, List.setIfInBounds_toArray, List.set_cons_zero, List.set_cons_succ]
    refine wpAnyT_take (i := 3) (d := 37) (v := .slice (some ⟨b, o, none⟩) k cb) rfl rfl (by kernel_rfl) (by kernel_rfl) (by kernel_rfl) (by kernel_rfl) (by kernel_rfl) (fun _ _ _ h => h) trivial (Or.inl ⟨by rfl, fun w' hS' => ?_⟩) ?_
    · go_simp
    simp only [Act.put, List.setIfInBounds_toArray, List.set_cons_zero, List.set_cons_succ]
    refine wpAnyT_take (i := 5) (d := 39) (v := .pointer (some ⟨g, 0, none⟩)) rfl rfl (by kernel_rfl) (by kernel_rfl) (by kernel_rfl) (by kernel_rfl) (by kernel_rfl) (fun _ _ _ h => h) trivial (Or.inl ⟨by rfl, fun w' hS' => ?_⟩) ?_
    · go_simp
    simp only [Act.put, List.setIfInBounds_toArray, List.set_cons_zero, List.set_cons_succ]
    refine wpAnyT_take (i := 10) (d := 44) (v := .slice (some ⟨b, o, none⟩) bl.length cb) rfl rfl (by kernel_rfl) (by kernel_rfl) (by kernel_rfl) (by kernel_rfl) (by kernel_rfl) (fun _ _ _ h => h) trivial (Or.inl ⟨by rfl, fun w' hS' => ?_⟩) ?_
    · go_simp
    simp only [Act.put, List.setIfInBounds_toArray, List.set_cons_zero, List.set_cons_succ]
    refine wpAnyT_take (i := 11) (d := 45) (v := .int .i64 (k : Int)) rfl rfl (by kernel_rfl) (by kernel_rfl) (by kernel_rfl) (by kernel_rfl) (by kernel_rfl) (fun _ _ _ h => h) trivial (Or.inl ⟨by rfl, fun w' hS' => ?_⟩) ?_
    · go_simp
    simp only [Act.put, List.setIfInBounds_toArray, List.set_cons_zero, List.set_cons_succ]
    refine wpAnyT_take (i := 12) (d := 46) (v := .slice (some ⟨b, o + k, none⟩) (bl.length - k) (cb - k)) rfl rfl (by kernel_rfl) (by kernel_rfl) (by kernel_rfl) (by kernel_rfl) (by kernel_rfl) (fun _ _ _ h => h) trivial (Or.inl ⟨by rfl, fun w' hS' => ?_⟩) ?_
    · go_simp
    simp only [Act.put, List.setIfInBounds_toArray, List.set_cons_zero, List.set_cons_succ]
    refine wpAnyT_one (i := 0) (by kernel_rfl) rfl (fun K hK => ?_)
    go_simp
    refine hK.out _ _ (fun _ => trivial) ?_
    clear hK
    have own3 : Own (w2.alloc (.cells #[] 5)).drew w2.heap.size (.slice (some ⟨w2.heap.size, 0, none⟩) 0 0) [] := own_empty (w := w2) (Nat.le_refl _)
    have b3 : Below w2.heap.size w2 (w2.alloc (.cells #[] 5)).drew := ⟨rfl, rfl, rfl, by simp, fun j hj => Below.heap_alloc w2 _ j hj⟩
    have hh3 := hh2.below b3
    have hz3 : w2.heap.size ≤ (w2.alloc (.cells #[] 5)).drew.heap.size := by simp
    generalize (w2.alloc (.cells #[] 5)).drew = w3 at *
    refine wpAnyT_one (i := 4) (by kernel_rfl) rfl (fun K hK => ?_)
    refine step_pushAllB rfl (.tmp 34) (.tmp 37) rfl w2.heap.size _ [] rfl own3 _ _ cb k (bl.take k) (by rw [List.length_take]; omega) rfl (hh3.take k) (by simp; omega) hz3 ?_
    intro v4 w4 own4 g4
    rw [HT4.out] at own4
    have b4 : Below w2.heap.size w3 w4 := (Below.refl _ _).grown g4 hz3 (fun q hq => (World.ownsRow.lt own3 q hq).1)
    have hh4 := hh3.below b4
    have B4 := b3.trans b4
    have hz4 : w2.heap.size ≤ w4.heap.size := B4.size
    have hr4 := hr2.below B4 hgz
    obtain ⟨A4, c4, rfl, -, -⟩ := own4.has
    refine hK.out _ _ (fun _ => trivial) ?_
    clear hK
    clear g4 b4 own3 hh3 hz3 b3
    try simp only [Act.put]
    refine wpAnyT_one (i := 6) (by kernel_rfl) rfl (fun K hK => ?_)
    go_simp
    refine (pick_any g (p + 1 + 1) _ _ hr4 (by omega) (by omega) (by omega)).mono ?_
    rintro e w5 ⟨k5, rfl, hk5, -, hr5, hg5, -⟩
    have hk5' : (k5 : Int) < 9 := hk5 (by omega)
    have own5 := own4.keep hg5 (ownBlock_geT own4 hgz)
    have hh5 := hh4.grown_ne hz4 hg5 HNE.out
    have hG5 := grown_trans (grown_own hG2 (below_grown (row := none) B4) (fun q hq => by cases hq)) hg5
    have hz5 := Nat.le_trans hz4 hg5.size
    obtain ⟨y, hy⟩ := byteOfT (k5 : Int)
    refine hK.out _ _ (fun _ => trivial) ?_
    clear hK
    clear hk5 hg5 own4 hh4 hr4 B4 hz4
    try simp only [Act.put]
    refine wpAnyT_one (i := 7) (by kernel_rfl) rfl (fun K hK => ?_)
    go_simp
    refine hK.out _ _ (fun _ => trivial) ?_
    clear hK
    refine wpAnyT_one (i := 8) (by kernel_rfl) rfl (fun K hK => ?_)
    go_simp
    have own6 : Own (w5.alloc (.cells #[.int .u8 (y.toNat : Int)] 5)) w2.heap.size (.slice A4 T4.length c4) T4 := own5.alloc _
    have b6 : Below w5.heap.size w5 (w5.alloc (.cells #[.int .u8 (y.toNat : Int)] 5)) := (Below.refl _ w5).alloc (Nat.le_refl _) _
    have hh6 := hh5.below (b6.mono hz5)
    have hn6 : Has (w5.alloc (.cells #[.int .u8 (y.toNat : Int)] 5)) (w5.heap.size + 1) (some ⟨w5.heap.size, 0, none⟩) [y] := .inr ⟨w5.heap.size, 0, rfl, by omega, fun i z hz => by
      match i, hz with
      | 0, hz =>
        simp at hz
        subst hz
        exact (World.cell?_alloc_mark w5 _ _ _ 0).trans rfl⟩
    have hr6 := hr5.alloc (.cells #[.int .u8 (y.toNat : Int)] 5)
    have hG6 := grown_trans hG5 (World.grownBy_alloc w5 (.cells #[.int .u8 (y.toNat : Int)] 5) (some g))
    have hz6 : w2.heap.size ≤ (w5.alloc (.cells #[.int .u8 (y.toNat : Int)] 5)).heap.size := Nat.le_trans hz5 b6.size
    refine hK.out _ _ (fun _ => trivial) ?_
    clear hK
    generalize w5.alloc (.cells #[.int .u8 (y.toNat : Int)] 5) = w6 at *
    clear own5 hh5 hr5 hG5 b6
    refine wpAnyT_one (i := 9) (by kernel_rfl) rfl (fun K hK => ?_)
    refine step_pushAllB rfl (.tmp 38) (.tmp 42) rfl w2.heap.size _ T4 rfl own6 _ _ 1 1 [y] rfl rfl hn6 (by simp; omega) hz6 ?_
    intro v7 w7 own7 g7
    rw [HT7.out] at own7
    have b7 : Below w2.heap.size w6 w7 := (Below.refl _ _).grown g7 hz6 (fun q hq => (World.ownsRow.lt own6 q hq).1)
    have hh7 := hh6.below b7
    have hr7 := hr6.below b7 hgz
    have hG7 := grown_own hG6 g7 (fun q hq => by have := (World.ownsRow.lt own6 q hq).1; have := hG2.size; omega)
    have hz7 := Nat.le_trans hz6 b7.size
    obtain ⟨A7, c7, rfl, -, -⟩ := own7.has
    refine hK.out _ _ (fun _ => trivial) ?_
    clear hK
    clear g7 b7 own6 hh6 hr6 hG6 hn6 hz6
    try simp only [Act.put]
    refine wpAnyT_one (i := 13) (by kernel_rfl) rfl (fun K hK => ?_)
    refine step_pushAllB rfl (.tmp 43) (.tmp 46) rfl w2.heap.size _ _ rfl own7 _ _ (cb - k) (bl.length - k) (bl.drop k) (by rw [List.length_drop]) rfl (hh7.drop k) (by have := H7N.out y; rw [List.length_drop]; omega) hz7 ?_
    intro v8 w8 own8 g8
    rw [HL5.out] at own8
    have b8 : Below w2.heap.size w7 w8 := (Below.refl _ _).grown g8 hz7 (fun q hq => (World.ownsRow.lt own7 q hq).1)
    have hr8 := hr7.below b8 hgz
    have hG8 := grown_own hG7 g8 (fun q hq => by have := (World.ownsRow.lt own7 q hq).1; have := hG2.size; omega)
    obtain ⟨A8, c8, rfl, hc8, h8⟩ := own8.has
    have HF : Hid (DrewT w g p bl.length (.returned (.slice A8 (L5 y).length c8)) w8) := Lib.hid ⟨A8, c8, L5 y, rfl, h8, hc8, HLN.out y, ⟨p + 1 + 1 + 1, by omega, hr8⟩, hG8⟩
    refine hK.out _ _ (fun _ => trivial) ?_
    clear hK
    clear g8 b8 own7 hh7 hr7 hG7 hz7 own8 hr8 hG8 h8 hc8 hr2 hh2 hG2
    try simp only [Act.put]
    generalize L5 y = L6 at *
    refine wpAnyT_one (i := 14) (by kernel_rfl) rfl (fun K hK => ?_)
    go_simp
    refine hK.out _ _ (fun _ => trivial) ?_
    clear hK
    refine wpAnyT_done (by kernel_rfl) ?_ _
    go_wp2_with fail
    go_ret
    exact HF.out
  · go_wp2_with (at_builtin; refine wpList_pushAll rfl (.tmp 48) (.tmp 49) rfl w2.heap.size (.slice (some ⟨w2.heap.size, 0, none⟩) 0 0) [] rfl (own_empty (w := w2) (Nat.le_refl _)) w2.heap.size (some ⟨b, o, none⟩) cb bl rfl (Has.below hh2 ((Below.refl _ w2).alloc (Nat.le_refl _) _)) (by simp; omega) (by simp) ?_; intro v3 w3 own3 g3)
    rw [List.nil_append] at own3
    obtain ⟨Ao, co, rfl, hco, -⟩ := own3.has
    obtain ⟨go, rfl, hgo1, hgo2⟩ := own3.nonnil (by omega)
    have hr3 : Rdr w3.drew g (p + 1 + 1) := ((hr2.alloc (.cells #[] 5)).grown g3 (fun j hj => by have e : some w2.heap.size = some j := hj; injection e with e; omega)).drewN 1
    have hG3 : w.grownBy w3.drew (some g) := grown_trans (grown_own (grown_trans hG2 (World.grownBy_alloc w2 (.cells #[] 5) (some g))) g3 (fun j hj => by have e : some w2.heap.size = some j := hj; injection e with e; have := hG2.size; omega)) ⟨rfl, rfl, rfl, Nat.le_refl _, fun _ _ _ => rfl⟩
    have own3' : Own w3.drew w2.heap.size (.slice (some ⟨go, 0, none⟩) bl.length co) bl := own3
    obtain ⟨x, hxk⟩ : ∃ x, bl[k]? = some x := ⟨_, List.getElem?_eq_getElem (by omega)⟩
    have HXk := Lib.hid hxk
    have HS0 : w3.drew.cell? ⟨go, k, none⟩ = some (.int .u8 (x.toNat : Int)) := by
      have := World.ownsRow.cellAt own3' k (by omega)
      rw [this, List.getElem?_map, hxk]
      rfl
    have pk : 0 ≤ (k : Int) ∧ (k : Int) < (bl.length : Int) := by omega
    clear own3 g3 hh2 hr2 hxk
    have own3 := own3'
    clear own3'
    refine wp_region_T (fun w' => w'.cell? ⟨go, k, none⟩ = some (.int .u8 (x.toNat : Int))) 12 (by kernel_rfl) ?_
    refine wpAnyT_take (i := 0) (d := 51) (v := .slice (some ⟨go, 0, none⟩) bl.length co) rfl rfl (by kernel_rfl) (by kernel_rfl) (by kernel_rfl) (by kernel_rfl) (by kernel_rfl) (fun _ _ _ h => h) HS0 (Or.inl ⟨by rfl, fun w' hS' => ?_⟩) ?_
    · go_simp
    simp only [Act.put, List.setIfInBounds_toArray, List.set_cons_zero, List.set_cons_succ]
    refine wpAnyT_take (i := 1) (d := 52) (v := .int .i64 (k : Int)) rfl rfl (by kernel_rfl) (by kernel_rfl) (by kernel_rfl) (by kernel_rfl) (by kernel_rfl) (fun _ _ _ h => h) HS0 (Or.inl ⟨by rfl, fun w' hS' => ?_⟩) ?_
    · go_simp
    simp only [Act.put, List.setIfInBounds_toArray, List.set_cons_zero, List.set_cons_succ]
    refine wpAnyT_take (i := 2) (d := 53) (v := .slice (some ⟨go, 0, none⟩) bl.length co) rfl rfl (by kernel_rfl) (by kernel_rfl) (by kernel_rfl) (by kernel_rfl) (by kernel_rfl) (fun _ _ _ h => h) HS0 (Or.inl ⟨by rfl, fun w' hS' => ?_⟩) ?_
    · go_simp
    simp only [Act.put, List.setIfInBounds_toArray, List.set_cons_zero, List.set_cons_succ]
    refine wpAnyT_take (i := 3) (d := 54) (v := .int .i64 (k : Int)) rfl rfl (by kernel_rfl) (by kernel_rfl) (by kernel_rfl) (by kernel_rfl) (by kernel_rfl) (fun _ _ _ h => h) HS0 (Or.inl ⟨by rfl, fun w' hS' => ?_⟩) ?_
    · go_simp
    simp only [Act.put, List.setIfInBounds_toArray, List.set_cons_zero, List.set_cons_succ]
    refine wpAnyT_take (i := 4) (d := 55) (v := .pointer (some ⟨go, k, none⟩)) rfl rfl (by kernel_rfl) (by kernel_rfl) (by kernel_rfl) (by kernel_rfl) (by kernel_rfl) (fun _ _ _ h => h) HS0 (Or.inl ⟨by rfl, fun w' hS' => ?_⟩) ?_
    · go_simp
    simp only [Act.put, List.setIfInBounds_toArray, List.set_cons_zero, List.set_cons_succ]
    refine wpAnyT_take (i := 5) (d := 56) (v := .int .u8 (x.toNat : Int)) rfl rfl (by kernel_rfl) (by kernel_rfl) (by kernel_rfl) (by kernel_rfl) (by kernel_rfl) (fun _ _ _ h => h) HS0 (Or.inl ⟨by rfl, fun w' hS' => ?_⟩) ?_
    · go_simp
    simp only [Act.put, List.setIfInBounds_toArray, List.set_cons_zero, List.set_cons_succ]
    refine wpAnyT_take (i := 6) (d := 57) (v := .pointer (some ⟨g, 0, none⟩)) rfl rfl (by kernel_rfl) (by kernel_rfl) (by kernel_rfl) (by kernel_rfl) (by kernel_rfl) (fun _ _ _ h => h) HS0 (Or.inl ⟨by rfl, fun w' hS' => ?_⟩) ?_
    · go_simp
    simp only [Act.put, List.setIfInBounds_toArray, List.set_cons_zero, List.set_cons_succ]
    refine wpAnyT_one (i := 7) (by kernel_rfl) rfl (fun K hK => ?_)
    go_simp
    refine (pick_any g (p + 1 + 1) _ _ hr3 (by omega) (by omega) (by omega)).mono ?_
    rintro e w5 ⟨k5, rfl, hk5, -, hr5, hg5, -⟩
    have hk5' : (k5 : Int) < 255 := hk5 (by omega)
    have own5 := own3.keep hg5 (ownBlock_geT own3 hgz)
    have hG5 := grown_trans hG3 hg5
    have hc5 := World.ownsRow.cellAt own5 k (by omega)
    have S5 : Hid (w5.cell? ⟨go, k, none⟩ = some (.int .u8 (x.toNat : Int))) := Lib.hid (by rw [hc5, List.getElem?_map, HXk.out]; rfl)
    have hw5 := IntWalk.i64_in (1 + (k5 : Int)) (by omega)
    obtain ⟨y, hy⟩ := byteOfT (1 + (k5 : Int))
    obtain ⟨z, hz⟩ := byteOfT ((BitVec.ofInt 8 (x.toNat : Int) ^^^ BitVec.ofInt 8 (y.toNat : Int)).toNat : Int)
    have hzz : bits .xor .u8 (x.toNat : Int) (y.toNat : Int) = (z.toNat : Int) := hz
    have s5 := S5.out
    have f5 := World.ownsRow.frozenAt own5 k
    have pk5 : 0 ≤ (k : Int) ∧ (k : Int) < (bl.length : Int) := by omega
    have hst := own5.set k z
    have HST := Lib.hid hst
    have hr6 : Rdr (w5.setCell ⟨go, k, none⟩ (.int .u8 (z.toNat : Int))) g (p + 1 + 1 + 1) := hr5.kept (fun j hj => Below.heap_setCell w5 _ _ j (by simp; omega))
    have hG6 := grown_own hG5 hst.2 (fun q hq => by injection hq with hq; have := hG2.size; omega)
    have HR6 := Lib.hid hr6
    have HG6 := Lib.hid hG6
    refine hK.out _ _ (fun _ => S5.out) ?_
    clear hK hk5 hg5 own3 hG3 hr3 hc5 hz hst own5 hr5 hG5 hr6 hG6 HS0
    try simp only [Act.put]
    refine wpAnyT_one (i := 8) (by kernel_rfl) rfl (fun K hK => ?_)
    go_simp
    refine hK.out _ _ (fun _ => S5.out) ?_
    clear hK
    refine wpAnyT_one (i := 9) (by kernel_rfl) rfl (fun K hK => ?_)
    go_simp
    refine hK.out _ _ (fun _ => S5.out) ?_
    clear hK
    refine wpAnyT_one (i := 10) (by kernel_rfl) rfl (fun K hK => ?_)
    go_simp
    refine hK.out _ _ (fun _ => S5.out) ?_
    clear hK
    refine wpAnyT_one (i := 11) (by kernel_rfl) rfl (fun K hK => ?_)
    go_simp
    refine hK.out _ _ (fun _ => S5.out) ?_
    clear hK
    refine wpAnyT_one (i := 12) (by kernel_rfl) rfl (fun K hK => ?_)
    go_simp
    refine hK.out _ _ (fun h => last_out h) ?_
    clear hK
    refine wpAnyT_done (by kernel_rfl) ?_ _
    have HF : Hid (DrewT w g p bl.length (.returned (.slice (some ⟨go, 0, none⟩) bl.length co)) (w5.setCell ⟨go, k, none⟩ (.int .u8 (z.toNat : Int)))) := Lib.hid ⟨some ⟨go, 0, none⟩, co, bl.set k z, by rw [List.length_set], HST.out.1.reads, by rw [List.length_set]; exact hco, by rw [List.length_set]; omega, ⟨p + 1 + 1 + 1, by omega, HR6.out⟩, HG6.out⟩
    clear HST HR6 HG6 s5 f5 S5
    go_wp2_with fail
    go_ret
    exact HF.out
end Go.Proofs.YtofphjfgaihjhaaDoor
