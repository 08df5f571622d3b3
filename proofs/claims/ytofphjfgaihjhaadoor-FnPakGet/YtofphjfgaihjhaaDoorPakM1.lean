/-
  PakPut and PakGet of the program, and PakPut of the reference, as contracts over bytes that are read. Condition: the four errors are not nil.
-/
import Derived.Test.YtofphjfgaihjhaaDoorPakSP
import Derived.Test.YtofphjfgaihjhaaDoorRegT
import Derived.Test.YtofphjfgaihjhaaDoorBitPI
import Derived.Test.YtofphjfgaihjhaaDoorBitGRd
import Derived.Test.YtofphjfgaihjhaaDoorPakIP
namespace Go.Proofs.YtofphjfgaihjhaaDoor
open Go.RowKit

/-- Spans as pairs of numbers. -/
def spI (l : List (Nat × Nat)) : List (Int × Int) := l.map fun q => ((q.1 : Int), (q.2 : Int))
theorem spI_length (l : List (Nat × Nat)) : (spI l).length = l.length := by simp [spI]
theorem spI_at {l : List (Nat × Nat)} {i a b : Nat} (h : l[i]? = some (a, b)) : (spI l)[i]? = some ((a : Int), (b : Int)) := by
  unfold spI
  rw [List.getElem?_map, h]
  rfl
/-- A row of spans of the call's own. -/
def OwnSp (w : World) (base : Nat) (v : Value) (l : List (Nat × Nat)) : Prop := w.ownsRow base 58 2 v l.length (flat (spI l))
theorem infoSp : (Tryd.prog.info? 58).map (fun i => (i.zero, i.size, i.bytes)) = some (some (.agg #[.int .i64 0, .int .i64 0]), 2, 16) := by kernel_rfl
theorem OwnSp.has {w : World} {base : Nat} {v : Value} {l : List (Nat × Nat)} (h : OwnSp w base v l) : ∃ A c, v = .slice A l.length c ∧ l.length ≤ c := by
  rcases h.2 with ⟨rfl, hn⟩ | ⟨g, cap, cur, rfl, _, hg, hc, _⟩
  · exact ⟨none, 0, by rw [hn], by omega⟩
  · exact ⟨_, cap, rfl, hc⟩
theorem OwnSp.spot {w : World} {base : Nat} {A : Option Addr} {n c : Nat} {l : List (Nat × Nat)} (h : OwnSp w base (.slice A n c) l) {i a b : Nat} (hi : l[i]? = some (a, b)) : ∃ g, A = some ⟨g, 0, none⟩ ∧ w.cell? ⟨g, i * 2, none⟩ = some (.int .i64 (a : Int)) ∧ w.cell? ⟨g, i * 2 + 1, none⟩ = some (.int .i64 (b : Int)) := by
  have hlt := (List.getElem?_eq_some_iff.1 hi).1
  have h' := h
  rcases h.2 with ⟨hv, hn⟩ | ⟨g, cap, cur, hv, _⟩
  · omega
  · injection hv with e1 e2 e3
    subst e1 e2 e3
    have hf := flat_at _ i _ (spI_at hi)
    refine ⟨g, rfl, ?_, ?_⟩
    · rw [World.ownsRow.cellAt h' (i * 2) (by omega)]; exact hf.1
    · rw [World.ownsRow.cellAt h' (i * 2 + 1) (by omega)]; exact hf.2
/-- Block gu is an unpacker. -/
def UnB (w : World) (gu : Nat) (vo vs : Value) (p s : Nat) : Prop := w.heap[gu]? = some (.cells #[vo, vs, .int .i64 (p : Int), .int .i64 (s : Int)] 60 (0, 0))
theorem UnB.c0 {w : World} {gu : Nat} {vo vs : Value} {p s : Nat} (h : UnB w gu vo vs p s) : w.cell? ⟨gu, 0, none⟩ = some vo := by rw [cell_of_row w _ 0 _ _ _ h]; rfl
theorem UnB.c1 {w : World} {gu : Nat} {vo vs : Value} {p s : Nat} (h : UnB w gu vo vs p s) : w.cell? ⟨gu, 1, none⟩ = some vs := by rw [cell_of_row w _ 1 _ _ _ h]; rfl
theorem UnB.c2 {w : World} {gu : Nat} {vo vs : Value} {p s : Nat} (h : UnB w gu vo vs p s) : w.cell? ⟨gu, 2, none⟩ = some (.int .i64 (p : Int)) := by rw [cell_of_row w _ 2 _ _ _ h]; rfl
theorem UnB.c3 {w : World} {gu : Nat} {vo vs : Value} {p s : Nat} (h : UnB w gu vo vs p s) : w.cell? ⟨gu, 3, none⟩ = some (.int .i64 (s : Int)) := by rw [cell_of_row w _ 3 _ _ _ h]; rfl
theorem UnB.free {w : World} {gu : Nat} {vo vs : Value} {p s : Nat} (h : UnB w gu vo vs p s) (i : Nat) : w.frozen? ⟨gu, i, none⟩ = false := by
  unfold UnB at h
  simp [World.frozen?, h]
theorem UnB.lt {w : World} {gu : Nat} {vo vs : Value} {p s : Nat} (h : UnB w gu vo vs p s) : gu < w.heap.size := (Array.getElem?_eq_some_iff.1 h).1
/-- What lies in blocks of other kinds stays. -/
def FrT (w w' : World) : Prop := ∀ (b : Nat) cs t fr, w.heap[b]? = some (.cells cs t fr) → t ≠ 60 → t ≠ 5 → t ≠ 58 → w'.heap[b]? = w.heap[b]?
theorem FrT.refl (w : World) : FrT w w := fun _ _ _ _ _ _ _ _ => rfl
theorem FrT.trans {a b c : World} (h : FrT a b) (k : FrT b c) : FrT a c := fun q cs t fr hq h1 h2 h3 => by
  have e := h q cs t fr hq h1 h2 h3
  exact (k q cs t fr (e.trans hq) h1 h2 h3).trans e
theorem FrT.alloc (w : World) (o : Obj) : FrT w (w.alloc o) := fun b _ _ _ hb _ _ _ => Below.heap_alloc w o b (Array.getElem?_eq_some_iff.1 hb).1
/-- A block of one kind is none of another row's. -/
theorem row_ne {w w' : World} {base : Nat} {e : TypeId} {size : Nat} {v : Value} {n : Nat} {xs : List Value} (ho : w.ownsRow base e size v n xs) (hg : w.grownBy w' v.ownBlock) {b : Nat} {cs : Array Value} {t : TypeId} {fr : Nat × Nat} (hb : w.heap[b]? = some (.cells cs t fr)) (ht : t ≠ e) : w'.heap[b]? = w.heap[b]? := by
  refine hg.block b (Array.getElem?_eq_some_iff.1 hb).1 fun q => ?_
  rcases ho.2 with ⟨rfl, _⟩ | ⟨g0, cap0, cur0, rfl, _, hh, _⟩
  · cases q
  · simp [Value.ownBlock] at q
    subst q
    rw [hb] at hh
    injection hh with hh
    injection hh with _ ht2 _
    exact ht ht2
theorem setU_other {w : World} {gu i : Nat} {x : Value} {vo vs : Value} {p s : Nat} (h : UnB w gu vo vs p s) {b : Nat} {cs : Array Value} {t : TypeId} {fr : Nat × Nat} (hb : w.heap[b]? = some (.cells cs t fr)) (ht : t ≠ 60) : (w.setCell ⟨gu, i, none⟩ x).heap[b]? = w.heap[b]? := by
  refine heap_setCell_other _ _ _ _ fun e => ?_
  simp at e
  subst e
  unfold UnB at h
  rw [hb] at h
  injection h with h
  injection h with _ ht2 _
  exact ht ht2
/-- 'append(v, q)' of one span, v the call's own: as one step of a region that draws its order. -/
theorem step_pushSp {w : World} {ops : Array Oper} {o : Oper} {a : Act} {K : Act → World → Prop} {Q : Exit → Act → World → Prop} {E : Prop} (hgd : o.guard = none) (s x : Operand)
    (ho : o.op = .call { callee := .builtin .append, args := #[s, x], argTypes := #[56, 56] })
    (base : Nat) (v : Value) (l : List (Nat × Nat)) (hs : a.eval s = v) (hown : OwnSp w base v l) (p q H : Nat) (hx : a.eval x = .slice (some ⟨H, 0, none⟩) 1 1) (hH : w.heap[H]? = some (.cells #[.int .i64 (p : Int), .int .i64 (q : Int)] 58 (0, 0)))
    (hb : l.length + 1 ≤ 1073741824) (hbase : base ≤ w.heap.size)
    (h : ∀ g cap w', OwnSp w' base (.slice (some ⟨g, 0, none⟩) (l.length + 1) cap) (l ++ [(p, q)]) → w.grownBy w' v.ownBlock → K (a.put o.dst (.slice (some ⟨g, 0, none⟩) (l.length + 1) cap)) w') :
    if Region.wanted o (yielded ops a.tmps) = true then Oper.wp Tryd.prog o a w K Q else E := by
  obtain ⟨i0, hi, hz0, hz1, hz2⟩ := info_parts infoSp
  refine step_append_lies w hgd s x 56 ho base 58 i0 (.agg #[.int .i64 0, .int .i64 0]) 2 16 Tryd.underlying56 hi hz0 hz1 hz2 rfl (by omega) v l.length (flat (spI l)) hs hown ⟨H, 0, none⟩ 1 1 (flat [((p : Int), (q : Int))]) hx (by rw [flat_length]; rfl) ?_ (flat_one _) (by omega) (by unfold maxLen; omega) (by omega) hbase _ rfl ?_
  · intro j u hu
    refine World.news_of_block hH j u ?_
    simpa [flat, nv] using hu
  · intro g cap w' h1 h2 _ _
    refine h g cap w' ?_ h2
    unfold OwnSp
    rw [List.length_append, show spI (l ++ [(p, q)]) = spI l ++ [((p : Int), (q : Int))] from by simp [spI], flat_append]
    exact h1

set_option maxHeartbeats 1000000 in
theorem enterPrev_zero (gu : Nat) (vo vs : Value) (p : Nat) (w : World) (h : UnB w gu vo vs p 0) : Calls Tryd.prog 51 #[.pointer (some ⟨gu, 0, none⟩)] w fun e w' => e = .returned (.tuple #[]) ∧ w = w' := by
  have c3 : w.cell? ⟨gu, 3, none⟩ = some (.int .i64 0) := h.c3
  clear h
  go_enter Tryd.func51, Tryd.ntmps51
  go_wp2
  exact bodyPost_ret (results_none Tryd.results51 _ _ _) rfl ⟨rfl, rfl⟩

/-- What enterPrevious leaves. -/
def EpOut (base gu : Nat) (vo : Value) (out : List UInt8) (sp : List (Nat × Nat)) (p s : Nat) (w : World) (e : Ending) (w' : World) : Prop := e = .returned (.tuple #[]) ∧ (∃ vs', UnB w' gu vo vs' p s ∧ OwnSp w' base vs' sp ∧ Own w' base vo out) ∧ FrT w w' ∧ Below base w w'
set_option maxRecDepth 100000 in
set_option maxHeartbeats 2000000 in
theorem enterPrev_more (base gu : Nat) (vo vs : Value) (out : List UInt8) (sp : List (Nat × Nat)) (p s : Nat) (w : World) (h : UnB w gu vo vs p s) (ho : Own w base vo out) (hsp : OwnSp w base vs sp) (hs : 0 < s) (hs2 : s ≤ 1000) (hl : sp.length < 255) (hg : base ≤ gu) (hbw : base ≤ w.heap.size) :
    Calls Tryd.prog 51 #[.pointer (some ⟨gu, 0, none⟩)] w (EpOut base gu vo out (sp ++ [(p, s + 1)]) p s w) := by
  obtain ⟨As, cs, rfl, -⟩ := hsp.has
  obtain ⟨vs, hvs0⟩ : ∃ vs, Value.slice As sp.length cs = vs := ⟨_, rfl⟩
  have HVS := Lib.hid hvs0
  clear hvs0
  have c0 := h.c0
  have c1 := h.c1
  have c2 := h.c2
  have c3 := h.c3
  have HU := Lib.hid h
  have HO := Lib.hid ho
  have HSP := Lib.hid hsp
  have hsI : ((s : Int) == 0) = false := beq_eq_false_iff_ne.2 (by omega)
  have hsN : ¬ s = 0 := by omega
  have hws : wrap64 ((s : Int) + 1) = (s : Int) + 1 := by unfold wrap64; omega
  have hws' : IntKind.i64.wrap ((s : Int) + 1) = (s : Int) + 1 := IntWalk.i64_in _ (by omega)
  have hlI : (257 + (sp.length : Int) == 512) = false := beq_eq_false_iff_ne.2 (by omega)
  have hlJ : 257 + (sp.length : Int) < 512 := by omega
  have HL := Lib.hid hl
  have hgl := h.lt
  clear h ho hsp hs hs2 hl
  go_enter Tryd.func51, Tryd.ntmps51
  go_upto_region 1 with fail
  have hvs := HVS.out
  rw [hvs] at c1 HSP HU
  clear hvs HVS
  have HS0 : w.drew.cell? ⟨gu, 0, none⟩ = some vo ∧ w.drew.cell? ⟨gu, 1, none⟩ = some vs ∧ w.drew.cell? ⟨gu, 2, none⟩ = some (.int .i64 (p : Int)) ∧ w.drew.cell? ⟨gu, 3, none⟩ = some (.int .i64 (s : Int)) := ⟨c0, c1, c2, c3⟩
  clear c0 c1 c2 c3
  refine wp_region_T (fun w' => w'.cell? ⟨gu, 0, none⟩ = some vo ∧ w'.cell? ⟨gu, 1, none⟩ = some vs ∧ w'.cell? ⟨gu, 2, none⟩ = some (.int .i64 (p : Int)) ∧ w'.cell? ⟨gu, 3, none⟩ = some (.int .i64 (s : Int))) 21 (by kernel_rfl) ?_
  refine wpAnyT_take (i := 0) (d := 17) (v := .pointer (some ⟨gu, 0, none⟩)) rfl rfl (by kernel_rfl) (by kernel_rfl) (by kernel_rfl) (by kernel_rfl) (by kernel_rfl) (fun _ _ _ h => h) HS0 (Or.inl ⟨by rfl, fun w' hS' => ?_⟩) ?_
  · obtain ⟨z0, z1, z2, z3⟩ := hS'
    go_simp
  simp only [Act.put, List.setIfInBounds_toArray, List.set_cons_zero, List.set_cons_succ]
  refine wpAnyT_take (i := 1) (d := 18) (v := .pointer (some ⟨gu, 0, none⟩)) rfl rfl (by kernel_rfl) (by kernel_rfl) (by kernel_rfl) (by kernel_rfl) (by kernel_rfl) (fun _ _ _ h => h) HS0 (Or.inl ⟨by rfl, fun w' hS' => ?_⟩) ?_
  · obtain ⟨z0, z1, z2, z3⟩ := hS'
    go_simp
  simp only [Act.put, List.setIfInBounds_toArray, List.set_cons_zero, List.set_cons_succ]
  refine wpAnyT_take (i := 2) (d := 19) (v := .pointer (some ⟨gu, 0, none⟩)) rfl rfl (by kernel_rfl) (by kernel_rfl) (by kernel_rfl) (by kernel_rfl) (by kernel_rfl) (fun _ _ _ h => h) HS0 (Or.inl ⟨by rfl, fun w' hS' => ?_⟩) ?_
  · obtain ⟨z0, z1, z2, z3⟩ := hS'
    go_simp
  simp only [Act.put, List.setIfInBounds_toArray, List.set_cons_zero, List.set_cons_succ]
  refine wpAnyT_take (i := 3) (d := 20) (v := .pointer (some ⟨gu, 1, none⟩)) rfl rfl (by kernel_rfl) (by kernel_rfl) (by kernel_rfl) (by kernel_rfl) (by kernel_rfl) (fun _ _ _ h => h) HS0 (Or.inl ⟨by rfl, fun w' hS' => ?_⟩) ?_
  · obtain ⟨z0, z1, z2, z3⟩ := hS'
    go_simp
  simp only [Act.put, List.setIfInBounds_toArray, List.set_cons_zero, List.set_cons_succ]
  refine wpAnyT_take (i := 4) (d := 21) (v := vs) rfl rfl (by kernel_rfl) (by kernel_rfl) (by kernel_rfl) (by kernel_rfl) (by kernel_rfl) (fun _ _ _ h => h) HS0 (Or.inl ⟨by rfl, fun w' hS' => ?_⟩) ?_
  · obtain ⟨z0, z1, z2, z3⟩ := hS'
    go_simp
  simp only [Act.put, List.setIfInBounds_toArray, List.set_cons_zero, List.set_cons_succ]
  refine wpAnyT_take (i := 5) (d := 22) (v := .pointer (some ⟨gu, 0, none⟩)) rfl rfl (by kernel_rfl) (by kernel_rfl) (by kernel_rfl) (by kernel_rfl) (by kernel_rfl) (fun _ _ _ h => h) HS0 (Or.inl ⟨by rfl, fun w' hS' => ?_⟩) ?_
  · obtain ⟨z0, z1, z2, z3⟩ := hS'
    go_simp
  simp only [Act.put, List.setIfInBounds_toArray, List.set_cons_zero, List.set_cons_succ]
  refine wpAnyT_take (i := 6) (d := 23) (v := .pointer (some ⟨gu, 0, none⟩)) rfl rfl (by kernel_rfl) (by kernel_rfl) (by kernel_rfl) (by kernel_rfl) (by kernel_rfl) (fun _ _ _ h => h) HS0 (Or.inl ⟨by rfl, fun w' hS' => ?_⟩) ?_
  · obtain ⟨z0, z1, z2, z3⟩ := hS'
    go_simp
  simp only [Act.put, List.setIfInBounds_toArray, List.set_cons_zero, List.set_cons_succ]
  refine wpAnyT_take (i := 7) (d := 24) (v := .pointer (some ⟨gu, 2, none⟩)) rfl rfl (by kernel_rfl) (by kernel_rfl) (by kernel_rfl) (by kernel_rfl) (by kernel_rfl) (fun _ _ _ h => h) HS0 (Or.inl ⟨by rfl, fun w' hS' => ?_⟩) ?_
  · obtain ⟨z0, z1, z2, z3⟩ := hS'
    go_simp
  simp only [Act.put, List.setIfInBounds_toArray, List.set_cons_zero, List.set_cons_succ]
  refine wpAnyT_take (i := 8) (d := 25) (v := .pointer (some ⟨gu, 2, none⟩)) rfl rfl (by kernel_rfl) (by kernel_rfl) (by kernel_rfl) (by kernel_rfl) (by kernel_rfl) (fun _ _ _ h => h) HS0 (Or.inl ⟨by rfl, fun w' hS' => ?_⟩) ?_
  · obtain ⟨z0, z1, z2, z3⟩ := hS'
    go_simp
  simp only [Act.put, List.setIfInBounds_toArray, List.set_cons_zero, List.set_cons_succ]
  refine wpAnyT_take (i := 9) (d := 26) (v := .int .i64 (p : Int)) rfl rfl (by kernel_rfl) (by kernel_rfl) (by kernel_rfl) (by kernel_rfl) (by kernel_rfl) (fun _ _ _ h => h) HS0 (Or.inl ⟨by rfl, fun w' hS' => ?_⟩) ?_
  · obtain ⟨z0, z1, z2, z3⟩ := hS'
    go_simp
  simp only [Act.put, List.setIfInBounds_toArray, List.set_cons_zero, List.set_cons_succ]
  refine wpAnyT_take (i := 10) (d := 27) (v := .pointer (some ⟨gu, 0, none⟩)) rfl rfl (by kernel_rfl) (by kernel_rfl) (by kernel_rfl) (by kernel_rfl) (by kernel_rfl) (fun _ _ _ h => h) HS0 (Or.inl ⟨by rfl, fun w' hS' => ?_⟩) ?_
  · obtain ⟨z0, z1, z2, z3⟩ := hS'
    go_simp
  simp only [Act.put, List.setIfInBounds_toArray, List.set_cons_zero, List.set_cons_succ]
  refine wpAnyT_take (i := 11) (d := 28) (v := .pointer (some ⟨gu, 0, none⟩)) rfl rfl (by kernel_rfl) (by kernel_rfl) (by kernel_rfl) (by kernel_rfl) (by kernel_rfl) (fun _ _ _ h => h) HS0 (Or.inl ⟨by rfl, fun w' hS' => ?_⟩) ?_
  · obtain ⟨z0, z1, z2, z3⟩ := hS'
    go_simp
  simp only [Act.put, List.setIfInBounds_toArray, List.set_cons_zero, List.set_cons_succ]
  refine wpAnyT_take (i := 12) (d := 29) (v := .pointer (some ⟨gu, 2, none⟩)) rfl rfl (by kernel_rfl) (by kernel_rfl) (by kernel_rfl) (by kernel_rfl) (by kernel_rfl) (fun _ _ _ h => h) HS0 (Or.inl ⟨by rfl, fun w' hS' => ?_⟩) ?_
  · obtain ⟨z0, z1, z2, z3⟩ := hS'
    go_simp
  simp only [Act.put, List.setIfInBounds_toArray, List.set_cons_zero, List.set_cons_succ]
  refine wpAnyT_take (i := 13) (d := 30) (v := .pointer (some ⟨gu, 3, none⟩)) rfl rfl (by kernel_rfl) (by kernel_rfl) (by kernel_rfl) (by kernel_rfl) (by kernel_rfl) (fun _ _ _ h => h) HS0 (Or.inl ⟨by rfl, fun w' hS' => ?_⟩) ?_
  · obtain ⟨z0, z1, z2, z3⟩ := hS'
    go_simp
  simp only [Act.put, List.setIfInBounds_toArray, List.set_cons_zero, List.set_cons_succ]
  refine wpAnyT_take (i := 14) (d := 31) (v := .int .i64 (s : Int)) rfl rfl (by kernel_rfl) (by kernel_rfl) (by kernel_rfl) (by kernel_rfl) (by kernel_rfl) (fun _ _ _ h => h) HS0 (Or.inl ⟨by rfl, fun w' hS' => ?_⟩) ?_
  · obtain ⟨z0, z1, z2, z3⟩ := hS'
    go_simp
  simp only [Act.put, List.setIfInBounds_toArray, List.set_cons_zero, List.set_cons_succ]
  refine wpAnyT_take (i := 15) (d := 32) (v := .int .i64 ((s : Int) + 1)) rfl rfl (by kernel_rfl) (by kernel_rfl) (by kernel_rfl) (by kernel_rfl) (by kernel_rfl) (fun _ _ _ h => h) HS0 (Or.inl ⟨by rfl, fun w' hS' => ?_⟩) ?_
  · obtain ⟨z0, z1, z2, z3⟩ := hS'
    go_simp
  simp only [Act.put, List.setIfInBounds_toArray, List.set_cons_zero, List.set_cons_succ]
  refine wpAnyT_take (i := 16) (d := 33) (v := .agg #[.int .i64 (p : Int), .int .i64 ((s : Int) + 1)]) rfl rfl (by kernel_rfl) (by kernel_rfl) (by kernel_rfl) (by kernel_rfl) (by kernel_rfl) (fun _ _ _ h => h) HS0 (Or.inl ⟨by rfl, fun w' hS' => ?_⟩) ?_
  · obtain ⟨z0, z1, z2, z3⟩ := hS'
    go_simp
  simp only [Act.put, List.setIfInBounds_toArray, List.set_cons_zero, List.set_cons_succ]
  have hU0 : UnB (w.alloc (.cells #[.int .i64 (p : Int), .int .i64 ((s : Int) + 1)] 58)).drew gu vo vs p s := (Below.heap_alloc w _ gu hgl).trans HU.out
  have hP0 : OwnSp (w.alloc (.cells #[.int .i64 (p : Int), .int .i64 ((s : Int) + 1)] 58)).drew base vs sp := World.ownsRow.alloc (w := w) HSP.out _
  have hO0 : Own (w.alloc (.cells #[.int .i64 (p : Int), .int .i64 ((s : Int) + 1)] 58)).drew base vo out := World.ownsRow.alloc (w := w) HO.out _
  have hN0 : (w.alloc (.cells #[.int .i64 (p : Int), .int .i64 ((s : Int) + 1)] 58)).drew.heap[w.heap.size]? = some (.cells #[.int .i64 (p : Int), .int .i64 ((s + 1 : Nat) : Int)] 58 (0, 0)) := heap_alloc_new w _
  have hF0 : FrT w (w.alloc (.cells #[.int .i64 (p : Int), .int .i64 ((s : Int) + 1)] 58)).drew := FrT.alloc w _
  have hB0 : Below base w (w.alloc (.cells #[.int .i64 (p : Int), .int .i64 ((s : Int) + 1)] 58)).drew := below_drew1 ((Below.refl _ w).alloc hbw _)
  refine wpAnyT_one (i := 17) (by kernel_rfl) rfl (fun K hK => ?_)
  go_simp
  refine hK.out _ _ (fun _ => ⟨hU0.c0, hU0.c1, hU0.c2, hU0.c3⟩) ?_
  clear hK HS0
  generalize (w.alloc (.cells #[.int .i64 (p : Int), .int .i64 ((s : Int) + 1)] 58)).drew = w1 at *
  refine wpAnyT_one (i := 18) (by kernel_rfl) rfl (fun K hK => ?_)
  refine step_pushSp rfl (.tmp 21) (.tmp 34) rfl base vs sp rfl hP0 p (s + 1) w.heap.size rfl hN0 (by have := HL.out; omega) (Nat.le_trans hbw hB0.size) ?_
  intro g5 c5 w5 hP5 hg5
  have hU5 : UnB w5 gu vo vs p s := (row_ne hP0 hg5 hU0 (by decide)).trans hU0
  have hO5 : Own w5 base vo out := row_move hO0 fun b cs fr hb => row_ne hP0 hg5 hb (by decide)
  have hF5 : FrT w w5 := hF0.trans fun b cs t fr hb h1 h2 h3 => row_ne hP0 hg5 hb h3
  have hB5 : Below base w w5 := hB0.grown hg5 (Nat.le_trans hbw hB0.size) (fun q hq => (World.ownsRow.lt hP0 q hq).1)
  refine hK.out _ _ (fun _ => ⟨hU5.c0, hU5.c1, hU5.c2, hU5.c3⟩) ?_
  clear hK hU0 hP0 hO0 hN0 hF0 hB0 hg5
  try simp only [Act.put, List.setIfInBounds_toArray]
  refine wpAnyT_one (i := 19) (by kernel_rfl) rfl (fun K hK => ?_)
  go_simp
  refine hK.out _ _ (fun _ => ⟨hU5.c0, hU5.c1, hU5.c2, hU5.c3⟩) ?_
  clear hK
  refine wpAnyT_one (i := 20) (by kernel_rfl) rfl (fun K hK => ?_)
  go_simp
  refine hK.out _ _ (fun _ => ⟨hU5.c0, hU5.c1, hU5.c2, hU5.c3⟩) ?_
  clear hK
  have k1 := hU5.c1
  have f1 := hU5.free 1
  refine wpAnyT_one (i := 21) (by kernel_rfl) rfl (fun K hK => ?_)
  go_simp
  refine hK.out _ _ (fun h => last_out h) ?_
  clear hK
  refine wpAnyT_done (by kernel_rfl) ?_ _
  have HF : Hid (EpOut base gu vo out (sp ++ [(p, s + 1)]) p s w (.returned (.tuple #[])) (w5.setCell ⟨gu, 1, none⟩ (.slice (some ⟨g5, 0, none⟩) (sp.length + 1) c5))) := Lib.hid (by
    have hset : UnB (w5.setCell ⟨gu, 1, none⟩ (.slice (some ⟨g5, 0, none⟩) (sp.length + 1) c5)) gu vo (.slice (some ⟨g5, 0, none⟩) (sp.length + 1) c5) p s := heap_setCell_same _ gu 1 _ _ _ hU5
    refine ⟨rfl, ⟨_, hset, ?_, ?_⟩, hF5.trans fun b cs t fr hb h1 h2 h3 => setU_other hU5 hb h1, below_cell hB5 hg⟩
    · exact row_move hP5 fun b cs fr hb => setU_other hU5 hb (by decide)
    · exact row_move hO5 fun b cs fr hb => setU_other hU5 hb (by decide))
  clear hU5 hO5 hF5 hB5 hP5 k1 f1
  go_wp2_with fail
  exact bodyPost_end (results_none Tryd.results51 _ _ _) rfl HF.out
end Go.Proofs.YtofphjfgaihjhaaDoor
namespace Go.Proofs.YtofphjfgaihjhaaDoor
open Go.RowKit

/-- Bytes copied one by one, from a place on. -/
def copyN (out : List UInt8) (st : Nat) : Nat → List UInt8
  | 0 => out
  | k + 1 => copyN out st k ++ [((copyN out st k)[st + k]?).getD 0]
theorem copyN_length (out : List UInt8) (st k : Nat) : (copyN out st k).length = out.length + k := by
  induction k with
  | zero => rfl
  | succ k ih => simp [copyN, ih]; omega
theorem copyN_in (out : List UInt8) (st : Nat) : ∀ k, st + k ≤ out.length → copyN out st k = out ++ (out.drop st).take k
  | 0, _ => by simp [copyN]
  | k + 1, h => by
    have hk : k < (out.drop st).length := by simp; omega
    rw [copyN, copyN_in out st k (by omega), List.getElem?_append_left (by omega), List.getElem?_eq_getElem (by omega), List.take_add_one, List.getElem?_eq_getElem hk, List.getElem_drop]
    simp
theorem copyN_over (out : List UInt8) (st m : Nat) (h : st + m = out.length) (hm : 1 ≤ m) : copyN out st (m + 1) = out ++ (out.drop st ++ (out.drop st).take 1) := by
  have hd : (out.drop st).take m = out.drop st := List.take_of_length_le (by simp; omega)
  have hl : 0 < (out.drop st).length := by simp; omega
  rw [copyN, copyN_in out st m (by omega), hd, List.getElem?_append_right (by omega), show st + m - out.length = 0 from by omega]
  obtain ⟨x, l, e⟩ := List.exists_cons_of_length_pos hl
  rw [e]
  simp
/-- What a code leaves. -/
def apS (out : List UInt8) (sp : List (Nat × Nat)) (c : Nat) : Option (List UInt8) :=
  if c < 256 then (if out.length + 1 ≤ 200 then some (out ++ [UInt8.ofNat c]) else none)
  else match sp[c - 257]? with
  | some q => if out.length + q.2 ≤ 200 then some (copyN out q.1 q.2) else none
  | none => none
/-- What appendString answers and leaves. -/
def ApOut (base gu : Nat) (vs : Value) (sp : List (Nat × Nat)) (p s : Nat) (r : Option (List UInt8)) (w : World) (e : Ending) (w' : World) : Prop :=
  e = .returned (.bool r.isSome) ∧ (∀ o, r = some o → ∃ vo', UnB w' gu vo' vs p s ∧ OwnSp w' base vs sp ∧ Own w' base vo' o) ∧ FrT w w' ∧ Below base w w'
/-- The out field is stored. -/
theorem set_out {w w5 : World} {base gu : Nat} {vo vs v5 : Value} {sp : List (Nat × Nat)} {p s : Nat} {o : List UInt8} (hU : UnB w5 gu vo vs p s) (hP : OwnSp w5 base vs sp) (hO : Own w5 base v5 o) (hF : FrT w w5) (hB : Below base w w5) (hg : base ≤ gu) :
    (UnB (w5.setCell ⟨gu, 0, none⟩ v5) gu v5 vs p s ∧ OwnSp (w5.setCell ⟨gu, 0, none⟩ v5) base vs sp ∧ Own (w5.setCell ⟨gu, 0, none⟩ v5) base v5 o) ∧ FrT w (w5.setCell ⟨gu, 0, none⟩ v5) ∧ Below base w (w5.setCell ⟨gu, 0, none⟩ v5) := by
  have hset : UnB (w5.setCell ⟨gu, 0, none⟩ v5) gu v5 vs p s := heap_setCell_same _ gu 0 _ _ _ hU
  refine ⟨⟨hset, ?_, ?_⟩, hF.trans fun b cs t fr hb h1 h2 h3 => setU_other hU hb h1, below_cell hB hg⟩
  · exact row_move hP fun b cs fr hb => setU_other hU hb (by decide)
  · exact row_move hO fun b cs fr hb => setU_other hU hb (by decide)
/-- A byte's row has grown. -/
theorem grown_out {w w1 w5 : World} {base gu : Nat} {vo vs v1 : Value} {sp : List (Nat × Nat)} {p s : Nat} {o : List UInt8} (hU : UnB w1 gu vo vs p s) (hP : OwnSp w1 base vs sp) (hO : Own w1 base v1 o) (hF : FrT w w1) (hB : Below base w w1) (hbw : base ≤ w.heap.size) (hg : w1.grownBy w5 v1.ownBlock) : UnB w5 gu vo vs p s ∧ OwnSp w5 base vs sp ∧ FrT w w5 ∧ Below base w w5 := by
  refine ⟨(row_ne hO hg hU (by decide)).trans hU, row_move hP fun b cs fr hb => row_ne hO hg hb (by decide), hF.trans fun b cs t fr hb h1 h2 h3 => row_ne hO hg hb h2, hB.grown hg (Nat.le_trans hbw hB.size) (fun q hq => (World.ownsRow.lt hO q hq).1)⟩

set_option maxRecDepth 100000 in
set_option maxHeartbeats 2000000 in
theorem apString_byte (base gu : Nat) (vo vs : Value) (out : List UInt8) (sp : List (Nat × Nat)) (p s : Nat) (x : UInt8) (w : World) (h : UnB w gu vo vs p s) (ho : Own w base vo out) (hsp : OwnSp w base vs sp) (hol : out.length ≤ 200) (hg : base ≤ gu) (hbw : base ≤ w.heap.size) :
    Calls Tryd.prog 52 #[.pointer (some ⟨gu, 0, none⟩), .int .i64 (x.toNat : Int)] w (ApOut base gu vs sp p s (apS out sp x.toNat) w) := by
  obtain ⟨Ao, co, rfl, -, -⟩ := ho.has
  have hx1 : ((x.toNat : Int) < 256) = True := eq_true (by have := x.toNat_lt; omega)
  have hx2 : IntKind.u8.wrap (x.toNat : Int) = (x.toNat : Int) := by
    show (x.toNat : Int) % 256 = (x.toNat : Int)
    have := x.toNat_lt
    omega
  have hx3 : (x.toNat : Int) % 256 = (x.toNat : Int) := by have := x.toNat_lt; omega
  have c0 := h.c0
  have hU1 : UnB (w.alloc (.cells #[.int .u8 (x.toNat : Int)] 5)) gu (.slice Ao out.length co) vs p s := (Below.heap_alloc w _ gu h.lt).trans h
  have hP1 : OwnSp (w.alloc (.cells #[.int .u8 (x.toNat : Int)] 5)) base vs sp := World.ownsRow.alloc hsp _
  have hO1 : Own (w.alloc (.cells #[.int .u8 (x.toNat : Int)] 5)) base (.slice Ao out.length co) out := World.ownsRow.alloc ho _
  have HG := Lib.hid (And.intro hU1 (And.intro hP1 (And.intro hO1 (And.intro (FrT.alloc w (.cells #[.int .u8 (x.toNat : Int)] 5)) ((Below.refl base w).alloc hbw (.cells #[.int .u8 (x.toNat : Int)] 5))))))
  have HR : Hid (apS out sp x.toNat = if out.length + 1 ≤ 200 then some (out ++ [x]) else none) := Lib.hid (by
    unfold apS
    rw [if_pos (by have := x.toNat_lt; omega)]
    simp)
  have HOL := Lib.hid hol
  have HO := Lib.hid ho
  clear h ho hsp hol hU1 hP1 hO1
  go_enter Tryd.func52, Tryd.ntmps52
  go_upto_region 3 with (at_builtin; refine wpList_push1 rfl (.tmp 13) (.tmp 16) rfl base (.slice Ao out.length co) out rfl HO.out x w.heap.size rfl rfl (by have := HOL.out; omega) hbw ?_; intro g5 c5 w5 ho5 hg5; have hQ5 := grown_out HG.out.1 HG.out.2.1 HG.out.2.2.1 HG.out.2.2.2.1 HG.out.2.2.2.2 hbw hg5; have k0 := hQ5.1.c0; have f0 := hQ5.1.free 0)
  have hQ6 := set_out hQ5.1 hQ5.2.1 ho5 hQ5.2.2.1 hQ5.2.2.2 hg
  have k6 := hQ6.1.1.c0
  have HQ := Lib.hid hQ6
  clear hQ5 hQ6 k0 f0 ho5 hg5 c0
  generalize w5.setCell ⟨gu, 0, none⟩ (.slice (some ⟨g5, 0, none⟩) (out.length + 1) c5) = w6 at *
  go_wp2_with fail
  go_ret
  unfold ApOut
  rw [HR.out]
  by_cases hq : out.length + 1 ≤ 200
  · rw [if_pos hq]
    refine ⟨?_, fun o' ho' => ?_, HQ.out.2.1, HQ.out.2.2⟩
    · show Ending.returned (Value.bool (decide ((out.length : Int) + 1 ≤ 200))) = _
      rw [decide_eq_true (by omega)]
      rfl
    · injection ho' with ho'
      subst ho'
      exact ⟨_, HQ.out.1.1, HQ.out.1.2.1, HQ.out.1.2.2⟩
  · rw [if_neg hq]
    refine ⟨?_, fun o' ho' => (by cases ho'), HQ.out.2.1, HQ.out.2.2⟩
    show Ending.returned (Value.bool (decide ((out.length : Int) + 1 ≤ 200))) = _
    rw [decide_eq_false (by omega)]
    rfl
set_option maxRecDepth 100000 in
set_option maxHeartbeats 2000000 in
theorem apString_none (base gu : Nat) (vo vs : Value) (out : List UInt8) (sp : List (Nat × Nat)) (p s j : Nat) (w : World) (h : UnB w gu vo vs p s) (hsp : OwnSp w base vs sp) (hj : sp.length ≤ j) (hj2 : j < 255) :
    Calls Tryd.prog 52 #[.pointer (some ⟨gu, 0, none⟩), .int .i64 ((257 + j : Nat) : Int)] w (ApOut base gu vs sp p s (apS out sp (257 + j)) w) := by
  obtain ⟨As, cs, rfl, -⟩ := hsp.has
  have c1 := h.c1
  have HR : Hid (apS out sp (257 + j) = none) := Lib.hid (by
    unfold apS
    rw [if_neg (by omega), show 257 + j - 257 = j from by omega, List.getElem?_eq_none hj])
  obtain ⟨cd, hcd⟩ : ∃ cd : Int, ((257 + j : Nat) : Int) = cd := ⟨_, rfl⟩
  rw [hcd]
  have h1 : ¬ cd < 256 := by omega
  have h2 : ¬ cd < 257 := by omega
  have h3 : wrap64 (j : Int) = (j : Int) := by unfold wrap64; omega
  have h3' : cd - 257 = (j : Int) := by omega
  have h4 : (sp.length : Int) ≤ (j : Int) := by omega
  clear h hsp hj hj2 hcd
  go_enter Tryd.func52, Tryd.ntmps52
  go_wp2
  go_ret
  unfold ApOut
  rw [HR.out]
  exact ⟨rfl, fun o' ho' => (by cases ho'), FrT.refl w, Below.refl _ _⟩
set_option maxRecDepth 100000 in
set_option maxHeartbeats 4000000 in
theorem apString_span (base gu : Nat) (vo vs : Value) (out : List UInt8) (sp : List (Nat × Nat)) (p s j st n : Nat) (w : World) (h : UnB w gu vo vs p s) (ho : Own w base vo out) (hsp : OwnSp w base vs sp) (hj : sp[j]? = some (st, n)) (hj2 : j < 255) (hst : st < out.length) (hn : n ≤ 300) (hol : out.length ≤ 200) (hg : base ≤ gu) (hbw : base ≤ w.heap.size) :
    Calls Tryd.prog 52 #[.pointer (some ⟨gu, 0, none⟩), .int .i64 ((257 + j : Nat) : Int)] w (ApOut base gu vs sp p s (apS out sp (257 + j)) w) := by
  obtain ⟨As, cs, rfl, -⟩ := hsp.has
  obtain ⟨gp, rfl, e1, e2⟩ := hsp.spot hj
  obtain ⟨Ao, co, rfl, -, -⟩ := ho.has
  have hjl := (List.getElem?_eq_some_iff.1 hj).1
  have c0 := h.c0
  have c1 := h.c1
  have HR : Hid (apS out sp (257 + j) = if out.length + n ≤ 200 then some (copyN out st n) else none) := Lib.hid (by
    unfold apS
    rw [if_neg (by omega), show 257 + j - 257 = j from by omega, hj])
  obtain ⟨cd, hcd⟩ : ∃ cd : Int, ((257 + j : Nat) : Int) = cd := ⟨_, rfl⟩
  rw [hcd]
  have h1 : ¬ cd < 256 := by omega
  have h2 : ¬ cd < 257 := by omega
  have h3' : cd - 257 = (j : Int) := by omega
  have h3 : wrap64 (j : Int) = (j : Int) := by unfold wrap64; omega
  have h4 : (j : Int) < (sp.length : Int) := by omega
  have h5 : ¬ (sp.length : Int) ≤ (j : Int) := by omega
  have HF := Lib.hid (And.intro hst (And.intro hn (And.intro hol hj2)))
  have HU := Lib.hid h
  have HO := Lib.hid ho
  have HSP := Lib.hid hsp
  clear h ho hsp hj hj2 hcd hjl hst hn hol
  go_enter Tryd.func52, Tryd.ntmps52
  go_upto_region 7 with fail
  obtain ⟨gs, hgs⟩ : ∃ gs, w.heap.size = gs := ⟨_, rfl⟩
  have hU1 : UnB (w.alloc (.cells #[.int .i64 (st : Int), .int .i64 (n : Int)] 58)) gu (.slice Ao out.length co) (.slice (some ⟨gp, 0, none⟩) sp.length cs) p s := (Below.heap_alloc w _ gu HU.out.lt).trans HU.out
  have hP1 : OwnSp (w.alloc (.cells #[.int .i64 (st : Int), .int .i64 (n : Int)] 58)) base (.slice (some ⟨gp, 0, none⟩) sp.length cs) sp := World.ownsRow.alloc HSP.out _
  have hO1 : Own (w.alloc (.cells #[.int .i64 (st : Int), .int .i64 (n : Int)] 58)) base (.slice Ao out.length co) out := World.ownsRow.alloc HO.out _
  have hN1 : (w.alloc (.cells #[.int .i64 (st : Int), .int .i64 (n : Int)] 58)).heap[w.heap.size]? = some (.cells #[.int .i64 (st : Int), .int .i64 (n : Int)] 58 (0, 0)) := heap_alloc_new w _
  have hF1 : FrT w (w.alloc (.cells #[.int .i64 (st : Int), .int .i64 (n : Int)] 58)) := FrT.alloc w _
  have hB1 : Below base w (w.alloc (.cells #[.int .i64 (st : Int), .int .i64 (n : Int)] 58)) := (Below.refl _ w).alloc hbw _
  rw [hgs] at hN1 ⊢
  generalize w.alloc (.cells #[.int .i64 (st : Int), .int .i64 (n : Int)] 58) = w1 at *
  have q0 := hU1.c0
  have q1 : w1.cell? ⟨gs, 1, none⟩ = some (.int .i64 (n : Int)) := by rw [cell_of_row w1 _ 1 _ _ _ hN1]; rfl
  obtain ⟨hst, hn, hol, hj2⟩ := HF.out
  have HI := Lib.hid (And.intro hU1 (And.intro hP1 (And.intro hO1 (And.intro hN1 (And.intro hF1 hB1)))))
  have hoI : (out.length : Int) ≤ 1073741824 := by omega
  have hnI : (n : Int) ≤ 1073741824 := by omega
  clear hU1 hP1 hO1 hN1 hF1 hB1 c0 c1 e1 e2 h1 h2 h3 h3' h4 h5 HSP HO HU hst hn hol hj2
  go_quiet (fail)
  by_cases hq : out.length + n ≤ 200
  · have hqI : (out.length : Int) + (n : Int) ≤ 200 := by omega
    have HR2 : Hid (apS out sp (257 + j) = some (copyN out st n)) := Lib.hid (by rw [HR.out, if_pos hq])
    clear hq
    go_wp2_with fail
    go_loopw [57] (fun i wr => ∃ k : Nat, k ≤ n ∧ i = .int .i64 k ∧ ∃ vo', UnB wr gu vo' (.slice (some ⟨gp, 0, none⟩) sp.length cs) p s ∧ OwnSp wr base (.slice (some ⟨gp, 0, none⟩) sp.length cs) sp ∧ Own wr base vo' (copyN out st k) ∧ wr.heap[gs]? = some (.cells #[.int .i64 (st : Int), .int .i64 (n : Int)] 58 (0, 0)) ∧ FrT w wr ∧ Below base w wr) (fun i _ => n - (intOf i).toNat)
    case atStart => exact ⟨0, Nat.zero_le _, rfl, _, HI.out.1, HI.out.2.1, HI.out.2.2.1, HI.out.2.2.2.1, HI.out.2.2.2.2.1, below_draws HI.out.2.2.2.2.2 _⟩
    case round =>
      clear HI q0 q1
      obtain ⟨k, hk, rfl, vo', hU, hP, hO, hN, hF, hB⟩ := hrel
      by_cases hlt : k < n
      · obtain ⟨Aq, co', rfl, -, -⟩ := hO.has
        obtain ⟨m, hm⟩ : ∃ m, (copyN out st k).length = m := ⟨_, rfl⟩
        have hml : m = out.length + k := by rw [← hm, copyN_length]
        obtain ⟨go, rfl, -, -⟩ := hO.nonnil (by rw [hm]; have := HF.out.1; omega)
        obtain ⟨x, hx⟩ : ∃ x, (copyN out st k)[st + k]? = some x := ⟨_, List.getElem?_eq_getElem (by rw [hm]; have := HF.out.1; omega)⟩
        have hxc : wr.cell? ⟨go, st + k, none⟩ = some (.int .u8 (x.toNat : Int)) := by
          rw [World.ownsRow.cellAt hO (st + k) (by rw [hm]; have := HF.out.1; omega)]
          simp [hx, bv]
        rw [hm] at hU
        have HO := Lib.hid hO
        have HCN : Hid (copyN out st (k + 1) = copyN out st k ++ [x]) := Lib.hid (by rw [copyN, hx]; rfl)
        have HM := Lib.hid hm
        obtain ⟨ix, hix⟩ : ∃ ix, st + k = ix := ⟨_, rfl⟩
        have px : 0 ≤ (ix : Int) ∧ (ix : Int) < (m : Int) := by have := HF.out.1; omega
        have hst2 : IntKind.i64.wrap ((st : Int) + (k : Int)) = (ix : Int) := by rw [IntWalk.i64_in _ (by have := HF.out; omega)]; omega
        rw [hix] at hxc
        have HML := Lib.hid hml
        clear hix hml
        have g0 : wr.cell? ⟨gs, 0, none⟩ = some (.int .i64 (st : Int)) := by rw [cell_of_row wr _ 0 _ _ _ hN]; rfl
        have HS0 : wr.drew.cell? ⟨gu, 0, none⟩ = some (.slice (some ⟨go, 0, none⟩) m co') ∧ wr.drew.cell? ⟨gu, 1, none⟩ = some (.slice (some ⟨gp, 0, none⟩) sp.length cs) ∧ wr.drew.cell? ⟨gu, 2, none⟩ = some (.int .i64 (p : Int)) ∧ wr.drew.cell? ⟨gu, 3, none⟩ = some (.int .i64 (s : Int)) ∧ wr.drew.cell? ⟨gs, 0, none⟩ = some (.int .i64 (st : Int)) := ⟨hU.c0, hU.c1, hU.c2, hU.c3, g0⟩
        have hxd : wr.drew.cell? ⟨go, ix, none⟩ = some (.int .u8 (x.toNat : Int)) := hxc
        clear hO hx hm g0 hxc
        go_upto_region 12 with fail
        obtain ⟨co, hco⟩ : ∃ co, co = co' := ⟨_, rfl⟩
        subst hco
        refine wp_region_T (fun w' => w'.cell? ⟨gu, 0, none⟩ = some (.slice (some ⟨go, 0, none⟩) m co) ∧ w'.cell? ⟨gu, 1, none⟩ = some (.slice (some ⟨gp, 0, none⟩) sp.length cs) ∧ w'.cell? ⟨gu, 2, none⟩ = some (.int .i64 (p : Int)) ∧ w'.cell? ⟨gu, 3, none⟩ = some (.int .i64 (s : Int)) ∧ w'.cell? ⟨gs, 0, none⟩ = some (.int .i64 (st : Int))) 19 (by kernel_rfl) ?_
        refine wpAnyT_take (i := 0) (d := 60) (v := .pointer (some ⟨gu, 0, none⟩)) rfl rfl (by kernel_rfl) (by kernel_rfl) (by kernel_rfl) (by kernel_rfl) (by kernel_rfl) (fun _ _ _ h => h) HS0 (Or.inl ⟨by rfl, fun w' hS' => ?_⟩) ?_
        · obtain ⟨z0, z1, z2, z3, z4⟩ := hS'
          go_simp
        simp only [Act.put, List.setIfInBounds_toArray, List.set_cons_zero, List.set_cons_succ]
        refine wpAnyT_take (i := 1) (d := 61) (v := .pointer (some ⟨gu, 0, none⟩)) rfl rfl (by kernel_rfl) (by kernel_rfl) (by kernel_rfl) (by kernel_rfl) (by kernel_rfl) (fun _ _ _ h => h) HS0 (Or.inl ⟨by rfl, fun w' hS' => ?_⟩) ?_
        · obtain ⟨z0, z1, z2, z3, z4⟩ := hS'
          go_simp
        simp only [Act.put, List.setIfInBounds_toArray, List.set_cons_zero, List.set_cons_succ]
        refine wpAnyT_take (i := 2) (d := 62) (v := .pointer (some ⟨gu, 0, none⟩)) rfl rfl (by kernel_rfl) (by kernel_rfl) (by kernel_rfl) (by kernel_rfl) (by kernel_rfl) (fun _ _ _ h => h) HS0 (Or.inl ⟨by rfl, fun w' hS' => ?_⟩) ?_
        · obtain ⟨z0, z1, z2, z3, z4⟩ := hS'
          go_simp
        simp only [Act.put, List.setIfInBounds_toArray, List.set_cons_zero, List.set_cons_succ]
        refine wpAnyT_take (i := 3) (d := 63) (v := .pointer (some ⟨gu, 0, none⟩)) rfl rfl (by kernel_rfl) (by kernel_rfl) (by kernel_rfl) (by kernel_rfl) (by kernel_rfl) (fun _ _ _ h => h) HS0 (Or.inl ⟨by rfl, fun w' hS' => ?_⟩) ?_
        · obtain ⟨z0, z1, z2, z3, z4⟩ := hS'
          go_simp
        simp only [Act.put, List.setIfInBounds_toArray, List.set_cons_zero, List.set_cons_succ]
        refine wpAnyT_take (i := 4) (d := 64) (v := .slice (some ⟨go, 0, none⟩) m co) rfl rfl (by kernel_rfl) (by kernel_rfl) (by kernel_rfl) (by kernel_rfl) (by kernel_rfl) (fun _ _ _ h => h) HS0 (Or.inl ⟨by rfl, fun w' hS' => ?_⟩) ?_
        · obtain ⟨z0, z1, z2, z3, z4⟩ := hS'
          go_simp
        simp only [Act.put, List.setIfInBounds_toArray, List.set_cons_zero, List.set_cons_succ]
        refine wpAnyT_take (i := 5) (d := 65) (v := .pointer (some ⟨gu, 0, none⟩)) rfl rfl (by kernel_rfl) (by kernel_rfl) (by kernel_rfl) (by kernel_rfl) (by kernel_rfl) (fun _ _ _ h => h) HS0 (Or.inl ⟨by rfl, fun w' hS' => ?_⟩) ?_
        · obtain ⟨z0, z1, z2, z3, z4⟩ := hS'
          go_simp
        simp only [Act.put, List.setIfInBounds_toArray, List.set_cons_zero, List.set_cons_succ]
        refine wpAnyT_take (i := 6) (d := 66) (v := .pointer (some ⟨gu, 0, none⟩)) rfl rfl (by kernel_rfl) (by kernel_rfl) (by kernel_rfl) (by kernel_rfl) (by kernel_rfl) (fun _ _ _ h => h) HS0 (Or.inl ⟨by rfl, fun w' hS' => ?_⟩) ?_
        · obtain ⟨z0, z1, z2, z3, z4⟩ := hS'
          go_simp
        simp only [Act.put, List.setIfInBounds_toArray, List.set_cons_zero, List.set_cons_succ]
        refine wpAnyT_take (i := 7) (d := 67) (v := .pointer (some ⟨gu, 0, none⟩)) rfl rfl (by kernel_rfl) (by kernel_rfl) (by kernel_rfl) (by kernel_rfl) (by kernel_rfl) (fun _ _ _ h => h) HS0 (Or.inl ⟨by rfl, fun w' hS' => ?_⟩) ?_
        · obtain ⟨z0, z1, z2, z3, z4⟩ := hS'
          go_simp
        simp only [Act.put, List.setIfInBounds_toArray, List.set_cons_zero, List.set_cons_succ]
        refine wpAnyT_take (i := 8) (d := 68) (v := .slice (some ⟨go, 0, none⟩) m co) rfl rfl (by kernel_rfl) (by kernel_rfl) (by kernel_rfl) (by kernel_rfl) (by kernel_rfl) (fun _ _ _ h => h) HS0 (Or.inl ⟨by rfl, fun w' hS' => ?_⟩) ?_
        · obtain ⟨z0, z1, z2, z3, z4⟩ := hS'
          go_simp
        simp only [Act.put, List.setIfInBounds_toArray, List.set_cons_zero, List.set_cons_succ]
        refine wpAnyT_take (i := 9) (d := 69) (v := .pointer (some ⟨gs, 0, none⟩)) rfl rfl (by kernel_rfl) (by kernel_rfl) (by kernel_rfl) (by kernel_rfl) (by kernel_rfl) (fun _ _ _ h => h) HS0 (Or.inl ⟨by rfl, fun w' hS' => ?_⟩) ?_
        · obtain ⟨z0, z1, z2, z3, z4⟩ := hS'
          go_simp
        simp only [Act.put, List.setIfInBounds_toArray, List.set_cons_zero, List.set_cons_succ]
        refine wpAnyT_take (i := 10) (d := 70) (v := .int .i64 (st : Int)) rfl rfl (by kernel_rfl) (by kernel_rfl) (by kernel_rfl) (by kernel_rfl) (by kernel_rfl) (fun _ _ _ h => h) HS0 (Or.inl ⟨by rfl, fun w' hS' => ?_⟩) ?_
        · obtain ⟨z0, z1, z2, z3, z4⟩ := hS'
          go_simp
        simp only [Act.put, List.setIfInBounds_toArray, List.set_cons_zero, List.set_cons_succ]
        refine wpAnyT_take (i := 11) (d := 71) (v := .int .i64 (k : Int)) rfl rfl (by kernel_rfl) (by kernel_rfl) (by kernel_rfl) (by kernel_rfl) (by kernel_rfl) (fun _ _ _ h => h) HS0 (Or.inl ⟨by rfl, fun w' hS' => ?_⟩) ?_
        · obtain ⟨z0, z1, z2, z3, z4⟩ := hS'
          go_simp
        simp only [Act.put, List.setIfInBounds_toArray, List.set_cons_zero, List.set_cons_succ]
        refine wpAnyT_take (i := 12) (d := 72) (v := .int .i64 (ix : Int)) rfl rfl (by kernel_rfl) (by kernel_rfl) (by kernel_rfl) (by kernel_rfl) (by kernel_rfl) (fun _ _ _ h => h) HS0 (Or.inl ⟨by rfl, fun w' hS' => ?_⟩) ?_
        · obtain ⟨z0, z1, z2, z3, z4⟩ := hS'
          go_simp
        simp only [Act.put, List.setIfInBounds_toArray, List.set_cons_zero, List.set_cons_succ]
        refine wpAnyT_one (i := 13) (by kernel_rfl) rfl (fun K hK => ?_)
        go_simp
        refine hK.out _ _ (fun _ => HS0) ?_
        clear hK
        refine wpAnyT_one (i := 14) (by kernel_rfl) rfl (fun K hK => ?_)
        go_simp
        refine hK.out _ _ (fun _ => HS0) ?_
        clear hK
        have hU1 : UnB (wr.alloc (.cells #[.int .u8 (x.toNat : Int)] 5)).drew gu (.slice (some ⟨go, 0, none⟩) m co) (.slice (some ⟨gp, 0, none⟩) sp.length cs) p s := (Below.heap_alloc wr _ gu hU.lt).trans hU
        have hP1 : OwnSp (wr.alloc (.cells #[.int .u8 (x.toNat : Int)] 5)).drew base (.slice (some ⟨gp, 0, none⟩) sp.length cs) sp := World.ownsRow.alloc (w := wr) hP _
        have hO1 : Own (wr.alloc (.cells #[.int .u8 (x.toNat : Int)] 5)).drew base (.slice (some ⟨go, 0, none⟩) m co) (copyN out st k) := by have := World.ownsRow.alloc (w := wr) HO.out (.cells #[.int .u8 (x.toNat : Int)] 5); rw [HM.out] at this; rw [← HM.out] at this ⊢; exact this
        have hN1 : (wr.alloc (.cells #[.int .u8 (x.toNat : Int)] 5)).drew.heap[gs]? = some (.cells #[.int .i64 (st : Int), .int .i64 (n : Int)] 58 (0, 0)) := (Below.heap_alloc wr _ gs (Array.getElem?_eq_some_iff.1 hN).1).trans hN
        have hF1 : FrT w (wr.alloc (.cells #[.int .u8 (x.toNat : Int)] 5)).drew := hF.trans (FrT.alloc wr _)
        have hB1 : Below base w (wr.alloc (.cells #[.int .u8 (x.toNat : Int)] 5)).drew := below_drew1 (hB.alloc (Nat.le_trans hbw hB.size) _)
        have hX1 : (wr.alloc (.cells #[.int .u8 (x.toNat : Int)] 5)).drew.heap[wr.heap.size]? = some (.cells #[.int .u8 (x.toNat : Int)] 5 (0, 0)) := heap_alloc_new wr _
        have r1 : (wr.alloc (.cells #[.int .u8 (x.toNat : Int)] 5)).drew.cell? ⟨gs, 0, none⟩ = some (.int .i64 (st : Int)) := by rw [cell_of_row _ _ 0 _ _ _ hN1]; rfl
        refine wpAnyT_one (i := 15) (by kernel_rfl) rfl (fun K hK => ?_)
        go_simp
        refine hK.out _ _ (fun _ => ⟨hU1.c0, hU1.c1, hU1.c2, hU1.c3, r1⟩) ?_
        clear hK HS0 hxd hU hP hN hF hB r1
        generalize (wr.alloc (.cells #[.int .u8 (x.toNat : Int)] 5)).drew = w2 at *
        refine wpAnyT_one (i := 16) (by kernel_rfl) rfl (fun K hK => ?_)
        refine step_push rfl (.tmp 64) (.tmp 75) rfl base (.slice (some ⟨go, 0, none⟩) m co) (copyN out st k) rfl hO1 ⟨wr.heap.size, 0, none⟩ 1 [x] rfl (fun j u hu => World.news_of_block hX1 j _ (by
          match j, hu with
          | 0, hu => simp at hu; subst hu; rfl)) (by simp) (by rw [HM.out, HML.out]; have := HF.out; simp; omega) (Nat.le_trans hbw hB1.size) ?_
        intro g5 c5 w5 hO5 hg5
        obtain ⟨hU5, hP5, hF5, hB5⟩ := grown_out hU1 hP1 hO1 hF1 hB1 hbw hg5
        have hN5 := (row_ne hO1 hg5 hN1 (by decide)).trans hN1
        have r5 : w5.cell? ⟨gs, 0, none⟩ = some (.int .i64 (st : Int)) := by rw [cell_of_row _ _ 0 _ _ _ hN5]; rfl
        refine hK.out _ _ (fun _ => ⟨hU5.c0, hU5.c1, hU5.c2, hU5.c3, r5⟩) ?_
        clear hK hU1 hP1 hO1 hN1 hF1 hB1 hX1 hg5
        try simp only [Act.put, List.setIfInBounds_toArray]
        refine wpAnyT_one (i := 17) (by kernel_rfl) rfl (fun K hK => ?_)
        go_simp
        refine hK.out _ _ (fun _ => ⟨hU5.c0, hU5.c1, hU5.c2, hU5.c3, r5⟩) ?_
        clear hK
        refine wpAnyT_one (i := 18) (by kernel_rfl) rfl (fun K hK => ?_)
        go_simp
        refine hK.out _ _ (fun _ => ⟨hU5.c0, hU5.c1, hU5.c2, hU5.c3, r5⟩) ?_
        clear hK r5
        have hQ6 := set_out hU5 hP5 hO5 hF5 hB5 hg
        have HN6 := Lib.hid ((setU_other (i := 0) (x := .slice (some ⟨g5, 0, none⟩) ((copyN out st k).length + [x].length) c5) hU5 hN5 (by decide)).trans hN5)
        rw [← HCN.out] at hQ6
        have HQ6 := Lib.hid hQ6
        have k0 := hU5.c0
        have f0 := hU5.free 0
        clear hQ6 hU5 hP5 hO5 hF5 hB5 hN5
        refine wpAnyT_one (i := 19) (by kernel_rfl) rfl (fun K hK => ?_)
        go_simp
        refine hK.out _ _ (fun h => last_out h) ?_
        clear hK k0 f0
        refine wpAnyT_done (by kernel_rfl) ?_ _
        go_wp2_with fail
        go_roundw
        case rel => exact ⟨k + 1, by omega, by go_num, _, HQ6.out.1.1, HQ6.out.1.2.1, HQ6.out.1.2.2, HN6.out, HQ6.out.2.1, HQ6.out.2.2⟩
        case measure => simp [intOf]; omega
      · obtain rfl : k = n := by omega
        have HE : Hid (ApOut base gu (.slice (some ⟨gp, 0, none⟩) sp.length cs) sp p s (apS out sp (257 + j)) w (.returned (.bool true)) wr) := Lib.hid (by
          unfold ApOut
          rw [HR2.out]
          refine ⟨rfl, fun o' ho' => ?_, hF, hB⟩
          injection ho' with ho'
          subst ho'
          exact ⟨_, hU, hP, hO⟩)
        clear hU hP hO hN hF hB
        go_wp2_with fail
        go_ret
        exact HE.out
  · have hqI : 200 < (out.length : Int) + (n : Int) := by omega
    have HE : Hid (∀ m, ApOut base gu (.slice (some ⟨gp, 0, none⟩) sp.length cs) sp p s (apS out sp (257 + j)) w (.returned (.bool false)) (w1.drewN m)) := Lib.hid (fun m => by
      unfold ApOut
      rw [HR.out, if_neg hq]
      exact ⟨rfl, fun o' ho' => (by cases ho'), HI.out.2.2.2.2.1, below_draws HI.out.2.2.2.2.2 _⟩)
    clear hq
    go_wp2_with fail
    go_ret
    exact HE.out _
end Go.Proofs.YtofphjfgaihjhaaDoor
namespace Go.Proofs.YtofphjfgaihjhaaDoor
open Go.RowKit

/-- Where the strings that were met, and the last one, stand in what was unpacked. -/
def SpanRel (out : List UInt8) (met : List (List UInt8)) (last : List UInt8) (sp : List (Nat × Nat)) (p s : Nat) : Prop :=
  sp.length = met.length ∧ (∀ (i : Nat) b, met[i]? = some b → ∃ st n, sp[i]? = some (st, n) ∧ 1 ≤ n ∧ st + n ≤ out.length ∧ b = (out.drop st).take n) ∧ p + s = out.length ∧ last = out.drop p
/-- The spans once the last string is entered. -/
def sp2 (sp : List (Nat × Nat)) (p s : Nat) : List (Nat × Nat) := if s = 0 then sp else sp ++ [(p, s + 1)]
theorem last_len {out last : List UInt8} {p s : Nat} (h : p + s = out.length) (hl : last = out.drop p) : last.length = s := by rw [hl]; simp; omega
theorem ap_bytes {out : List UInt8} {met : List (List UInt8)} {last : List UInt8} {sp : List (Nat × Nat)} {p s cd : Nat} (h : SpanRel out met last sp p s) (h5 : cd < 512) :
    apS out (sp2 sp p s) cd = if (bytes4 met last cd).length ≠ 0 ∧ out.length + (bytes4 met last cd).length ≤ 200 then some (out ++ bytes4 met last cd) else none := by
  obtain ⟨h1, h2, h3, h4⟩ := h
  have hll := last_len h3 h4
  unfold apS bytes4
  by_cases hc : cd < 256
  · rw [if_pos hc, if_pos hc]
    simp
  · rw [if_neg hc, if_neg hc]
    by_cases hi : cd - 257 < met.length
    · rw [if_pos hi]
      obtain ⟨b, hb⟩ : ∃ b, met[cd - 257]? = some b := ⟨_, List.getElem?_eq_getElem hi⟩
      obtain ⟨st, n, e1, e2, e3, e4⟩ := h2 _ b hb
      have e5 : (sp2 sp p s)[cd - 257]? = some (st, n) := by
        unfold sp2
        split
        · exact e1
        · rw [List.getElem?_append_left (by omega)]; exact e1
      have hbl : b.length = n := by rw [e4]; simp; omega
      rw [e5, hb]
      simp only [Option.getD_some]
      rw [copyN_in out st n e3, ← e4, hbl]
      by_cases hq : out.length + n ≤ 200
      · rw [if_pos hq, if_pos ⟨by omega, hq⟩]
      · rw [if_neg hq, if_neg (fun q => hq q.2)]
    · rw [if_neg hi]
      by_cases hj : cd - 257 = met.length ∧ 0 < last.length ∧ cd < 512
      · rw [if_pos hj]
        have e5 : (sp2 sp p s)[cd - 257]? = some (p, s + 1) := by
          unfold sp2
          rw [if_neg (by omega), List.getElem?_append_right (by omega), show cd - 257 - sp.length = 0 from by omega]
          rfl
        have hbl : (last ++ last.take 1).length = s + 1 := by simp; omega
        rw [e5]
        simp only
        rw [copyN_over out p s h3 (by omega), ← h4, hbl]
        by_cases hq : out.length + (s + 1) ≤ 200
        · rw [if_pos hq, if_pos ⟨by omega, hq⟩]
        · rw [if_neg hq, if_neg (fun q => hq q.2)]
      · rw [if_neg hj]
        have e5 : (sp2 sp p s)[cd - 257]? = none := by
          unfold sp2
          split
          · exact List.getElem?_eq_none (by omega)
          · refine List.getElem?_eq_none ?_
            simp
            omega
        rw [e5]
        simp
/-- Behind a code. -/
theorem span_next {out : List UInt8} {met : List (List UInt8)} {last : List UInt8} {sp : List (Nat × Nat)} {p s : Nat} {b : List UInt8} (h : SpanRel out met last sp p s) (hm : met.length < 255) (hb : b.length ≠ 0) : SpanRel (out ++ b) (meet4 met last b) b (sp2 sp p s) out.length b.length := by
  obtain ⟨h1, h2, h3, h4⟩ := h
  have hll := last_len h3 h4
  have hold : ∀ st n, st + n ≤ out.length → (out.drop st).take n = ((out ++ b).drop st).take n := by
    intro st n hle
    rw [List.drop_append_of_le_length (by omega), List.take_append_of_le_length (by simp; omega)]
  refine ⟨?_, fun i x hx => ?_, by simp, by simp⟩
  · unfold sp2 meet4
    by_cases hs : s = 0
    · rw [if_pos hs, if_neg (by omega)]; exact h1
    · rw [if_neg hs, if_pos ⟨by omega, hm⟩]; simp [h1]
  · unfold meet4 at hx
    by_cases hs : s = 0
    · rw [if_neg (by omega)] at hx
      obtain ⟨st, n, e1, e2, e3, e4⟩ := h2 i x hx
      exact ⟨st, n, by unfold sp2; rw [if_pos hs]; exact e1, e2, by simp; omega, by rw [e4]; exact hold st n e3⟩
    · rw [if_pos ⟨by omega, hm⟩] at hx
      by_cases hi : i < met.length
      · rw [List.getElem?_append_left hi] at hx
        obtain ⟨st, n, e1, e2, e3, e4⟩ := h2 i x hx
        exact ⟨st, n, by unfold sp2; rw [if_neg hs, List.getElem?_append_left (by omega)]; exact e1, e2, by simp; omega, by rw [e4]; exact hold st n e3⟩
      · rw [List.getElem?_append_right (by omega)] at hx
        have hi2 := (List.getElem?_eq_some_iff.1 hx).1
        simp at hi2
        have hi3 : i = met.length := by omega
        subst hi3
        simp at hx
        subst hx
        refine ⟨p, s + 1, by unfold sp2; rw [if_neg hs, List.getElem?_append_right (by omega), h1, Nat.sub_self]; rfl, by omega, by simp; omega, ?_⟩
        rw [List.drop_append_of_le_length (by omega), ← h4, List.take_append, show s + 1 - last.length = 1 from by omega, List.take_of_length_le (l := last) (by omega)]
theorem span_at {out : List UInt8} {met : List (List UInt8)} {last : List UInt8} {sp : List (Nat × Nat)} {p s i st n : Nat} (h : SpanRel out met last sp p s) (hi : (sp2 sp p s)[i]? = some (st, n)) : st < out.length ∧ n ≤ out.length + 1 := by
  obtain ⟨h1, h2, h3, h4⟩ := h
  have hold : sp[i]? = some (st, n) → st < out.length ∧ n ≤ out.length + 1 := fun e => by
    have hil := (List.getElem?_eq_some_iff.1 e).1
    obtain ⟨b, hb⟩ : ∃ b, met[i]? = some b := ⟨_, List.getElem?_eq_getElem (by omega)⟩
    obtain ⟨st', n', e1, e2, e3, -⟩ := h2 i b hb
    rw [e] at e1
    injection e1 with e1
    injection e1 with q1 q2
    omega
  unfold sp2 at hi
  split at hi
  · exact hold hi
  · by_cases hil : i < sp.length
    · rw [List.getElem?_append_left hil] at hi
      exact hold hi
    · rw [List.getElem?_append_right (by omega)] at hi
      have hi2 := (List.getElem?_eq_some_iff.1 hi).1
      simp at hi2
      have hi3 : i - sp.length = 0 := by omega
      rw [hi3] at hi
      simp at hi
      obtain ⟨rfl, rfl⟩ := hi
      omega
/-- Block gu is an unpacker of out, what was met and the last string. -/
def Unp (w : World) (base gu : Nat) (out : List UInt8) (met : List (List UInt8)) (last : List UInt8) : Prop :=
  ∃ vo vs sp p s, UnB w gu vo vs p s ∧ Own w base vo out ∧ OwnSp w base vs sp ∧ SpanRel out met last sp p s
/-- appendString for every code. -/
theorem apString_any (base gu : Nat) (vo vs : Value) (out : List UInt8) (sp : List (Nat × Nat)) (p s cd : Nat) (w : World) (h : UnB w gu vo vs p s) (ho : Own w base vo out) (hsp : OwnSp w base vs sp) (h5 : cd < 512) (h6 : cd ≠ 256) (hs : ∀ (i st n : Nat), sp[i]? = some (st, n) → st < out.length ∧ n ≤ 300) (hol : out.length ≤ 200) (hg : base ≤ gu) (hbw : base ≤ w.heap.size) :
    Calls Tryd.prog 52 #[.pointer (some ⟨gu, 0, none⟩), .int .i64 (cd : Int)] w (ApOut base gu vs sp p s (apS out sp cd) w) := by
  by_cases hc : cd < 256
  · have e : (UInt8.ofNat cd).toNat = cd := by simp; omega
    have := apString_byte base gu vo vs out sp p s (UInt8.ofNat cd) w h ho hsp hol hg hbw
    rw [e] at this
    exact this
  · obtain ⟨j, rfl⟩ : ∃ j, cd = 257 + j := ⟨cd - 257, by omega⟩
    cases hj : sp[j]? with
    | none => exact apString_none base gu vo vs out sp p s j w h hsp (List.getElem?_eq_none_iff.1 hj) (by omega)
    | some q =>
      obtain ⟨st, n⟩ := q
      obtain ⟨k1, k2⟩ := hs j st n hj
      exact apString_span base gu vo vs out sp p s j st n w h ho hsp hj (by omega) k1 k2 hol hg hbw
/-- What put answers and leaves. -/
def PutU (base gu : Nat) (out : List UInt8) (met : List (List UInt8)) (last b : List UInt8) (w : World) (e : Ending) (w' : World) : Prop :=
  e = .returned (.bool (decide (b.length ≠ 0 ∧ out.length + b.length ≤ 200))) ∧ ((b.length ≠ 0 ∧ out.length + b.length ≤ 200) → Unp w' base gu (out ++ b) (meet4 met last b) b) ∧ FrT w w' ∧ Below base w w'
/-- enterPrevious, whatever the last string is. -/
theorem enterPrev_any (base gu : Nat) (vo vs : Value) (out : List UInt8) (sp : List (Nat × Nat)) (p s : Nat) (w : World) (h : UnB w gu vo vs p s) (ho : Own w base vo out) (hsp : OwnSp w base vs sp) (hs2 : s ≤ 1000) (hl : sp.length < 255) (hg : base ≤ gu) (hbw : base ≤ w.heap.size) :
    Calls Tryd.prog 51 #[.pointer (some ⟨gu, 0, none⟩)] w (EpOut base gu vo out (sp2 sp p s) p s w) := by
  by_cases hs : s = 0
  · subst hs
    refine (enterPrev_zero gu vo vs p w h).mono ?_
    rintro e w' ⟨rfl, rfl⟩
    exact ⟨rfl, ⟨vs, h, hsp, ho⟩, FrT.refl _, Below.refl _ _⟩
  · have := enterPrev_more base gu vo vs out sp p s w h ho hsp (by omega) hs2 hl hg hbw
    unfold sp2
    rw [if_neg hs]
    exact this
set_option maxHeartbeats 2000000 in
theorem putU_any (base gu cd : Nat) (out : List UInt8) (met : List (List UInt8)) (last : List UInt8) (w : World) (h : Unp w base gu out met last) (h5 : cd < 512) (h6 : cd ≠ 256) (hm : met.length < 255) (hol : out.length ≤ 200) (hg : base ≤ gu) (hbw : base ≤ w.heap.size) :
    Calls Tryd.prog 35 #[.pointer (some ⟨gu, 0, none⟩), .int .i64 (cd : Int)] w (PutU base gu out met last (bytes4 met last cd) w) := by
  obtain ⟨vo, vs, sp, p, s, hU, hO, hP, hR⟩ := h
  have hsl : s ≤ out.length := by have := hR.2.2.1; omega
  have CE := Lib.hid (enterPrev_any base gu vo vs out sp p s w hU hO hP (by omega) (by have := hR.1; omega) hg hbw)
  have CA := Lib.hid fun vs' W (hU : UnB W gu vo vs' p s) hO hP hbW => apString_any base gu vo vs' out (sp2 sp p s) p s cd W hU hO hP h5 h6 (fun i st n hi => by have := span_at hR hi; omega) hol hg hbW
  rw [ap_bytes hR h5] at CA
  have HN := Lib.hid (fun (b : List UInt8) hb => span_next (b := b) hR hm hb)
  have HOL := Lib.hid hol
  generalize bytes4 met last cd = b at *
  obtain ⟨Ao, co, rfl, -, -⟩ := hO.has
  clear hU hO hP hR h5 h6 hm hsl hol
  go_enter Tryd.func35, Tryd.ntmps35
  go_wp2_with fail
  refine CE.out.mono ?_
  rintro e w1 ⟨rfl, ⟨vs1, hU1, hP1, hO1⟩, hF1, hB1⟩
  have c0 := hU1.c0
  have CA1 := Lib.hid (CA.out vs1 w1 hU1 hO1 hP1 (Nat.le_trans hbw hB1.size))
  have HF1 := Lib.hid (And.intro hF1 hB1)
  clear CE CA hU1 hP1 hO1 hF1 hB1
  unfold ApOut at CA1
  go_wp2_with fail
  refine CA1.out.mono ?_
  rintro e w2 ⟨rfl, hs2, hF2, hB2⟩
  have hF := HF1.out.1.trans hF2
  have hB := HF1.out.2.trans hB2
  clear CA1 HF1 hF2 hB2 c0
  by_cases hq : b.length ≠ 0 ∧ out.length + b.length ≤ 200
  · rw [if_pos hq] at hs2 ⊢
    obtain ⟨vo2, hU2, hP2, hO2⟩ := hs2 _ rfl
    obtain ⟨A2, c2, rfl, -, -⟩ := hO2.has
    have d0 := hU2.c0
    have d2 := hU2.c2
    have d3 := hU2.c3
    have f2 := hU2.free 2
    have f3 := hU2.free 3
    have hlen : (out ++ b).length = out.length + b.length := by simp
    rw [hlen] at d0
    have hset : UnB ((w2.setCell ⟨gu, 2, none⟩ (.int .i64 (out.length : Int))).setCell ⟨gu, 3, none⟩ (.int .i64 (b.length : Int))) gu (.slice A2 (out ++ b).length c2) vs1 out.length b.length := by
      have s1 := heap_setCell_same _ gu 2 _ _ (.int .i64 (out.length : Int)) hU2
      have s2 := heap_setCell_same _ gu 3 _ _ (.int .i64 (b.length : Int)) s1
      exact s2
    have hU2' : UnB (w2.setCell ⟨gu, 2, none⟩ (.int .i64 (out.length : Int))) gu (.slice A2 (out ++ b).length c2) vs1 out.length s := heap_setCell_same _ gu 2 _ _ (.int .i64 (out.length : Int)) hU2
    have hoth : ∀ (q : Nat) cs t fr, w2.heap[q]? = some (.cells cs t fr) → t ≠ 60 → ((w2.setCell ⟨gu, 2, none⟩ (.int .i64 (out.length : Int))).setCell ⟨gu, 3, none⟩ (.int .i64 (b.length : Int))).heap[q]? = w2.heap[q]? := fun q cs t fr hb ht => by
      have e1 := setU_other (i := 2) (x := .int .i64 (out.length : Int)) hU2 hb ht
      exact (setU_other (i := 3) (x := .int .i64 (b.length : Int)) hU2' (e1.trans hb) ht).trans e1
    have HQ : Hid (PutU base gu out met last b w (.returned (.bool true)) ((w2.setCell ⟨gu, 2, none⟩ (.int .i64 (out.length : Int))).setCell ⟨gu, 3, none⟩ (.int .i64 (b.length : Int)))) := Lib.hid (by
      refine ⟨by rw [decide_eq_true hq], fun _ => ⟨_, vs1, sp2 sp p s, _, _, hset, ?_, ?_, HN.out b hq.1⟩, hF.trans fun q cs t fr hb h1 _ _ => hoth q cs t fr hb h1, below_cell (below_cell hB hg) hg⟩
      · exact row_move hO2 fun q cs fr hb => hoth q cs _ fr hb (by decide)
      · exact row_move hP2 fun q cs fr hb => hoth q cs _ fr hb (by decide))
    have hb3 : (out.length : Int) ≤ 1000 ∧ (b.length : Int) ≤ 1000 := by have := HOL.out; omega
    clear hU2 hP2 hO2 hset hU2' hoth hF hB hs2 HN hlen hq
    go_wp2
    go_ret
    rw [show (out.length : Int) + (b.length : Int) - (out.length : Int) = (b.length : Int) from by omega]
    exact HQ.out
  · rw [if_neg hq] at hs2 ⊢
    have HQ : Hid (PutU base gu out met last b w (.returned (.bool false)) w2) := Lib.hid ⟨by rw [decide_eq_false hq], fun h => absurd h hq, hF, hB⟩
    clear hs2 hF hB hq HN
    go_wp2
    go_ret
    exact HQ.out
end Go.Proofs.YtofphjfgaihjhaaDoor
namespace Go.Proofs.YtofphjfgaihjhaaDoor
open Go.RowKit

theorem getN_zero (l : List UInt8) (a : Nat) : ∀ q, getN l a q = 0 ↔ ∀ t, t < q → bitAt l (a + t) = 0
  | 0 => by simp [getN]
  | q + 1 => by
    have ih := getN_zero l a q
    have h2 : 0 < 2 ^ q := Nat.two_pow_pos q
    rw [getN]
    constructor
    · intro h t ht
      have h1 : getN l a q = 0 := by omega
      have h3 : bitAt l (a + q) * 2 ^ q = 0 := by omega
      rcases Nat.lt_succ_iff_lt_or_eq.1 ht with h | rfl
      · exact ih.1 h1 t h
      · rcases Nat.mul_eq_zero.1 h3 with h | h
        · exact h
        · omega
    · intro h
      rw [ih.2 fun t ht => h t (by omega), h q (by omega)]
      simp
theorem rest_get {l : List UInt8} {a q : Nat} (h : a + q = 8 * l.length) : restB l a = (getN l a q == 0) := by
  rw [Bool.eq_iff_iff]
  unfold restB
  rw [decide_eq_true_eq, beq_iff_eq, getN_zero]
  constructor
  · intro hr t ht
    exact hr (a + t) (by omega) (by omega)
  · intro hr k hk ha
    have := hr (k - a) (by omega)
    rwa [show a + (k - a) = k from by omega] at this
/-- Whether what is left is less than a byte, and noughts. -/
def padB (l : List UInt8) (a : Nat) : Bool := decide ((a + 7) / 8 = l.length ∧ restB l a = true)
theorem padB_zero {l : List UInt8} {a : Nat} (h : a = 8 * l.length) : padB l a = true := by
  unfold padB
  rw [decide_eq_true_eq]
  refine ⟨by omega, ?_⟩
  unfold restB
  rw [decide_eq_true_eq]
  intro k hk ha
  omega
theorem padB_more {l : List UInt8} {a q : Nat} (h : a + q = 8 * l.length) (hq : 8 ≤ q) : padB l a = false := by
  unfold padB
  rw [decide_eq_false_iff_not]
  intro h2
  have := h2.1
  omega
theorem padB_some {l : List UInt8} {a q : Nat} (h : a + q = 8 * l.length) (hq : q < 8) : padB l a = (getN l a q == 0) := by
  rw [← rest_get h]
  unfold padB
  cases e : restB l a with
  | false => simp
  | true => simp; omega
set_option maxRecDepth 100000 in
set_option maxHeartbeats 2000000 in
theorem onlyPadding_any (g a q : Nat) (A : Option Addr) (c : Nat) (l : List UInt8) (w : World) (h : RdB w g A c l (a : Int) .nilIface) (hs : l.length ≤ 1073741824) (ha : a + q = 8 * l.length) (he : ErrV w 2) (hg : 2 < g) :
    Calls Tryd.prog 36 #[.pointer (some ⟨g, 0, none⟩)] w fun e w' => e = .returned (.bool (padB l a)) ∧ w.grownBy w' (some g) := by
  have c0 := h.c0
  have c1 := h.c1
  have CG := Lib.hid fun n (hq : 1 ≤ (q : Int) ∧ (q : Int) ≤ 12) => get_pos g A c l a q (w.drewN n) (h : RdB (w.drewN n) g A c l (a : Int) .nilIface) hs (by omega) hq he hg
  have hl8 : wrap64 (8 * (l.length : Int)) = 8 * (l.length : Int) := by unfold wrap64; omega
  have hl9 : IntKind.i64.wrap (8 * (l.length : Int)) = 8 * (l.length : Int) := IntWalk.i64_in _ (by omega)
  have hd : 8 * (l.length : Int) - (a : Int) = (q : Int) := by omega
  have hw9 : IntKind.i64.wrap (q : Int) = (q : Int) := IntWalk.i64_in _ (by omega)
  have HA := Lib.hid ha
  clear h hs he ha
  go_enter Tryd.func36, Tryd.ntmps36
  go_upto_region 1 with fail
  go_quiet (fail)
  by_cases hq0 : q = 0
  · subst hq0
    have HR : Hid (padB l a = true) := Lib.hid (padB_zero (by have := HA.out; omega))
    clear CG
    go_wp2_with fail
    go_ret
    exact ⟨by rw [HR.out]; rfl, ⟨rfl, rfl, rfl, Nat.le_refl _, fun _ _ _ => rfl⟩⟩
  · have hq0' : ((q : Int) == 0) = false := beq_eq_false_iff_ne.2 (by omega)
    by_cases hq8 : q < 8
    · have hq8' : (q : Int) < 8 := by omega
      have HR := Lib.hid (padB_some HA.out hq8)
      have hB : bitGetB l (a : Int) (q : Int) = true := decide_eq_true (by have := HA.out; omega)
      have CG1 := Lib.hid (CG.out nq (by omega))
      rw [show bitGetN l (a : Int) (q : Int) = getN l a q from by unfold bitGetN; rw [hB]; simp] at CG1
      clear CG hB
      generalize getN l a q = z at *
      go_wp2_with fail
      refine CG1.out.mono ?_
      rintro e w2 ⟨rfl, -, hg2⟩
      have HB2 : Hid (w.grownBy w2 (some g)) := Lib.hid ⟨hg2.os, hg2.tape, hg2.output, hg2.size, hg2.block⟩
      clear hg2 CG1
      go_wp2_with fail
      go_ret
      refine ⟨?_, HB2.out⟩
      rw [HR.out]
      show Ending.returned (Value.bool ((z : Int) == 0)) = Ending.returned (Value.bool (z == 0))
      rw [show ((z : Int) == 0) = (z == 0) from by rw [Bool.eq_iff_iff, beq_iff_eq, beq_iff_eq]; omega]
    · have hq8' : ¬ (q : Int) < 8 := by omega
      have HR := Lib.hid (padB_more HA.out (by omega))
      clear CG
      go_wp2_with fail
      go_ret
      exact ⟨by rw [HR.out]; rfl, ⟨rfl, rfl, rfl, Nat.le_refl _, fun _ _ _ => rfl⟩⟩
/-- A reader stays while an unpacker works. -/
theorem RdB.fr {w w' : World} {g : Nat} {A : Option Addr} {c : Nat} {l : List UInt8} {a : Int} {e : Value} (h : RdB w g A c l a e) (hF : FrT w w') (hB : Below g w w') : RdB w' g A c l a e :=
  ⟨(hF g _ _ _ h.1 (by decide) (by decide) (by decide)).trans h.1, h.2.below hB⟩
theorem Unp.move {w w' : World} {base gu : Nat} {out : List UInt8} {met : List (List UInt8)} {last : List UInt8} (h : Unp w base gu out met last) (hk : ∀ (b : Nat) cs t fr, w.heap[b]? = some (.cells cs t fr) → t ≠ 64 → w'.heap[b]? = w.heap[b]?) : Unp w' base gu out met last := by
  obtain ⟨vo, vs, sp, p, s, hU, hO, hP, hR⟩ := h
  exact ⟨vo, vs, sp, p, s, (hk gu _ _ _ hU (by decide)).trans hU, row_move hO fun b cs fr hb => hk b cs _ fr hb (by decide), row_move hP fun b cs fr hb => hk b cs _ fr hb (by decide), hR⟩
/-- .. while a reader reads. -/
theorem Unp.read {w w' : World} {base gu g : Nat} {out : List UInt8} {met : List (List UInt8)} {last : List UInt8} {A : Option Addr} {c : Nat} {l : List UInt8} {a : Int} {e : Value} (h : Unp w base gu out met last) (hr : RdB w g A c l a e) (hg : w.grownBy w' (some g)) : Unp w' base gu out met last :=
  h.move fun b cs t fr hb ht => hg.block b (Array.getElem?_eq_some_iff.1 hb).1 fun q => by
    injection q with q
    subst q
    have h1 := hr.1
    rw [hb] at h1
    injection h1 with h1
    injection h1 with _ h2 _
    exact ht h2
/-- How long a slice is. -/
def lenV0 : Value → Nat
  | .slice _ n _ => n
  | _ => 0
/-- How much is unpacked. -/
def outLen (w : World) (gu : Nat) : Nat := match w.cell? ⟨gu, 0, none⟩ with
  | some v => lenV0 v
  | none => 0
theorem Unp.len {w : World} {base gu : Nat} {out : List UInt8} {met : List (List UInt8)} {last : List UInt8} (h : Unp w base gu out met last) : outLen w gu = out.length := by
  obtain ⟨vo, vs, sp, p, s, hU, hO, -, -⟩ := h
  obtain ⟨A, c, rfl, -, -⟩ := hO.has
  unfold outLen
  rw [hU.c0]
  rfl
theorem unp_new (w : World) (base : Nat) : Unp (w.alloc (.cells #[.slice none 0 0, .slice none 0 0, .int .i64 0, .int .i64 0] 60)) base w.heap.size [] [] [] :=
  ⟨.slice none 0 0, .slice none 0 0, [], 0, 0, heap_alloc_new w _, own_nil _ _, World.ownsRow_nil _ _ _ _, rfl, fun i b h => by simp at h, rfl, rfl⟩
/-- What PakGet answers. -/
def PakGOut (l : List UInt8) (w : World) (e : Ending) (w' : World) : Prop := ∃ v, e = .returned (.tuple #[v, .bool (pakGetO l).isSome]) ∧ Own w' w.heap.size v ((pakGetO l).getD []) ∧ Below w.heap.size w w'
theorem pakGOut_none {l : List UInt8} {w w' : World} (h : pakGetO l = none) (hb : Below w.heap.size w w') : PakGOut l w (.returned (.tuple #[.slice none 0 0, .bool false])) w' := ⟨_, by rw [h]; rfl, by rw [h]; exact own_nil _ _, hb⟩
theorem get4_fail {l : List UInt8} {i : Nat} {out : List UInt8} {met : List (List UInt8)} {last : List UInt8} (hi : i ≤ 200) (h : 8 * l.length < 9 * i + 9) : get4 l (356 - i) (9 * i) out met last = none := by
  obtain ⟨f, hf⟩ : ∃ f, 356 - i = f + 1 := ⟨355 - i, by omega⟩
  rw [hf, get4, if_pos h]
theorem get4_end {l : List UInt8} {i : Nat} {out : List UInt8} {met : List (List UInt8)} {last : List UInt8} (hi : i ≤ 200) (h : ¬ 8 * l.length < 9 * i + 9) (hc : getN l (9 * i) 9 = 256) : get4 l (356 - i) (9 * i) out met last = if padB l (9 * i + 9) then some out else none := by
  obtain ⟨f, hf⟩ : ∃ f, 356 - i = f + 1 := ⟨355 - i, by omega⟩
  rw [hf, get4, if_neg h, if_pos hc]
  unfold padB
  by_cases hq : (9 * i + 9 + 7) / 8 = l.length ∧ restB l (9 * i + 9) = true
  · rw [if_pos hq, decide_eq_true hq, if_pos rfl]
  · rw [if_neg hq, decide_eq_false hq, if_neg (by simp)]
theorem get4_step {l : List UInt8} {i : Nat} {out : List UInt8} {met : List (List UInt8)} {last b : List UInt8} (hi : i ≤ 200) (h : ¬ 8 * l.length < 9 * i + 9) (hc : getN l (9 * i) 9 ≠ 256) (hb : bytes4 met last (getN l (9 * i) 9) = b) : get4 l (356 - i) (9 * i) out met last = if b.length ≠ 0 ∧ out.length + b.length ≤ 200 then get4 l (356 - (i + 1)) (9 * (i + 1)) (out ++ b) (meet4 met last b) b else none := by
  obtain ⟨f, hf⟩ : ∃ f, 356 - i = f + 1 := ⟨355 - i, by omega⟩
  rw [hf, get4, if_neg h, if_neg hc, hb, show 356 - (i + 1) = f from by omega]
  by_cases hq : b.length ≠ 0 ∧ out.length + b.length ≤ 200
  · rw [if_pos hq, if_neg (by omega)]
    rfl
  · rw [if_neg hq, if_pos (by omega)]
end Go.Proofs.YtofphjfgaihjhaaDoor
namespace Go.Proofs.YtofphjfgaihjhaaDoor
open Go.RowKit

set_option maxRecDepth 100000 in
set_option maxHeartbeats 4000000 in
theorem implPakGet_any (A : Option Addr) (c : Nat) (l : List UInt8) (w : World) (hs : l.length ≤ 1073741824) (h : Has w w.heap.size A l) (he : Errs w) :
    Calls Tryd.prog 14 #[.slice A l.length c] w (PakGOut l w) := by
  have CN := Lib.hid (newBitReader_any A c l 0 w h he.2.1)
  have hge : 2 < w.heap.size := he.2.2.lt
  have HEB : Hid (∀ W, Below w.heap.size w W → ErrV W 2) := Lib.hid fun W hb => he.2.2.below hb hge
  have HGE := Lib.hid hge
  have CG := Lib.hid fun (p : Nat) (W : World) (hr : RdB W w.heap.size A c l (p : Int) .nilIface) (hp : p < 9000) hb => get_pos w.heap.size A c l p 9 W hr hs (by omega) (by omega) (HEB.out W hb) HGE.out
  have HS := Lib.hid hs
  clear h hs he hge
  go_enter Tryd.func14, Tryd.ntmps14
  go_wp2_with fail
  refine CN.out.mono ?_
  rintro e w1 ⟨rfl, hn1, hb1⟩
  have hr1 : RdB w1 w.heap.size A c l 0 .nilIface := by
    rcases hn1 with ⟨-, h⟩ | ⟨h, -⟩
    · exact h
    · omega
  have hg1 := hr1.lt
  have hu2 := unp_new w1 w.heap.size
  have b2 : Below w1.heap.size w1 (w1.alloc (.cells #[.slice none 0 0, .slice none 0 0, .int .i64 0, .int .i64 0] 60)) := (Below.refl _ w1).alloc (Nat.le_refl _) _
  have hr2 : RdB (w1.alloc (.cells #[.slice none 0 0, .slice none 0 0, .int .i64 0, .int .i64 0] 60)) w.heap.size A c l 0 .nilIface := hr1.fr (FrT.alloc w1 _) (b2.mono (Nat.le_of_lt hg1))
  have B2 := hb1.trans (b2.mono hb1.size)
  have CG2 := Lib.hid (CG.out 0 _ hr2 (by omega) B2)
  have HG1 := Lib.hid hg1
  clear CN hn1 hb1 hr1 b2
  go_upto_region 3 with fail
  generalize w1.alloc (.cells #[.slice none 0 0, .slice none 0 0, .int .i64 0, .int .i64 0] 60) = w2 at *
  have HI := Lib.hid (And.intro hu2 (And.intro hr2 B2))
  clear hu2 hr2 B2 hg1
  go_wp2_with fail
  refine CG2.out.mono ?_
  rintro e w3 ⟨rfl, hgot3, hg3⟩
  have HS3 : Hid (GotP w3 w.heap.size A c l (bitGetB l ((9 * 0 : Nat) : Int) 9) ((9 * 0 + 9 : Nat) : Int) ∧ Unp w3 w.heap.size w1.heap.size [] [] [] ∧ Below w.heap.size w w3) := Lib.hid ⟨hgot3, HI.out.1.read HI.out.2.1 hg3, HI.out.2.2.grown hg3 HI.out.2.2.size (fun k hk => by injection hk with hk; omega)⟩
  clear CG2 hgot3 hg3 HI
  go_wp2_with fail
  go_loopw [6] (fun v6 wr => ∃ (i : Nat) (out : List UInt8) (met : List (List UInt8)) (last : List UInt8), v6 = .int .i64 ((bitGetN l ((9 * i : Nat) : Int) 9 : Nat) : Int) ∧ GotP wr w.heap.size A c l (bitGetB l ((9 * i : Nat) : Int) 9) ((9 * i + 9 : Nat) : Int) ∧ Unp wr w.heap.size w1.heap.size out met last ∧ Below w.heap.size w wr ∧
      get4 l (356 - i) (9 * i) out met last = pakGetO l ∧ i ≤ out.length ∧ out.length ≤ 200 ∧ met.length ≤ out.length) (fun _ wr => 201 - outLen wr w1.heap.size)
  case atStart => exact ⟨0, [], [], [], rfl, HS3.out.1, HS3.out.2.1, HS3.out.2.2, rfl, by simp, by simp, by simp⟩
  case round =>
    clear HS3
    obtain ⟨i, out, met, last, rfl, hgot, hu, hB, hget, hi, hol, hml⟩ := hrel
    rcases hgot with ⟨hbt, hr⟩ | ⟨hbt, a, x, y, hr⟩
    · have hlen : ¬ 8 * l.length < 9 * i + 9 := by
        have := of_decide_eq_true hbt
        omega
      have hN : bitGetN l ((9 * i : Nat) : Int) 9 = getN l (9 * i) 9 := by unfold bitGetN; rw [hbt, if_pos rfl]; rfl
      rw [hN]
      have hcl := getN_lt l (9 * i) 9
      have c2 := hr.c2
      by_cases hc : getN l (9 * i) 9 = 256
      · have hend := get4_end (out := out) (met := met) (last := last) (by omega) hlen hc
        rw [hget] at hend
        rw [hc]
        obtain ⟨q, hq⟩ : ∃ q, 9 * i + 9 + q = 8 * l.length := ⟨8 * l.length - (9 * i + 9), by omega⟩
        have CO := Lib.hid (onlyPadding_any w.heap.size (9 * i + 9) q A c l wr hr HS.out hq (HEB.out _ hB) HGE.out)
        have HU := Lib.hid (And.intro hu hr)
        have HB := Lib.hid hB
        have HEN := Lib.hid hend
        clear hr hu hB hget hi hol hml hc hcl hN hbt hlen hend hq c2 CG
        generalize padB l (9 * i + 9) = pb at *
        go_wp2_with fail
        refine CO.out.mono ?_
        rintro e w5 ⟨rfl, g5⟩
        have hB5 := HB.out.grown g5 HB.out.size (fun k hk => by injection hk with hk; omega)
        obtain ⟨vo, vs, sp, p, s, hU, hO, -, -⟩ := HU.out.1.read HU.out.2 g5
        have c0 := hU.c0
        cases pb
        · have HF := Lib.hid (pakGOut_none HEN.out hB5)
          clear hU hO hB5 g5 CO HU HB HEN
          go_wp2_with fail
          go_ret2
          exact HF.out
        · have HF : Hid (PakGOut l w (.returned (.tuple #[vo, .bool true])) w5) := Lib.hid ⟨_, by rw [HEN.out]; rfl, by rw [HEN.out]; exact hO, hB5⟩
          clear hU hO hB5 g5 CO HU HB HEN
          go_wp2_with fail
          go_ret2
          exact HF.out
      · obtain ⟨cd, hcd⟩ : ∃ cd, getN l (9 * i) 9 = cd := ⟨_, rfl⟩
        have hst := get4_step (out := out) (met := met) (last := last) (by omega) hlen hc rfl
        rw [hget, hcd] at hst
        rw [hcd] at hc hcl
        rw [hcd]
        have CP := Lib.hid (putU_any w.heap.size w1.heap.size cd out met last wr hu (by omega) hc (by omega) hol (Nat.le_of_lt HG1.out) hB.size)
        have hcI : ¬ (cd : Int) = 256 := by omega
        have hcB : ((cd : Int) == 256) = false := beq_eq_false_iff_ne.2 hcI
        have HR := Lib.hid hr
        have HB := Lib.hid hB
        have HST := Lib.hid hst
        have HI := Lib.hid (And.intro hi (And.intro hol (And.intro hml hlen)))
        have HOL : Hid (outLen wr w1.heap.size = out.length) := Lib.hid hu.len
        generalize bytes4 met last cd = b at *
        clear hr hu hB hget hi hol hml hc hcl hN hbt hlen hst hcd
        unfold PutU at CP
        go_wp2_with fail
        refine CP.out.mono ?_
        rintro e w5 ⟨rfl, hu5, hF5, hB5⟩
        have hr5 := HR.out.fr hF5 hB5
        have hBB := HB.out.trans hB5
        clear CP hF5 hB5 c2
        by_cases hq : b.length ≠ 0 ∧ out.length + b.length ≤ 200
        · rw [decide_eq_true hq]
          have hu6 := hu5 hq
          have hst := HST.out
          rw [if_pos hq] at hst
          have CG6 := Lib.hid (CG.out (9 * (i + 1)) w5 (by rw [show ((9 * (i + 1) : Nat) : Int) = ((9 * i + 9 : Nat) : Int) from by omega]; exact hr5) (by have := HI.out; omega) hBB)
          have HU6 := Lib.hid (And.intro hu6 (And.intro hr5 hBB))
          have HQ := Lib.hid hq
          have HS6 := Lib.hid hst
          clear hu5 hu6 hr5 hBB hst hq CG
          go_wp2_with fail
          refine CG6.out.mono ?_
          rintro e w7 ⟨rfl, hgot7, hg7⟩
          have HG7 := Lib.hid hgot7
          have HU7 := Lib.hid (HU6.out.1.read HU6.out.2.1 hg7)
          have HB7 := Lib.hid (HU6.out.2.2.grown hg7 HU6.out.2.2.size (fun k hk => by injection hk with hk; omega))
          clear hgot7 hg7 CG6
          go_wp2_with fail
          go_roundw
          case rel =>
            refine ⟨i + 1, out ++ b, meet4 met last b, b, rfl, ?_, HU7.out, HB7.out, HS6.out.symm, ?_, ?_, ?_⟩
            · exact HG7.out
            · have := HI.out.1; have := HQ.out.1; simp; omega
            · have := HQ.out.2; simp; omega
            · have := HI.out.2.2.1
              have h1 := HQ.out.1
              unfold meet4
              split
              · simp; omega
              · simp; omega
          case measure =>
            have h7 := HU7.out.len
            rw [h7, HOL.out]
            have := HQ.out
            simp
            omega
        · rw [decide_eq_false hq]
          have hst := HST.out
          rw [if_neg hq] at hst
          have HF := Lib.hid (pakGOut_none hst hBB)
          clear hu5 hr5 hBB hst hq CG
          go_wp2_with fail
          go_ret2
          exact HF.out
    · have hN : bitGetN l ((9 * i : Nat) : Int) 9 = 0 := bitGetN_no hbt
      rw [hN]
      have c2 := hr.c2
      have hlen : 8 * l.length < 9 * i + 9 := by
        have := of_decide_eq_false hbt
        omega
      have hf := get4_fail (out := out) (met := met) (last := last) (by omega) hlen
      rw [hget] at hf
      have HF := Lib.hid (pakGOut_none hf hB)
      clear hr hu hB hget hi hol hml hN hbt hlen hf CG
      go_wp2_with fail
      go_ret2
      exact HF.out
end Go.Proofs.YtofphjfgaihjhaaDoor
namespace Go.Proofs.YtofphjfgaihjhaaDoor
open Go.RowKit

/-- The four errors of bits are not nil. -/
def ErrsA (w : World) : Prop := ErrV w 1 ∧ ErrV w 3 ∧ ErrV w 0 ∧ ErrV w 2
theorem ErrsA.below {w w' : World} (h : ErrsA w) (hb : Below w.heap.size w w') : ErrsA w' :=
  ⟨h.1.below hb h.1.lt, h.2.1.below hb h.2.1.lt, h.2.2.1.below hb h.2.2.1.lt, h.2.2.2.below hb h.2.2.2.lt⟩
/-- What a packer answers. -/
def Packed (l : List UInt8) (w : World) (e : Ending) (w' : World) : Prop := ∃ A c, e = .returned (.slice A (pakPutB l).length c) ∧ (pakPutB l).length ≤ c ∧ Has w' w'.heap.size A (pakPutB l) ∧ Below w.heap.size w w'
theorem packed_of {l : List UInt8} {w : World} {e : Ending} {w' : World} (h : PakOut l w e w') : Packed l w e w' := by
  obtain ⟨v, rfl, ho, hb⟩ := h
  obtain ⟨A, c, rfl, hc, hh⟩ := ho.has
  exact ⟨A, c, rfl, hc, hh, hb⟩
theorem putI (A : Option Addr) (c : Nat) (l : List UInt8) (w : World) (hs : l.length ≤ 1000) (hc : l.length ≤ c) (h : Has w w.heap.size A l) (he : ErrsA w) : Calls Tryd.prog 10 #[.slice A l.length c] w (Packed l w) :=
  (implPakPut_any A c l w (by omega) hc h ⟨he.1, he.2.1⟩).mono fun _ _ h => packed_of h
theorem putS (A : Option Addr) (c : Nat) (l : List UInt8) (w : World) (hs : l.length ≤ 1000) (hc : l.length ≤ c) (h : Has w w.heap.size A l) : Calls Tryd.prog 12 #[.slice A l.length c] w (Packed l w) :=
  (specPakPut_any A c l w (by omega) hc h).mono fun _ _ h => packed_of h
/-- What an unpacker answers. -/
def Unpacked (q : Option (List UInt8)) (w : World) (e : Ending) (w' : World) : Prop := ∃ A c, e = .returned (.tuple #[.slice A (q.getD []).length c, .bool q.isSome]) ∧ (q.getD []).length ≤ c ∧ Has w' w'.heap.size A (q.getD []) ∧ Below w.heap.size w w'
theorem unpacked_of {l : List UInt8} {w : World} {e : Ending} {w' : World} (h : PakGOut l w e w') : Unpacked (pakGetO l) w e w' := by
  obtain ⟨v, rfl, ho, hb⟩ := h
  obtain ⟨A, c, rfl, hc, hh⟩ := ho.has
  exact ⟨A, c, rfl, hc, hh, hb⟩
theorem getI (A : Option Addr) (c : Nat) (l : List UInt8) (w : World) (hs : l.length ≤ 1000) (h : Has w w.heap.size A l) (he : ErrsA w) : Calls Tryd.prog 14 #[.slice A l.length c] w (Unpacked (pakGetO l) w) :=
  (implPakGet_any A c l w (by omega) h ⟨he.1, he.2.2.1, he.2.2.2⟩).mono fun _ _ h => unpacked_of h
theorem pakPutB_le4 (l : List UInt8) : (pakPutB l).length ≤ 400 := by
  unfold pakPutB
  split
  · exact bitPutB_le _
  · simp
theorem pakPutB_big {l : List UInt8} (h : ¬ l.length ≤ 200) : pakPutB l = [] := by unfold pakPutB; rw [if_neg h]
end Go.Proofs.YtofphjfgaihjhaaDoor
