/-
  The program's unpacker: what was unpacked, where each string stands in it, and the last one; a code is put. Condition: the block holds such an unpacker.
-/
import Derived.Test.YtofphjfgaihjhaaDoorPakSP
import Derived.Test.YtofphjfgaihjhaaDoorRegT
import Derived.Test.YtofphjfgaihjhaaDoorBitPI
namespace Go.Proofs.YtofphjfgaihjhaaDoor
open Go.RowKit

/-- Spans as pairs of numbers. -/
def spI (l : List (Nat × Nat)) : List (Int × Int) := l.map fun q => ((q.1 : Int), (q.2 : Int))
theorem spI_length (l : List (Nat × Nat)) : (spI l).length = l.length := by simp [spI]
theorem spI_at {l : List (Nat × Nat)} {i a b : Nat} (h : l[i]? = some (a, b)) : (spI l)[i]? = some ((a : Int), (b : Int)) := by
  unfold spI
  rw [List.getElem?_map, h]
  rfl
/-- A row of spans of the call's own. -/
def OwnSp (w : World) (base : Nat) (v : Value) (l : List (Nat × Nat)) : Prop := w.ownsRow base 58 2 v l.length (flat (spI l))
theorem infoSp : (Tryd.prog.info? 58).map (fun i => (i.zero, i.size, i.bytes)) = some (some (.agg #[.int .i64 0, .int .i64 0]), 2, 16) := by kernel_rfl
theorem OwnSp.has {w : World} {base : Nat} {v : Value} {l : List (Nat × Nat)} (h : OwnSp w base v l) : ∃ A c, v = .slice A l.length c ∧ l.length ≤ c := by
  rcases h.2 with ⟨rfl, hn⟩ | ⟨g, cap, cur, rfl, _, hg, hc, _⟩
  · exact ⟨none, 0, by rw [hn], by omega⟩
  · exact ⟨_, cap, rfl, hc⟩
theorem OwnSp.spot {w : World} {base : Nat} {A : Option Addr} {n c : Nat} {l : List (Nat × Nat)} (h : OwnSp w base (.slice A n c) l) {i a b : Nat} (hi : l[i]? = some (a, b)) : ∃ g, A = some ⟨g, 0, none⟩ ∧ w.cell? ⟨g, i * 2, none⟩ = some (.int .i64 (a : Int)) ∧ w.cell? ⟨g, i * 2 + 1, none⟩ = some (.int .i64 (b : Int)) := by
  have hlt := (List.getElem?_eq_some_iff.1 hi).1
  have h' := h
  rcases h.2 with ⟨hv, hn⟩ | ⟨g, cap, cur, hv, _⟩
  · omega
  · injection hv with e1 e2 e3
    subst e1 e2 e3
    have hf := flat_at _ i _ (spI_at hi)
    refine ⟨g, rfl, ?_, ?_⟩
    · rw [World.ownsRow.cellAt h' (i * 2) (by omega)]; exact hf.1
    · rw [World.ownsRow.cellAt h' (i * 2 + 1) (by omega)]; exact hf.2
/-- Block gu is an unpacker. -/
def UnB (w : World) (gu : Nat) (vo vs : Value) (p s : Nat) : Prop := w.heap[gu]? = some (.cells #[vo, vs, .int .i64 (p : Int), .int .i64 (s : Int)] 60 (0, 0))
theorem UnB.c0 {w : World} {gu : Nat} {vo vs : Value} {p s : Nat} (h : UnB w gu vo vs p s) : w.cell? ⟨gu, 0, none⟩ = some vo := by rw [cell_of_row w _ 0 _ _ _ h]; rfl
theorem UnB.c1 {w : World} {gu : Nat} {vo vs : Value} {p s : Nat} (h : UnB w gu vo vs p s) : w.cell? ⟨gu, 1, none⟩ = some vs := by rw [cell_of_row w _ 1 _ _ _ h]; rfl
theorem UnB.c2 {w : World} {gu : Nat} {vo vs : Value} {p s : Nat} (h : UnB w gu vo vs p s) : w.cell? ⟨gu, 2, none⟩ = some (.int .i64 (p : Int)) := by rw [cell_of_row w _ 2 _ _ _ h]; rfl
theorem UnB.c3 {w : World} {gu : Nat} {vo vs : Value} {p s : Nat} (h : UnB w gu vo vs p s) : w.cell? ⟨gu, 3, none⟩ = some (.int .i64 (s : Int)) := by rw [cell_of_row w _ 3 _ _ _ h]; rfl
theorem UnB.free {w : World} {gu : Nat} {vo vs : Value} {p s : Nat} (h : UnB w gu vo vs p s) (i : Nat) : w.frozen? ⟨gu, i, none⟩ = false := by
  unfold UnB at h
  simp [World.frozen?, h]
theorem UnB.lt {w : World} {gu : Nat} {vo vs : Value} {p s : Nat} (h : UnB w gu vo vs p s) : gu < w.heap.size := (Array.getElem?_eq_some_iff.1 h).1
/-- What lies in blocks of other kinds stays. -/
def FrT (w w' : World) : Prop := ∀ (b : Nat) cs t fr, w.heap[b]? = some (.cells cs t fr) → t ≠ 60 → t ≠ 5 → t ≠ 58 → w'.heap[b]? = w.heap[b]?
theorem FrT.refl (w : World) : FrT w w := fun _ _ _ _ _ _ _ _ => rfl
theorem FrT.trans {a b c : World} (h : FrT a b) (k : FrT b c) : FrT a c := fun q cs t fr hq h1 h2 h3 => by
  have e := h q cs t fr hq h1 h2 h3
  exact (k q cs t fr (e.trans hq) h1 h2 h3).trans e
theorem FrT.alloc (w : World) (o : Obj) : FrT w (w.alloc o) := fun b _ _ _ hb _ _ _ => Below.heap_alloc w o b (Array.getElem?_eq_some_iff.1 hb).1
/-- A block of one kind is none of another row's. -/
theorem row_ne {w w' : World} {base : Nat} {e : TypeId} {size : Nat} {v : Value} {n : Nat} {xs : List Value} (ho : w.ownsRow base e size v n xs) (hg : w.grownBy w' v.ownBlock) {b : Nat} {cs : Array Value} {t : TypeId} {fr : Nat × Nat} (hb : w.heap[b]? = some (.cells cs t fr)) (ht : t ≠ e) : w'.heap[b]? = w.heap[b]? := by
  refine hg.block b (Array.getElem?_eq_some_iff.1 hb).1 fun q => ?_
  rcases ho.2 with ⟨rfl, _⟩ | ⟨g0, cap0, cur0, rfl, _, hh, _⟩
  · cases q
  · simp [Value.ownBlock] at q
    subst q
    rw [hb] at hh
    injection hh with hh
    injection hh with _ ht2 _
    exact ht ht2
theorem setU_other {w : World} {gu i : Nat} {x : Value} {vo vs : Value} {p s : Nat} (h : UnB w gu vo vs p s) {b : Nat} {cs : Array Value} {t : TypeId} {fr : Nat × Nat} (hb : w.heap[b]? = some (.cells cs t fr)) (ht : t ≠ 60) : (w.setCell ⟨gu, i, none⟩ x).heap[b]? = w.heap[b]? := by
  refine heap_setCell_other _ _ _ _ fun e => ?_
  simp at e
  subst e
  unfold UnB at h
  rw [hb] at h
  injection h with h
  injection h with _ ht2 _
  exact ht ht2
/-- 'append(v, q)' of one span, v the call's own: as one step of a region that draws its order. -/
theorem step_pushSp {w : World} {ops : Array Oper} {o : Oper} {a : Act} {K : Act → World → Prop} {Q : Exit → Act → World → Prop} {E : Prop} (hgd : o.guard = none) (s x : Operand)
    (ho : o.op = .call { callee := .builtin .append, args := #[s, x], argTypes := #[56, 56] })
    (base : Nat) (v : Value) (l : List (Nat × Nat)) (hs : a.eval s = v) (hown : OwnSp w base v l) (p q H : Nat) (hx : a.eval x = .slice (some ⟨H, 0, none⟩) 1 1) (hH : w.heap[H]? = some (.cells #[.int .i64 (p : Int), .int .i64 (q : Int)] 58 (0, 0)))
    (hb : l.length + 1 ≤ 1073741824) (hbase : base ≤ w.heap.size)
    (h : ∀ g cap w', OwnSp w' base (.slice (some ⟨g, 0, none⟩) (l.length + 1) cap) (l ++ [(p, q)]) → w.grownBy w' v.ownBlock → K (a.put o.dst (.slice (some ⟨g, 0, none⟩) (l.length + 1) cap)) w') :
    if Region.wanted o (yielded ops a.tmps) = true then Oper.wp Tryd.prog o a w K Q else E := by
  obtain ⟨i0, hi, hz0, hz1, hz2⟩ := info_parts infoSp
  refine step_append_lies w hgd s x 56 ho base 58 i0 (.agg #[.int .i64 0, .int .i64 0]) 2 16 Tryd.underlying56 hi hz0 hz1 hz2 rfl (by omega) v l.length (flat (spI l)) hs hown ⟨H, 0, none⟩ 1 1 (flat [((p : Int), (q : Int))]) hx (by rw [flat_length]; rfl) ?_ (flat_one _) (by omega) (by unfold maxLen; omega) (by omega) hbase _ rfl ?_
  · intro j u hu
    refine World.news_of_block hH j u ?_
    simpa [flat, nv] using hu
  · intro g cap w' h1 h2 _ _
    refine h g cap w' ?_ h2
    unfold OwnSp
    rw [List.length_append, show spI (l ++ [(p, q)]) = spI l ++ [((p : Int), (q : Int))] from by simp [spI], flat_append]
    exact h1

set_option maxHeartbeats 1000000 in
theorem enterPrev_zero (gu : Nat) (vo vs : Value) (p : Nat) (w : World) (h : UnB w gu vo vs p 0) : Calls Tryd.prog 51 #[.pointer (some ⟨gu, 0, none⟩)] w fun e w' => e = .returned (.tuple #[]) ∧ w = w' := by
  have c3 : w.cell? ⟨gu, 3, none⟩ = some (.int .i64 0) := h.c3
  clear h
  go_enter Tryd.func51, Tryd.ntmps51
  go_wp2
  exact bodyPost_ret (results_none Tryd.results51 _ _ _) rfl ⟨rfl, rfl⟩

/-- What enterPrevious leaves. -/
def EpOut (base gu : Nat) (vo : Value) (out : List UInt8) (sp : List (Nat × Nat)) (p s : Nat) (w : World) (e : Ending) (w' : World) : Prop := e = .returned (.tuple #[]) ∧ (∃ vs', UnB w' gu vo vs' p s ∧ OwnSp w' base vs' sp ∧ Own w' base vo out) ∧ FrT w w' ∧ Below base w w'
set_option maxRecDepth 100000 in
set_option maxHeartbeats 2000000 in
theorem enterPrev_more (base gu : Nat) (vo vs : Value) (out : List UInt8) (sp : List (Nat × Nat)) (p s : Nat) (w : World) (h : UnB w gu vo vs p s) (ho : Own w base vo out) (hsp : OwnSp w base vs sp) (hs : 0 < s) (hs2 : s ≤ 1000) (hl : sp.length < 255) (hg : base ≤ gu) (hbw : base ≤ w.heap.size) :
    Calls Tryd.prog 51 #[.pointer (some ⟨gu, 0, none⟩)] w (EpOut base gu vo out (sp ++ [(p, s + 1)]) p s w) := by
  obtain ⟨As, cs, rfl, -⟩ := hsp.has
  obtain ⟨vs, hvs0⟩ : ∃ vs, Value.slice As sp.length cs = vs := ⟨_, rfl⟩
  have HVS := Lib.hid hvs0
  clear hvs0
  have c0 := h.c0
  have c1 := h.c1
  have c2 := h.c2
  have c3 := h.c3
  have HU := Lib.hid h
  have HO := Lib.hid ho
  have HSP := Lib.hid hsp
  have hsI : ((s : Int) == 0) = false := beq_eq_false_iff_ne.2 (by omega)
  have hsN : ¬ s = 0 := by omega
  have hws : wrap64 ((s : Int) + 1) = (s : Int) + 1 := by unfold wrap64; omega
  have hws' : IntKind.i64.wrap ((s : Int) + 1) = (s : Int) + 1 := IntWalk.i64_in _ (by omega)
  have hlI : (257 + (sp.length : Int) == 512) = false := beq_eq_false_iff_ne.2 (by omega)
  have hlJ : 257 + (sp.length : Int) < 512 := by omega
  have HL := Lib.hid hl
  have hgl := h.lt
  clear h ho hsp hs hs2 hl
  go_enter Tryd.func51, Tryd.ntmps51
  go_upto_region 1 with fail
  have hvs := HVS.out
  rw [hvs] at c1 HSP HU
  clear hvs HVS
  have HS0 : w.drew.cell? ⟨gu, 0, none⟩ = some vo ∧ w.drew.cell? ⟨gu, 1, none⟩ = some vs ∧ w.drew.cell? ⟨gu, 2, none⟩ = some (.int .i64 (p : Int)) ∧ w.drew.cell? ⟨gu, 3, none⟩ = some (.int .i64 (s : Int)) := ⟨c0, c1, c2, c3⟩
  clear c0 c1 c2 c3
  refine wp_region_T (fun w' => w'.cell? ⟨gu, 0, none⟩ = some vo ∧ w'.cell? ⟨gu, 1, none⟩ = some vs ∧ w'.cell? ⟨gu, 2, none⟩ = some (.int .i64 (p : Int)) ∧ w'.cell? ⟨gu, 3, none⟩ = some (.int .i64 (s : Int))) 21 (by kernel_rfl) ?_
  refine wpAnyT_take (i := 0) (d := 17) (v := .pointer (some ⟨gu, 0, none⟩)) rfl rfl (by kernel_rfl) (by kernel_rfl) (by kernel_rfl) (by kernel_rfl) (by kernel_rfl) (fun _ _ _ h => h) HS0 (Or.inl ⟨by rfl, fun w' hS' => ?_⟩) ?_
  · obtain ⟨z0, z1, z2, z3⟩ := hS'
    go_simp
  simp only [Act.put, List.setIfInBounds_toArray, List.set_cons_zero, List.set_cons_succ]
  refine wpAnyT_take (i := 1) (d := 18) (v := .pointer (some ⟨gu, 0, none⟩)) rfl rfl (by kernel_rfl) (by kernel_rfl) (by kernel_rfl) (by kernel_rfl) (by kernel_rfl) (fun _ _ _ h => h) HS0 (Or.inl ⟨by rfl, fun w' hS' => ?_⟩) ?_
  · obtain ⟨z0, z1, z2, z3⟩ := hS'
    go_simp
  simp only [Act.put, List.setIfInBounds_toArray, List.set_cons_zero, List.set_cons_succ]
  refine wpAnyT_take (i := 2) (d := 19) (v := .pointer (some ⟨gu, 0, none⟩)) rfl rfl (by kernel_rfl) (by kernel_rfl) (by kernel_rfl) (by kernel_rfl) (by kernel_rfl) (fun _ _ _ h => h) HS0 (Or.inl ⟨by rfl, fun w' hS' => ?_⟩) ?_
  · obtain ⟨z0, z1, z2, z3⟩ := hS'
    go_simp
  simp only [Act.put, List.setIfInBounds_toArray, List.set_cons_zero, List.set_cons_succ]
  refine wpAnyT_take (i := 3) (d := 20) (v := .pointer (some ⟨gu, 1, none⟩)) rfl rfl (by kernel_rfl) (by kernel_rfl) (by kernel_rfl) (by kernel_rfl) (by kernel_rfl) (fun _ _ _ h => h) HS0 (Or.inl ⟨by rfl, fun w' hS' => ?_⟩) ?_
  · obtain ⟨z0, z1, z2, z3⟩ := hS'
    go_simp
  simp only [Act.put, List.setIfInBounds_toArray, List.set_cons_zero, List.set_cons_succ]
  refine wpAnyT_take (i := 4) (d := 21) (v := vs) rfl rfl (by kernel_rfl) (by kernel_rfl) (by kernel_rfl) (by kernel_rfl) (by kernel_rfl) (fun _ _ _ h => h) HS0 (Or.inl ⟨by rfl, fun w' hS' => ?_⟩) ?_
  · obtain ⟨z0, z1, z2, z3⟩ := hS'
    go_simp
  simp only [Act.put, List.setIfInBounds_toArray, List.set_cons_zero, List.set_cons_succ]
  refine wpAnyT_take (i := 5) (d := 22) (v := .pointer (some ⟨gu, 0, none⟩)) rfl rfl (by kernel_rfl) (by kernel_rfl) (by kernel_rfl) (by kernel_rfl) (by kernel_rfl) (fun _ _ _ h => h) HS0 (Or.inl ⟨by rfl, fun w' hS' => ?_⟩) ?_
  · obtain ⟨z0, z1, z2, z3⟩ := hS'
    go_simp
  simp only [Act.put, List.setIfInBounds_toArray, List.set_cons_zero, List.set_cons_succ]
  refine wpAnyT_take (i := 6) (d := 23) (v := .pointer (some ⟨gu, 0, none⟩)) rfl rfl (by kernel_rfl) (by kernel_rfl) (by kernel_rfl) (by kernel_rfl) (by kernel_rfl) (fun _ _ _ h => h) HS0 (Or.inl ⟨by rfl, fun w' hS' => ?_⟩) ?_
  · obtain ⟨z0, z1, z2, z3⟩ := hS'
    go_simp
  simp only [Act.put, List.setIfInBounds_toArray, List.set_cons_zero, List.set_cons_succ]
  refine wpAnyT_take (i := 7) (d := 24) (v := .pointer (some ⟨gu, 2, none⟩)) rfl rfl (by kernel_rfl) (by kernel_rfl) (by kernel_rfl) (by kernel_rfl) (by kernel_rfl) (fun _ _ _ h => h) HS0 (Or.inl ⟨by rfl, fun w' hS' => ?_⟩) ?_
  · obtain ⟨z0, z1, z2, z3⟩ := hS'
    go_simp
  simp only [Act.put, List.setIfInBounds_toArray, List.set_cons_zero, List.set_cons_succ]
  refine wpAnyT_take (i := 8) (d := 25) (v := .pointer (some ⟨gu, 2, none⟩)) rfl rfl (by kernel_rfl) (by kernel_rfl) (by kernel_rfl) (by kernel_rfl) (by kernel_rfl) (fun _ _ _ h => h) HS0 (Or.inl ⟨by rfl, fun w' hS' => ?_⟩) ?_
  · obtain ⟨z0, z1, z2, z3⟩ := hS'
    go_simp
  simp only [Act.put, List.setIfInBounds_toArray, List.set_cons_zero, List.set_cons_succ]
  refine wpAnyT_take (i := 9) (d := 26) (v := .int .i64 (p : Int)) rfl rfl (by kernel_rfl) (by kernel_rfl) (by kernel_rfl) (by kernel_rfl) (by kernel_rfl) (fun _ _ _ h => h) HS0 (Or.inl ⟨by rfl, fun w' hS' => ?_⟩) ?_
  · obtain ⟨z0, z1, z2, z3⟩ := hS'
    go_simp
  simp only [Act.put, List.setIfInBounds_toArray, List.set_cons_zero, List.set_cons_succ]
  refine wpAnyT_take (i := 10) (d := 27) (v := .pointer (some ⟨gu, 0, none⟩)) rfl rfl (by kernel_rfl) (by kernel_rfl) (by kernel_rfl) (by kernel_rfl) (by kernel_rfl) (fun _ _ _ h => h) HS0 (Or.inl ⟨by rfl, fun w' hS' => ?_⟩) ?_
  · obtain ⟨z0, z1, z2, z3⟩ := hS'
    go_simp
  simp only [Act.put, List.setIfInBounds_toArray, List.set_cons_zero, List.set_cons_succ]
  refine wpAnyT_take (i := 11) (d := 28) (v := .pointer (some ⟨gu, 0, none⟩)) rfl rfl (by kernel_rfl) (by kernel_rfl) (by kernel_rfl) (by kernel_rfl) (by kernel_rfl) (fun _ _ _ h => h) HS0 (Or.inl ⟨by rfl, fun w' hS' => ?_⟩) ?_
  · obtain ⟨z0, z1, z2, z3⟩ := hS'
    go_simp
  simp only [Act.put, List.setIfInBounds_toArray, List.set_cons_zero, List.set_cons_succ]
  refine wpAnyT_take (i := 12) (d := 29) (v := .pointer (some ⟨gu, 2, none⟩)) rfl rfl (by kernel_rfl) (by kernel_rfl) (by kernel_rfl) (by kernel_rfl) (by kernel_rfl) (fun _ _ _ h => h) HS0 (Or.inl ⟨by rfl, fun w' hS' => ?_⟩) ?_
  · obtain ⟨z0, z1, z2, z3⟩ := hS'
    go_simp
  simp only [Act.put, List.setIfInBounds_toArray, List.set_cons_zero, List.set_cons_succ]
  refine wpAnyT_take (i := 13) (d := 30) (v := .pointer (some ⟨gu, 3, none⟩)) rfl rfl (by kernel_rfl) (by kernel_rfl) (by kernel_rfl) (by kernel_rfl) (by kernel_rfl) (fun _ _ _ h => h) HS0 (Or.inl ⟨by rfl, fun w' hS' => ?_⟩) ?_
  · obtain ⟨z0, z1, z2, z3⟩ := hS'
    go_simp
  simp only [Act.put, List.setIfInBounds_toArray, List.set_cons_zero, List.set_cons_succ]
  refine wpAnyT_take (i := 14) (d := 31) (v := .int .i64 (s : Int)) rfl rfl (by kernel_rfl) (by kernel_rfl) (by kernel_rfl) (by kernel_rfl) (by kernel_rfl) (fun _ _ _ h => h) HS0 (Or.inl ⟨by rfl, fun w' hS' => ?_⟩) ?_
  · obtain ⟨z0, z1, z2, z3⟩ := hS'
    go_simp
  simp only [Act.put, List.setIfInBounds_toArray, List.set_cons_zero, List.set_cons_succ]
  refine wpAnyT_take (i := 15) (d := 32) (v := .int .i64 ((s : Int) + 1)) rfl rfl (by kernel_rfl) (by kernel_rfl) (by kernel_rfl) (by kernel_rfl) (by kernel_rfl) (fun _ _ _ h => h) HS0 (Or.inl ⟨by rfl, fun w' hS' => ?_⟩) ?_
  · obtain ⟨z0, z1, z2, z3⟩ := hS'
    go_simp
  simp only [Act.put, List.setIfInBounds_toArray, List.set_cons_zero, List.set_cons_succ]
  refine wpAnyT_take (i := 16) (d := 33) (v := .agg #[.int .i64 (p : Int), .int .i64 ((s : Int) + 1)]) rfl rfl (by kernel_rfl) (by kernel_rfl) (by kernel_rfl) (by kernel_rfl) (by kernel_rfl) (fun _ _ _ h => h) HS0 (Or.inl ⟨by rfl, fun w' hS' => ?_⟩) ?_
  · obtain ⟨z0, z1, z2, z3⟩ := hS'
    go_simp
  simp only [Act.put, List.setIfInBounds_toArray, List.set_cons_zero, List.set_cons_succ]
  have hU0 : UnB (w.alloc (.cells #[.int .i64 (p : Int), .int .i64 ((s : Int) + 1)] 58)).drew gu vo vs p s := (Below.heap_alloc w _ gu hgl).trans HU.out
  have hP0 : OwnSp (w.alloc (.cells #[.int .i64 (p : Int), .int .i64 ((s : Int) + 1)] 58)).drew base vs sp := World.ownsRow.alloc (w := w) HSP.out _
  have hO0 : Own (w.alloc (.cells #[.int .i64 (p : Int), .int .i64 ((s : Int) + 1)] 58)).drew base vo out := World.ownsRow.alloc (w := w) HO.out _
  have hN0 : (w.alloc (.cells #[.int .i64 (p : Int), .int .i64 ((s : Int) + 1)] 58)).drew.heap[w.heap.size]? = some (.cells #[.int .i64 (p : Int), .int .i64 ((s + 1 : Nat) : Int)] 58 (0, 0)) := heap_alloc_new w _
  have hF0 : FrT w (w.alloc (.cells #[.int .i64 (p : Int), .int .i64 ((s : Int) + 1)] 58)).drew := FrT.alloc w _
  have hB0 : Below base w (w.alloc (.cells #[.int .i64 (p : Int), .int .i64 ((s : Int) + 1)] 58)).drew := below_drew1 ((Below.refl _ w).alloc hbw _)
  refine wpAnyT_one (i := 17) (by kernel_rfl) rfl (fun K hK => ?_)
  go_simp
  refine hK.out _ _ (fun _ => ⟨hU0.c0, hU0.c1, hU0.c2, hU0.c3⟩) ?_
  clear hK HS0
  generalize (w.alloc (.cells #[.int .i64 (p : Int), .int .i64 ((s : Int) + 1)] 58)).drew = w1 at *
  refine wpAnyT_one (i := 18) (by kernel_rfl) rfl (fun K hK => ?_)
  refine step_pushSp rfl (.tmp 21) (.tmp 34) rfl base vs sp rfl hP0 p (s + 1) w.heap.size rfl hN0 (by have := HL.out; omega) (Nat.le_trans hbw hB0.size) ?_
  intro g5 c5 w5 hP5 hg5
  have hU5 : UnB w5 gu vo vs p s := (row_ne hP0 hg5 hU0 (by decide)).trans hU0
  have hO5 : Own w5 base vo out := row_move hO0 fun b cs fr hb => row_ne hP0 hg5 hb (by decide)
  have hF5 : FrT w w5 := hF0.trans fun b cs t fr hb h1 h2 h3 => row_ne hP0 hg5 hb h3
  have hB5 : Below base w w5 := hB0.grown hg5 (Nat.le_trans hbw hB0.size) (fun q hq => (World.ownsRow.lt hP0 q hq).1)
  refine hK.out _ _ (fun _ => ⟨hU5.c0, hU5.c1, hU5.c2, hU5.c3⟩) ?_
  clear hK hU0 hP0 hO0 hN0 hF0 hB0 hg5
  try simp only [Act.put, List.setIfInBounds_toArray]
  refine wpAnyT_one (i := 19) (by kernel_rfl) rfl (fun K hK => ?_)
  go_simp
  refine hK.out _ _ (fun _ => ⟨hU5.c0, hU5.c1, hU5.c2, hU5.c3⟩) ?_
  clear hK
  refine wpAnyT_one (i := 20) (by kernel_rfl) rfl (fun K hK => ?_)
  go_simp
  refine hK.out _ _ (fun _ => ⟨hU5.c0, hU5.c1, hU5.c2, hU5.c3⟩) ?_
  clear hK
  have k1 := hU5.c1
  have f1 := hU5.free 1
  refine wpAnyT_one (i := 21) (by kernel_rfl) rfl (fun K hK => ?_)
  go_simp
  refine hK.out _ _ (fun h => last_out h) ?_
  clear hK
  refine wpAnyT_done (by kernel_rfl) ?_ _
  have HF : Hid (EpOut base gu vo out (sp ++ [(p, s + 1)]) p s w (.returned (.tuple #[])) (w5.setCell ⟨gu, 1, none⟩ (.slice (some ⟨g5, 0, none⟩) (sp.length + 1) c5))) := Lib.hid (by
    have hset : UnB (w5.setCell ⟨gu, 1, none⟩ (.slice (some ⟨g5, 0, none⟩) (sp.length + 1) c5)) gu vo (.slice (some ⟨g5, 0, none⟩) (sp.length + 1) c5) p s := heap_setCell_same _ gu 1 _ _ _ hU5
    refine ⟨rfl, ⟨_, hset, ?_, ?_⟩, hF5.trans fun b cs t fr hb h1 h2 h3 => setU_other hU5 hb h1, below_cell hB5 hg⟩
    · exact row_move hP5 fun b cs fr hb => setU_other hU5 hb (by decide)
    · exact row_move hO5 fun b cs fr hb => setU_other hU5 hb (by decide))
  clear hU5 hO5 hF5 hB5 hP5 k1 f1
  go_wp2_with fail
  exact bodyPost_end (results_none Tryd.results51 _ _ _) rfl HF.out
end Go.Proofs.YtofphjfgaihjhaaDoor
