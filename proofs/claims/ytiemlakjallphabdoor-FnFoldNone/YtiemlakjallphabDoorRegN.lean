/-
  A region that draws its order, by what each of its slots holds once its operation has come up, whatever came up before; the frame as a function of its slots. No condition.
-/
import Derived.Test.YtiemlakjallphabDoorOrdInv
import Derived.Test.YtiemlakjallphabDoorEaRas
import Derived.Test.YtiemlakjallphabDoorOpO
import Derived.Test.YtiemlakjallphabDoorCloP
namespace Go.Proofs.YtiemlakjallphabDoor
set_option maxRecDepth 4000
open Go.RowKit

section
variable {P : Program} {ops : Array Oper} {Q : Exit → Act → World → Prop}
/-- An operation that is wanted: what is asked behind it, by its slot's value. -/
def Yield (P : Program) (Q : Exit → Act → World → Prop) (S : World → Prop) (o : Oper) (a : Act) (w : World) (R : World → Value → Prop) : Prop :=
  ∀ K : Act → World → Prop, (∀ v w', Below w.heap.size w w' → S w' → R w' v → K (a.put o.dst v) w') → o.wp P a w K Q
/-- The region: 'mkA V' is the frame with the slots' values V; S holds of every world on the way; R i of the slot of number i. -/
theorem wp_region_rel (mkA : (Nat → Value) → Act) (D : List Nat) (S : World → Prop) (R : Nat → World → Value → Prop) {id : Nat} {a : Act} {w : World} (hm : P.follows .mixedOrders = true) (hB : backB .any ops = true)
    (hdst : ops.toList.map (·.dst) = D.map some) (hnd : D.Nodup) (h0 : ∃ V, a = mkA V)
    (hput : ∀ V v d, d ∈ D → (mkA V).put (some d) v = mkA (fun k => if k = d then v else V k))
    (hmono : ∀ i w w' v, Below w.heap.size w w' → R i w v → R i w' v) (hS0 : S w.drew)
    (hstep : ∀ i o V w, ops[i]? = some o → S w → (∀ e ∈ o.after, Region.binds .any e = true → R e.on w (V (D.getD e.on 0))) →
      (Region.wanted o (yielded ops (mkA V).tmps) = true → Yield P Q S o (mkA V) w (R i)) ∧ (Region.wanted o (yielded ops (mkA V).tmps) = false → R i w undef))
    (hend : ∀ V w, S w → (∀ i, i < ops.size → R i w (V (D.getD i 0))) → Q .normal (mkA V) w) :
    (Code.region id ops true).wp P Q a w := by
  have hlen : D.length = ops.size := by
    have := congrArg List.length hdst
    simpa using this.symm
  have hdi : ∀ i o, ops[i]? = some o → o.dst = some (D.getD i 0) ∧ D.getD i 0 ∈ D := by
    intro i o ho
    have h1 : (ops.toList.map (·.dst))[i]? = some o.dst := by
      rw [List.getElem?_map, Array.getElem?_toList, ho]
      rfl
    rw [hdst, List.getElem?_map] at h1
    cases hd : D[i]? with
    | none => rw [hd] at h1; cases h1
    | some d =>
      rw [hd] at h1
      simp only [Option.map_some, Option.some.injEq] at h1
      have : D.getD i 0 = d := by rw [List.getD_eq_getElem?_getD, hd]; rfl
      rw [this]
      exact ⟨h1.symm, List.mem_of_getElem? hd⟩
  have hinj : ∀ i j, i < ops.size → j < ops.size → D.getD i 0 = D.getD j 0 → i = j := by
    intro i j hi hj e
    rw [List.getD_eq_getElem?_getD, List.getD_eq_getElem?_getD, List.getElem?_eq_getElem (by omega), List.getElem?_eq_getElem (by omega)] at e
    exact (List.getElem_inj hnd).1 e
  refine wp_region_inv (fun _ listed a w => listed.size = ops.size ∧ ∃ V, a = mkA V ∧ S w ∧ ∀ i, i < ops.size → listed.getD i false = true → R i w (V (D.getD i 0))) hm hB ?_ ?_ ?_
  · obtain ⟨V, rfl⟩ := h0
    refine ⟨by simp, V, rfl, hS0, fun i _ hl => ?_⟩
    rw [Array.getD_eq_getD_getElem?, Array.getElem?_replicate] at hl
    split at hl <;> simp at hl
  · rintro fuel listed a w i o ⟨hsz, V, rfl, hS, hR⟩ ho hlist hd
    have hi : i < ops.size := (Array.getElem?_eq_some_iff.1 ho).1
    have hdep : ∀ e ∈ o.after, Region.binds .any e = true → R e.on w (V (D.getD e.on 0)) := fun e he hb => by
      have hlt := backB_spec hB ho e he hb
      exact hR e.on (by omega) (hd e he hb)
    obtain ⟨h1, h2⟩ := hstep i o V w ho hS hdep
    obtain ⟨hdo, hmem⟩ := hdi i o ho
    have next : ∀ v w', Below w.heap.size w w' → S w' → R i w' v → (listed.setIfInBounds i true).size = ops.size ∧ ∃ V', (mkA V).put o.dst v = mkA V' ∧ S w' ∧ ∀ j, j < ops.size → (listed.setIfInBounds i true).getD j false = true → R j w' (V' (D.getD j 0)) := by
      intro v w' hb hS' hr
      refine ⟨by simpa using hsz, fun k => if k = D.getD i 0 then v else V k, by rw [hdo]; exact hput V v _ hmem, hS', fun j hj hl => ?_⟩
      by_cases hji : j = i
      · subst hji
        simpa using hr
      · have hne : D.getD j 0 ≠ D.getD i 0 := fun e => hji (hinj j i hj hi e)
        simp only [hne, if_false]
        refine hmono j w w' _ hb (hR j hj ?_)
        have : (listed.setIfInBounds i true).getD j false = listed.getD j false := by
          simp only [Array.getD_eq_getD_getElem?, Array.getElem?_setIfInBounds]
          rw [if_neg (fun e => hji e.symm)]
        rw [this] at hl
        exact hl
    unfold wpOp
    rw [ho]
    dsimp only
    split
    · rename_i hw
      exact .inl (h1 hw _ fun v w' hb hS' hr => next v w' hb hS' hr)
    · rename_i hw
      have hw' : Region.wanted o (yielded ops (mkA V).tmps) = false := by simpa using hw
      exact next undef w (Below.refl _ w) hS (h2 hw')
  · rintro fuel listed a w ⟨hsz, V, rfl, hS, hR⟩ hall
    refine hend V w hS fun i hi => hR i hi ?_
    have := hall i hi
    rw [Array.getD_eq_getD_getElem?] at this ⊢
    rw [Array.getElem?_eq_getElem (by omega)] at this ⊢
    exact this
end
end Go.Proofs.YtiemlakjallphabDoor
namespace Go.Proofs.YtiemlakjallphabDoor
set_option maxRecDepth 4000
open Go.RowKit

/-- A frame of n slots. -/
def frame (n : Nat) (V : Nat → Value) : Act := { tmps := ((List.range n).map V).toArray, defers := [] }
theorem frame_size (n : Nat) (V : Nat → Value) : (frame n V).tmps.size = n := by simp [frame]
theorem frame_get {n k : Nat} (V : Nat → Value) (h : k < n) : (frame n V).tmps[k]? = some (V k) := by simp [frame, h]
theorem frame_eval {n k : Nat} (V : Nat → Value) (h : k < n) : (frame n V).eval (.tmp k) = V k := by
  show (frame n V).tmps.getD k undef = V k
  rw [Array.getD_eq_getD_getElem?, frame_get V h]
  rfl
theorem frame_put {n d : Nat} (V : Nat → Value) (v : Value) (h : d < n) : (frame n V).put (some d) v = frame n (fun k => if k = d then v else V k) := by
  unfold Act.put frame
  simp only [Act.mk.injEq, and_true]
  apply Array.ext_getElem?
  intro i
  rw [Array.getElem?_setIfInBounds]
  by_cases hi : i < n
  · by_cases hd : d = i
    · subst hd
      simp [hi]
    · simp [hi, hd, Ne.symm hd]
  · simp [hi]
    omega
theorem frame_of (a : Act) (hd : a.defers = []) {n : Nat} (hn : a.tmps.size = n) : a = frame n (fun k => a.tmps.getD k undef) := by
  obtain ⟨t, d⟩ := a
  subst hd hn
  unfold frame
  congr 1
  apply Array.ext_getElem?
  intro i
  by_cases hi : i < t.size
  · simp [hi]
  · simp [hi]

theorem frame_puts {n : Nat} (V : Nat → Value) : ∀ (D : List Nat) (U : Nat → Value), (D.all fun d => decide (d < n)) = true → D.foldl (fun b d => b.put (some d) (V d)) (frame n U) = frame n (fun k => if k ∈ D then V k else U k)
  | [], U, _ => by simp
  | d :: D, U, h => by
    simp only [List.all_cons, Bool.and_eq_true, decide_eq_true_eq] at h
    rw [List.foldl_cons, frame_put U (V d) h.1, frame_puts V D _ h.2]
    congr 1
    funext k
    by_cases hk : k ∈ D
    · simp [hk]
    · by_cases hkd : k = d
      · subst hkd
        simp
      · simp [hk, hkd]
/-- The frame behind a region: what stood ahead of it, and the slots that it wrote. -/
theorem frame_all {n : Nat} {D : List Nat} {V : Nat → Value} {a : Act} (hdef : a.defers = []) (hn : a.tmps.size = n) (hlt : (D.all fun d => decide (d < n)) = true) (hV : ∀ k, k ∉ D → V k = a.tmps.getD k undef) : frame n V = D.foldl (fun b d => b.put (some d) (V d)) a := by
  conv => rhs; rw [frame_of a hdef hn]
  rw [frame_puts V D _ hlt]
  congr 1
  funext k
  by_cases hk : k ∈ D
  · simp [hk]
  · simp [hk, hV k hk]

/-- What a slot holds: a known value · a raster · a slice of operations · a value with a property that stays. -/
inductive Kd
  | is (v : Value)
  | ras (r : Ra)
  | ops (l : List Op)
/-- The value is a raster that can be read. -/
def IsRa (r : Ra) (w : World) (v : Value) : Prop := ∃ A c, v = raV r A c ∧ r.p.length ≤ c ∧ HasP w w.heap.size A r.p
/-- The value is a slice of operations that can be read. -/
def IsOps (l : List Op) (w : World) (v : Value) : Prop := ∃ A c, v = .slice A l.length c ∧ l.length ≤ c ∧ opE.Has w w.heap.size A l
def Kd.holds : Kd → World → Value → Prop
  | .is x, _, v => v = x
  | .ras r, w, v => IsRa r w v
  | .ops l, w, v => IsOps l w v
theorem IsRa.mono {r : Ra} {w w' : World} {v : Value} (hb : Below w.heap.size w w') (h : IsRa r w v) : IsRa r w' v := by
  obtain ⟨A, c, e, hc, hh⟩ := h
  exact ⟨A, c, e, hc, hh.carry hb (Nat.le_refl _) hb.size⟩
theorem IsOps.mono {l : List Op} {w w' : World} {v : Value} (hb : Below w.heap.size w w') (h : IsOps l w v) : IsOps l w' v := by
  obtain ⟨A, c, e, hc, hh⟩ := h
  exact ⟨A, c, e, hc, hh.carry hb (Nat.le_refl _) hb.size⟩
theorem Kd.mono {k : Kd} {w w' : World} {v : Value} (hb : Below w.heap.size w w') (h : k.holds w v) : k.holds w' v := by
  cases k with
  | is x => exact h
  | ras r => exact IsRa.mono hb h
  | ops l => exact IsOps.mono hb h

section
variable {P : Program} {ops : Array Oper} {Q : Exit → Act → World → Prop}
/-- The kind of number i of a table. -/
def kdAt (T : List (Nat × Kd)) (i : Nat) : Kd := (T.getD i (0, .is undef)).2
def slotAt (T : List (Nat × Kd)) (i : Nat) : Nat := (T.getD i (0, .is undef)).1
/-- The region, by a table of slots and what they hold. S holds of every world on the way. -/
theorem wp_region_kd (n : Nat) (D : List Nat) (T : List (Nat × Kd)) (S : World → Prop) {id : Nat} {a : Act} {w : World} (hm : P.follows .mixedOrders = true) (hB : backB .any ops = true)
    (hD : T.map (·.1) = D) (hdst0 : ops.toList.map (·.dst) = D.map some) (hnd : D.Nodup) (hlt0 : (D.all fun d => decide (d < n)) = true) (hdef : a.defers = []) (hn : a.tmps.size = n) (hS0 : S w.drew)
    (hstep : ∀ i o V w, ops[i]? = some o → S w → (∀ k, k ∉ D → V k = a.tmps.getD k undef) → (∀ e ∈ o.after, Region.binds .any e = true → (kdAt T e.on).holds w (V (slotAt T e.on))) →
      (Region.wanted o (yielded ops (frame n V).tmps) = true → Yield P Q S o (frame n V) w (kdAt T i).holds) ∧ (Region.wanted o (yielded ops (frame n V).tmps) = false → (kdAt T i).holds w undef))
    (hend : ∀ V w, S w → (∀ k, k ∉ D → V k = a.tmps.getD k undef) → (∀ i, i < ops.size → (kdAt T i).holds w (V (slotAt T i))) → Q .normal (frame n V) w) :
    (Code.region id ops true).wp P Q a w := by
  subst hD
  have hdst : ops.toList.map (·.dst) = T.map fun p => some p.1 := by rw [hdst0, List.map_map]; rfl
  have hlt : (T.all fun p => decide (p.1 < n)) = true := by rw [List.all_map] at hlt0; exact hlt0
  have hlen : T.length = ops.size := by
    have := congrArg List.length hdst
    simpa using this.symm
  have hltn : ∀ i, i < ops.size → slotAt T i < n ∧ slotAt T i ∈ T.map (·.1) := by
    intro i hi
    have e : T.getD i (0, .is undef) = T[i]'(by omega) := by rw [List.getD_eq_getElem?_getD, List.getElem?_eq_getElem (by omega)]; rfl
    unfold slotAt
    rw [e]
    exact ⟨of_decide_eq_true (List.all_eq_true.1 hlt _ (List.getElem_mem (by omega))), List.mem_map.2 ⟨_, List.getElem_mem (by omega), rfl⟩⟩
  have hdi : ∀ i o, ops[i]? = some o → o.dst = some (slotAt T i) := by
    intro i o ho
    have hi : i < ops.size := (Array.getElem?_eq_some_iff.1 ho).1
    have h1 : (ops.toList.map (·.dst))[i]? = some o.dst := by
      rw [List.getElem?_map, Array.getElem?_toList, ho]
      rfl
    rw [hdst, List.getElem?_map, List.getElem?_eq_getElem (by omega)] at h1
    simp only [Option.map_some, Option.some.injEq] at h1
    unfold slotAt
    rw [List.getD_eq_getElem?_getD, List.getElem?_eq_getElem (by omega), ← h1]
    rfl
  have hinj : ∀ i j, i < ops.size → j < ops.size → slotAt T i = slotAt T j → i = j := by
    intro i j hi hj e
    unfold slotAt at e
    rw [List.getD_eq_getElem?_getD, List.getD_eq_getElem?_getD, List.getElem?_eq_getElem (by omega), List.getElem?_eq_getElem (by omega)] at e
    simp only [Option.getD_some] at e
    have e2 : (T.map (·.1))[i]'(by simpa using (by omega : i < T.length)) = (T.map (·.1))[j]'(by simpa using (by omega : j < T.length)) := by simpa using e
    exact (List.getElem_inj hnd).1 e2
  refine wp_region_inv (fun _ listed a' w => listed.size = ops.size ∧ ∃ V, a' = frame n V ∧ S w ∧ (∀ k, k ∉ T.map (·.1) → V k = a.tmps.getD k undef) ∧ ∀ i, i < ops.size → listed.getD i false = true → (kdAt T i).holds w (V (slotAt T i))) hm hB ?_ ?_ ?_
  · refine ⟨by simp, _, frame_of a hdef hn, hS0, fun _ _ => rfl, fun i _ hl => ?_⟩
    rw [Array.getD_eq_getD_getElem?, Array.getElem?_replicate] at hl
    split at hl <;> simp at hl
  · rintro fuel listed a' w i o ⟨hsz, V, rfl, hS, hV, hR⟩ ho hlist hd
    have hi : i < ops.size := (Array.getElem?_eq_some_iff.1 ho).1
    have hdep : ∀ e ∈ o.after, Region.binds .any e = true → (kdAt T e.on).holds w (V (slotAt T e.on)) := fun e he hb => by
      have hlt := backB_spec hB ho e he hb
      exact hR e.on (by omega) (hd e he hb)
    obtain ⟨h1, h2⟩ := hstep i o V w ho hS hV hdep
    have hdo := hdi i o ho
    obtain ⟨hin, hmem⟩ := hltn i hi
    have next : ∀ v w', Below w.heap.size w w' → S w' → (kdAt T i).holds w' v → (listed.setIfInBounds i true).size = ops.size ∧ ∃ V', (frame n V).put o.dst v = frame n V' ∧ S w' ∧ (∀ k, k ∉ T.map (·.1) → V' k = a.tmps.getD k undef) ∧ ∀ j, j < ops.size → (listed.setIfInBounds i true).getD j false = true → (kdAt T j).holds w' (V' (slotAt T j)) := by
      intro v w' hb hS' hr
      refine ⟨by simpa using hsz, fun k => if k = slotAt T i then v else V k, by rw [hdo]; exact frame_put V v hin, hS', fun k hk => ?_, fun j hj hl => ?_⟩
      · have : k ≠ slotAt T i := fun e => hk (e ▸ hmem)
        simp only [this, if_false]
        exact hV k hk
      · by_cases hji : j = i
        · subst hji
          simpa using hr
        · have hne : slotAt T j ≠ slotAt T i := fun e => hji (hinj j i hj hi e)
          simp only [hne, if_false]
          refine Kd.mono hb (hR j hj ?_)
          have : (listed.setIfInBounds i true).getD j false = listed.getD j false := by
            simp only [Array.getD_eq_getD_getElem?, Array.getElem?_setIfInBounds]
            rw [if_neg (fun e => hji e.symm)]
          rw [this] at hl
          exact hl
    unfold wpOp
    rw [ho]
    dsimp only
    split
    · rename_i hw
      exact .inl (h1 hw _ fun v w' hb hS' hr => next v w' hb hS' hr)
    · rename_i hw
      have hw' : Region.wanted o (yielded ops (frame n V).tmps) = false := by simpa using hw
      exact next undef w (Below.refl _ w) hS (h2 hw')
  · rintro fuel listed a' w ⟨hsz, V, rfl, hS, hV, hR⟩ hall
    refine hend V w hS hV fun i hi => hR i hi ?_
    have := hall i hi
    rw [Array.getD_eq_getD_getElem?] at this ⊢
    rw [Array.getElem?_eq_getElem (by omega)] at this ⊢
    exact this
end

section
variable {P : Program} {Q : Exit → Act → World → Prop} {S : World → Prop} {o : Oper} {a : Act} {w w' : World} {R : World → Value → Prop} {v : Value}
theorem Yield.run (h : (execOp a.eval o).run P w = .ok (.value v) w') (hb : Below w.heap.size w w') (hS : S w') (hR : R w' v) : Yield P Q S o a w R := by
  intro K hK
  unfold Oper.wp
  rw [h, Oper.upon_value]
  exact hK v w' hb hS hR
theorem Yield.copy {x : Operand} (ho : o.op = .move x ∨ o.op = .assign x) (hx : a.eval x = v) (hS : S w) (hR : R w v) : Yield P Q S o a w R := by
  refine Yield.run (w' := w) ?_ (Below.refl _ _) hS hR
  rcases ho with ho | ho <;> (unfold execOp; rw [ho, ← hx]; rfl)
theorem Yield.row {p : Operand} {g : Nat} {t ty : TypeId} {cs : Array Value} {fr : Nat × Nat} {d : TypeDesc} (ho : o.op = .load ty p) (hp : a.eval p = .pointer (some ⟨g, 0, none⟩)) (hg : w.heap[g]? = some (.cells cs t fr)) (hu : P.underlying ty = some d)
    (hd : (match d with | .struct _ | .array _ _ => true | _ => false) = true) (hi : (P.info? ty).map (·.size) = some cs.size) (hS : S w) (hR : R w (.agg cs)) : Yield P Q S o a w R := by
  refine Yield.run (v := .agg cs) (w' := w) ?_ (Below.refl _ _) hS hR
  unfold execOp
  rw [ho]
  simp [hp, Instr.loadAt, Instr.sureAddr, Result.andThen, run_loadVar_row w g t ty cs fr d hg hu hd hi]
theorem Yield.call {f : Operand} {F : FuncId} {gs : Array Operand} {ts : Array TypeId} {fn : Func} {c : Code} {args : Array Value} {post : Ending → World → Prop}
    (ho : o.op = .call { callee := .value f, args := gs, argTypes := ts }) (hf0 : a.eval f = .func (.func F) #[] #[]) (hf : P.funcs[F]? = some fn) (hname : (fn.name == "runtime.NumGoroutine") = false) (hb : fn.body = some c)
    (hargs : gs.map a.eval = args) (C : Calls P F args w post) (h : ∀ e w', post e w' → ∃ v, e = .returned v ∧ Below w.heap.size w w' ∧ S w' ∧ R w' v) : Yield P Q S o a w R := by
  intro K hK
  have h1 : (execOp a.eval o).run P w = .ok (.enter F args) w := by
    unfold execOp
    rw [ho]
    simp [resolve, Deferred.ofValue, hf0, hargs, invoke, callFunc, hf, hb]
    simpa using hname
  unfold Oper.wp
  rw [h1, Oper.upon_enter]
  refine C.mono ?_
  intro e w' hp
  obtain ⟨v, rfl, hb, hs, hr⟩ := h e w' hp
  exact hK v w' hb hs hr
end
end Go.Proofs.YtiemlakjallphabDoor
