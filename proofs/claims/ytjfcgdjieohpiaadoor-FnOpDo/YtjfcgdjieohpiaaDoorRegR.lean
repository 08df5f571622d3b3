/-
  A region that draws its order, by what each of its slots holds once its operation has come up, whatever came up before. No condition.
-/
import Derived.Test.YtjfcgdjieohpiaaDoorOrdInv
namespace Go.Proofs.YtjfcgdjieohpiaaDoor
set_option maxRecDepth 4000
open Go.RowKit

section
variable {P : Program} {ops : Array Oper} {Q : Exit → Act → World → Prop}
/-- An operation that is wanted: what is asked behind it, by its slot's value. -/
def Yield (P : Program) (Q : Exit → Act → World → Prop) (S : World → Prop) (o : Oper) (a : Act) (w : World) (R : World → Value → Prop) : Prop :=
  ∀ K : Act → World → Prop, (∀ v w', Below w.heap.size w w' → S w' → R w' v → K (a.put o.dst v) w') → o.wp P a w K Q
/-- The region: 'mkA V' is the frame with the slots' values V; S holds of every world on the way; R i of the slot of number i. -/
theorem wp_region_rel (mkA : (Nat → Value) → Act) (D : List Nat) (S : World → Prop) (R : Nat → World → Value → Prop) {id : Nat} {a : Act} {w : World} (hm : P.follows .mixedOrders = true) (hB : backB .any ops = true)
    (hdst : ops.toList.map (·.dst) = D.map some) (hnd : D.Nodup) (h0 : ∃ V, a = mkA V)
    (hput : ∀ V v d, d ∈ D → (mkA V).put (some d) v = mkA (fun k => if k = d then v else V k))
    (hmono : ∀ i w w' v, Below w.heap.size w w' → R i w v → R i w' v) (hS0 : S w.drew)
    (hstep : ∀ i o V w, ops[i]? = some o → S w → (∀ e ∈ o.after, Region.binds .any e = true → R e.on w (V (D.getD e.on 0))) →
      (Region.wanted o (yielded ops (mkA V).tmps) = true → Yield P Q S o (mkA V) w (R i)) ∧ (Region.wanted o (yielded ops (mkA V).tmps) = false → R i w undef))
    (hend : ∀ V w, S w → (∀ i, i < ops.size → R i w (V (D.getD i 0))) → Q .normal (mkA V) w) :
    (Code.region id ops true).wp P Q a w := by
  have hlen : D.length = ops.size := by
    have := congrArg List.length hdst
    simpa using this.symm
  have hdi : ∀ i o, ops[i]? = some o → o.dst = some (D.getD i 0) ∧ D.getD i 0 ∈ D := by
    intro i o ho
    have h1 : (ops.toList.map (·.dst))[i]? = some o.dst := by
      rw [List.getElem?_map, Array.getElem?_toList, ho]
      rfl
    rw [hdst, List.getElem?_map] at h1
    cases hd : D[i]? with
    | none => rw [hd] at h1; cases h1
    | some d =>
      rw [hd] at h1
      simp only [Option.map_some, Option.some.injEq] at h1
      have : D.getD i 0 = d := by rw [List.getD_eq_getElem?_getD, hd]; rfl
      rw [this]
      exact ⟨h1.symm, List.mem_of_getElem? hd⟩
  have hinj : ∀ i j, i < ops.size → j < ops.size → D.getD i 0 = D.getD j 0 → i = j := by
    intro i j hi hj e
    rw [List.getD_eq_getElem?_getD, List.getD_eq_getElem?_getD, List.getElem?_eq_getElem (by omega), List.getElem?_eq_getElem (by omega)] at e
    exact (List.getElem_inj hnd).1 e
  refine wp_region_inv (fun _ listed a w => listed.size = ops.size ∧ ∃ V, a = mkA V ∧ S w ∧ ∀ i, i < ops.size → listed.getD i false = true → R i w (V (D.getD i 0))) hm hB ?_ ?_ ?_
  · obtain ⟨V, rfl⟩ := h0
    refine ⟨by simp, V, rfl, hS0, fun i _ hl => ?_⟩
    rw [Array.getD_eq_getD_getElem?, Array.getElem?_replicate] at hl
    split at hl <;> simp at hl
  · rintro fuel listed a w i o ⟨hsz, V, rfl, hS, hR⟩ ho hlist hd
    have hi : i < ops.size := (Array.getElem?_eq_some_iff.1 ho).1
    have hdep : ∀ e ∈ o.after, Region.binds .any e = true → R e.on w (V (D.getD e.on 0)) := fun e he hb => by
      have hlt := backB_spec hB ho e he hb
      exact hR e.on (by omega) (hd e he hb)
    obtain ⟨h1, h2⟩ := hstep i o V w ho hS hdep
    obtain ⟨hdo, hmem⟩ := hdi i o ho
    have next : ∀ v w', Below w.heap.size w w' → S w' → R i w' v → (listed.setIfInBounds i true).size = ops.size ∧ ∃ V', (mkA V).put o.dst v = mkA V' ∧ S w' ∧ ∀ j, j < ops.size → (listed.setIfInBounds i true).getD j false = true → R j w' (V' (D.getD j 0)) := by
      intro v w' hb hS' hr
      refine ⟨by simpa using hsz, fun k => if k = D.getD i 0 then v else V k, by rw [hdo]; exact hput V v _ hmem, hS', fun j hj hl => ?_⟩
      by_cases hji : j = i
      · subst hji
        simpa using hr
      · have hne : D.getD j 0 ≠ D.getD i 0 := fun e => hji (hinj j i hj hi e)
        simp only [hne, if_false]
        refine hmono j w w' _ hb (hR j hj ?_)
        have : (listed.setIfInBounds i true).getD j false = listed.getD j false := by
          simp only [Array.getD_eq_getD_getElem?, Array.getElem?_setIfInBounds]
          rw [if_neg (fun e => hji e.symm)]
        rw [this] at hl
        exact hl
    unfold wpOp
    rw [ho]
    dsimp only
    split
    · rename_i hw
      exact .inl (h1 hw _ fun v w' hb hS' hr => next v w' hb hS' hr)
    · rename_i hw
      have hw' : Region.wanted o (yielded ops (mkA V).tmps) = false := by simpa using hw
      exact next undef w (Below.refl _ w) hS (h2 hw')
  · rintro fuel listed a w ⟨hsz, V, rfl, hS, hR⟩ hall
    refine hend V w hS fun i hi => hR i hi ?_
    have := hall i hi
    rw [Array.getD_eq_getD_getElem?] at this ⊢
    rw [Array.getElem?_eq_getElem (by omega)] at this ⊢
    exact this
end
end Go.Proofs.YtjfcgdjieohpiaaDoor
