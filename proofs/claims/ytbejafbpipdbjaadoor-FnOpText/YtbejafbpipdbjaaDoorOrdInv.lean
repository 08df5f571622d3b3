/-
  A region that draws its order, by an invariant: what each operation that may come up keeps, whatever came before it, holds when all have come up. No condition.
-/
import Derived.Test.YtbejafbpipdbjaaDoorBase
import Derived.Orders
import Derived.RegionTactic
namespace Go.Proofs.YtbejafbpipdbjaaDoor
set_option maxRecDepth 4000
open Go.RowKit

section
variable {P : Program} {ops : Array Oper} {Q : Exit → Act → World → Prop} {md : Region.Mode}

/-- Each operation waits for earlier ones alone. -/
def backB (md : Region.Mode) (ops : Array Oper) : Bool := (List.range ops.size).all fun i => ((ops[i]?).map fun o => o.after.all fun e => !Region.binds md e || decide (e.on < i)).getD true
theorem backB_spec (h : backB md ops = true) {i : Nat} {o : Oper} (ho : ops[i]? = some o) : ∀ e ∈ o.after, Region.binds md e = true → e.on < i := by
  intro e he hb
  unfold backB at h
  rw [List.all_eq_true] at h
  have hi : i < ops.size := (Array.getElem?_eq_some_iff.1 ho).1
  have := h i (List.mem_range.2 hi)
  rw [ho] at this
  simp only [Option.map_some, Option.getD_some] at this
  rw [Array.all_eq_true_iff_forall_mem] at this
  have h2 := this e he
  rw [hb] at h2
  simpa using h2
theorem all_listed (hB : backB md ops = true) {listed : Array Bool} (hs : listed.size = ops.size) (hr : Region.ready md ops listed = []) : ∀ i, i < ops.size → listed.getD i true = true := by
  intro i
  induction i using Nat.strongRecOn with
  | _ i ih =>
    intro hi
    cases hl : listed.getD i true with
    | true => rfl
    | false =>
      have ho : ops[i]? = some ops[i] := Array.getElem?_eq_getElem hi
      have : i ∈ Region.ready md ops listed := mem_ready.2 ⟨hl, _, ho, fun e he hb => by
        have hlt := backB_spec hB ho e he hb
        have h1 := ih e.on hlt (by omega)
        have hin : e.on < listed.size := by omega
        simp [hin] at h1 ⊢
        exact h1⟩
      rw [hr] at this
      cases this
theorem count_set {l : List Bool} {i : Nat} (h : l[i]? = some false) : (l.set i true).count false + 1 = l.count false := by
  induction l generalizing i with
  | nil => simp at h
  | cons b t ih =>
    cases i with
    | zero => simp at h; subst h; simp
    | succ i =>
      have := ih (by simpa using h)
      simp only [List.set_cons_succ, List.count_cons]
      omega
theorem wpAny_inv (I : Nat → Array Bool → Act → World → Prop) (hB : backB md ops = true)
    (hstep : ∀ fuel listed a w i o, I (fuel + 1) listed a w → ops[i]? = some o → listed.getD i true = false → (∀ e ∈ o.after, Region.binds md e = true → listed.getD e.on false = true) → wpOp P ops Q i (fun a' w' => I fuel (listed.setIfInBounds i true) a' w') a w)
    (hend : ∀ fuel listed a w, I fuel listed a w → (∀ i, i < ops.size → listed.getD i true = true) → Q .normal a w) :
    ∀ fuel listed a w, listed.size = ops.size → listed.toList.count false ≤ fuel → I fuel listed a w → wpAny P md ops Q fuel listed a w := by
  intro fuel
  induction fuel with
  | zero =>
    intro listed a w hs hc hI
    have hall : ∀ i, i < ops.size → listed.getD i true = true := by
      intro i hi
      cases hl : listed.getD i true with
      | true => rfl
      | false =>
        have hin : i < listed.size := by omega
        simp [hin] at hl
        have : false ∈ listed.toList := by
          rw [← hl]
          simp
        have := List.count_pos_iff.2 this
        omega
    refine ⟨?_, hend 0 listed a w hI hall⟩
    cases hr : Region.ready md ops listed with
    | nil => rfl
    | cons i rs =>
      have hm : i ∈ Region.ready md ops listed := by rw [hr]; simp
      obtain ⟨h1, o, ho, _⟩ := mem_ready.1 hm
      rw [hall i (Array.getElem?_eq_some_iff.1 ho).1] at h1
      cases h1
  | succ fuel ih =>
    intro listed a w hs hc hI
    refine ⟨fun hr => hend _ listed a w hI (all_listed hB hs hr), fun i hi => ?_⟩
    obtain ⟨h1, o, ho, h2⟩ := mem_ready.1 hi
    refine wpOp_mono (fun a' w' h' => ih _ a' w' (by simpa using hs) ?_ h') (hstep fuel listed a w i o hI ho h1 h2)
    have hin : i < listed.size := by rw [hs]; exact (Array.getElem?_eq_some_iff.1 ho).1
    simp [hin] at h1
    have hg : listed.toList[i]? = some false := by rw [Array.getElem?_toList, Array.getElem?_eq_getElem hin, h1]
    have := count_set hg
    rw [Array.toList_setIfInBounds]
    omega
/-- The region, by its invariant. -/
theorem wp_region_inv (I : Nat → Array Bool → Act → World → Prop) {id : Nat} {a : Act} {w : World} (hm : P.follows .mixedOrders = true) (hB : backB .any ops = true) (h0 : I ops.size (Array.replicate ops.size false) a w.drew)
    (hstep : ∀ fuel listed a w i o, I (fuel + 1) listed a w → ops[i]? = some o → listed.getD i true = false → (∀ e ∈ o.after, Region.binds .any e = true → listed.getD e.on false = true) → wpOp P ops Q i (fun a' w' => I fuel (listed.setIfInBounds i true) a' w') a w)
    (hend : ∀ fuel listed a w, I fuel listed a w → (∀ i, i < ops.size → listed.getD i true = true) → Q .normal a w) : (Code.region id ops true).wp P Q a w :=
  wp_region_any hm (wpAny_inv I hB hstep hend _ _ _ _ (by simp) (by simp) h0)
end
end Go.Proofs.YtbejafbpipdbjaaDoor
