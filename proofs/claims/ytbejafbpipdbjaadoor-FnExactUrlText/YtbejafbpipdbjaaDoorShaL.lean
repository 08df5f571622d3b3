/-
  What the two tables of the sums hold where they read as the program's text lays them. No condition.
-/
import Derived.Test.YtbejafbpipdbjaaDoorUrlL
import Derived.Test.YtbejafbpipdbjaaDoorShaB
namespace Go.Proofs.YtbejafbpipdbjaaDoor
set_option maxRecDepth 4000
open Go.ChangeShapes Go.WideShapes Go.ChangeAt Go.WideElems Go.RowKit

theorem gFirst : Tryd.prog.globalNamed "loop.example/easel/impl.shaFirst" = some 3 := by kernel_rfl
theorem gRounds : Tryd.prog.globalNamed "loop.example/easel/impl.shaRounds" = some 7 := by kernel_rfl
theorem tFirst : (Tryd.prog.globals[3]?).map (·.type) = some 174 := by kernel_rfl
theorem tRounds : (Tryd.prog.globals[7]?).map (·.type) = some 185 := by kernel_rfl
theorem cWord : Tryd.prog.cellsOf 158 = 1 := by kernel_rfl

theorem cells_of_ints {H : Type} {enc : TypeId × Value → H} {W : World} {base fuel n : Nat} {spare : Nat → Bool} {held : Bool} {t : TypeId} {cs : List Value} {ns : List Nat} {d : DataW H} {p : List MemPlace} (ht : Tryd.prog.underlying t = some (.array n 158))
    (h : DataW.trod enc Tryd.prog W base spare held fuel t cs = some (d, p)) (hd : d = .agg (ns.map fun x : Nat => .lit (.int .u32 (x : Int)))) : ∀ (i : Nat) (x : Nat), ns[i]? = some x → cs[i]? = some (.int .u32 (x : Int)) := by
  subst hd
  intro i x hi
  obtain ⟨xs, m, rfl, hx, _, hn, hel⟩ := DataW.trod_array ht h
  simp only [Prod.mk.injEq, DataW.agg.injEq] at hx
  have hlen : ns.length = xs.length := by have := congrArg List.length hx.1; simpa using this
  have hin : i < n := by have := (List.getElem?_eq_some_iff.1 hi).1; omega
  have h0 := hel i hin
  rw [cWord, Nat.mul_one, List.getElem?_eq_getElem (by omega)] at h0
  obtain ⟨k, e1, e2, _⟩ := DataW.trod_int Tryd.underlying158 h0
  have h1 : (ns.map fun x : Nat => DataW.lit (H := H) (.int .u32 (x : Int)))[i]? = (xs.map (·.1))[i]? := by rw [hx.1]
  rw [List.getElem?_map, List.getElem?_map, hi, List.getElem?_eq_getElem (by omega), e2] at h1
  simp only [Option.map_some, Option.some.injEq, DataW.lit.injEq, Lit.int.injEq, true_and] at h1
  have h2 : ((cs.drop i).take 1)[0]? = some (.int .u32 k) := by rw [e1]; rfl
  rw [List.getElem?_take_of_lt (by omega), List.getElem?_drop, Nat.add_zero] at h2
  rw [h2, ← h1]

theorem sha_of {W : World} {L : List (String × DataW Unit)} {ps : List MemPlace} (h : DataW.LaidVars Tryd.prog W L ps) (hm0 : ("loop.example/easel/impl.shaFirst", Rows.laid_loop_example_easel_impl_shaFirst) ∈ L) (hm1 : ("loop.example/easel/impl.shaRounds", Rows.laid_loop_example_easel_impl_shaRounds) ∈ L) : Tabs W := by
  obtain ⟨g0, t0, cs0, f0, p0, hg0, ht0, hv0, hd0⟩ := laidVars_at h hm0
  obtain ⟨g1, t1, cs1, f1, p1, hg1, ht1, hv1, hd1⟩ := laidVars_at h hm1
  obtain rfl := Option.some.inj (gFirst.symm.trans hg0)
  obtain rfl := Option.some.inj (gRounds.symm.trans hg1)
  obtain rfl := Option.some.inj (tFirst.symm.trans ht0)
  obtain rfl := Option.some.inj (tRounds.symm.trans ht1)
  have a0 := cells_of_ints (ns := first8.list) Tryd.underlying174 hd0 rfl
  have a1 := cells_of_ints (ns := round64) Tryd.underlying185 hd1 rfl
  have b1 : W.rangeAt 7 0 (round64.map (kv .u32)) := fun j v hv => by
    rw [List.getElem?_map, Option.map_eq_some_iff] at hv
    obtain ⟨x, hx, rfl⟩ := hv
    rw [Nat.zero_add, World.var?_cell hg1 hv1 j, ← Array.getElem?_toList]
    exact a1 j x hx
  refine ⟨fun j v hv => ?_, b1, ?_⟩
  · rw [List.getElem?_map, Option.map_eq_some_iff] at hv
    obtain ⟨x, hx, rfl⟩ := hv
    rw [Nat.zero_add, World.var?_cell hg0 hv0 j, ← Array.getElem?_toList]
    exact a0 j x hx
  · have := b1 0 _ rfl
    cases hh : W.heap[7]? with
    | none => simp [World.cell?, hh] at this
    | some o => exact (Array.getElem?_eq_some_iff.1 hh).1

end Go.Proofs.YtbejafbpipdbjaaDoor
