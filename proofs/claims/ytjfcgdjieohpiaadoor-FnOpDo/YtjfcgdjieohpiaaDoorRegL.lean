/-
  Steps of a law's return that draws its order: rasters and operations loaded, lists of operations built, operations done, rasters compared. Conditions as they stand.
-/
import Derived.Test.YtjfcgdjieohpiaaDoorRegF
import Derived.Test.YtjfcgdjieohpiaaDoorEaDo
import Derived.Test.YtjfcgdjieohpiaaDoorEaOk
import Derived.Test.YtjfcgdjieohpiaaDoorRasI
namespace Go.Proofs.YtjfcgdjieohpiaaDoor
set_option maxRecDepth 4000
open Go.RowKit

theorem wanted_of {ops : Array Oper} {o : Oper} {n j d : Nat} {b : Bool} {V : Nat → Value} (hg : o.guard = some (j, b)) (hj : (ops[j]?).bind (·.dst) = some d) (hd : d < n) (hV : V d = .bool b) : Region.wanted o (yielded ops (frame n V).tmps) = true := by
  unfold Region.wanted yielded
  rw [hg]
  simp [hj, frame_get V hd, hV]
theorem El.Has.laid {α : Type} (E : El α) (w : World) (l : List α) (t : TypeId) : E.Has (w.alloc (.cells (E.flat l).toArray t)) (w.heap.size + 1) (some ⟨w.heap.size, 0, none⟩) l := by
  refine .inr ⟨_, _, rfl, by omega, fun i x hx k u hu => ?_⟩
  rw [Nat.zero_add]
  exact Box.cell (Box.new w _ t) (by simpa using E.flat_at hx hu)
section
variable {Q : Exit → Act → World → Prop} {o : Oper} {a : Act} {w wb : World}
/-- A raster in a box that was there when the region began. -/
theorem yield_ras {p : Operand} {g c : Nat} {A : Option Addr} {r : Ra} (ho : o.op = .load 25 p) (hp : a.eval p = .pointer (some ⟨g, 0, none⟩)) (hb : RasAtB wb g r.w r.h A r.p.length c 25) (hc : r.p.length ≤ c) (hh : HasP wb wb.heap.size A r.p) (hS : Below wb.heap.size wb w) :
    Yield Tryd.prog Q (Below wb.heap.size wb) o a w (Kd.ras r).holds :=
  Yield.row ho hp (Box.below hb hS hb.lt) Tryd.underlying25 rfl (by kernel_rfl) hS ⟨A, c, rfl, hc, hh.carry hS (Nat.le_refl _) hS.size⟩
theorem yield_op {p : Operand} {g : Nat} {x : Op} (ho : o.op = .load 27 p) (hp : a.eval p = .pointer (some ⟨g, 0, none⟩)) (hb : OpAtB wb g x) (hS : Below wb.heap.size wb w) :
    Yield Tryd.prog Q (Below wb.heap.size wb) o a w (Kd.is x.v).holds :=
  Yield.row ho hp (Box.below hb hS (Box.lt hb)) Tryd.underlying27 rfl (by kernel_rfl) hS rfl
theorem yield_copy {x : Operand} {v : Value} (ho : o.op = .move x ∨ o.op = .assign x) (hx : a.eval x = v) (hS : Below wb.heap.size wb w) : Yield Tryd.prog Q (Below wb.heap.size wb) o a w (Kd.is v).holds := Yield.copy ho hx hS rfl
theorem yield_pick {x y z : Operand} {v : Value} (ho : o.op = .pick x y z) (hx : a.eval x = .bool true) (hy : a.eval y = v) (hS : Below wb.heap.size wb w) : Yield Tryd.prog Q (Below wb.heap.size wb) o a w (Kd.is v).holds := by
  refine Yield.run (v := v) (w' := w) ?_ (Below.refl _ _) hS rfl
  unfold execOp
  rw [ho]
  simp [hx, hy, asBool]
theorem yield_pickF {x y z : Operand} {v : Value} (ho : o.op = .pick x y z) (hx : a.eval x = .bool false) (hz : a.eval z = v) (hS : Below wb.heap.size wb w) : Yield Tryd.prog Q (Below wb.heap.size wb) o a w (Kd.is v).holds := by
  refine Yield.run (v := v) (w' := w) ?_ (Below.refl _ _) hS rfl
  unfold execOp
  rw [ho]
  simp [hx, hz, asBool]
theorem run_ops1 (a : Op) (w : World) : (Instr.buildSlice 67 1 #[(0, a.v)]).run Tryd.prog w = .ok (.slice (some ⟨w.heap.size, 0, none⟩) 1 1) (w.alloc (.cells (opE.flat [a]).toArray 27)) := by
  unfold Op.v
  go_simp
  rfl
theorem run_ops2 (a b : Op) (w : World) : (Instr.buildSlice 67 2 #[(0, a.v), (1, b.v)]).run Tryd.prog w = .ok (.slice (some ⟨w.heap.size, 0, none⟩) 2 2) (w.alloc (.cells (opE.flat [a, b]).toArray 27)) := by
  unfold Op.v
  go_simp
  rfl
theorem run_ops3 (a b c : Op) (w : World) : (Instr.buildSlice 67 3 #[(0, a.v), (1, b.v), (2, c.v)]).run Tryd.prog w = .ok (.slice (some ⟨w.heap.size, 0, none⟩) 3 3) (w.alloc (.cells (opE.flat [a, b, c]).toArray 27)) := by
  unfold Op.v
  go_simp
  rfl
theorem run_ops4 (a b c d : Op) (w : World) : (Instr.buildSlice 67 4 #[(0, a.v), (1, b.v), (2, c.v), (3, d.v)]).run Tryd.prog w = .ok (.slice (some ⟨w.heap.size, 0, none⟩) 4 4) (w.alloc (.cells (opE.flat [a, b, c, d]).toArray 27)) := by
  unfold Op.v
  go_simp
  rfl
theorem yield_ops {l : List Op} {n : Nat} {ps : Array (Nat × Operand)} (hn : l.length = n) (ho : o.op = .buildSlice 67 n ps) (hrun : ∀ w, (Instr.buildSlice 67 n (ps.map fun (i, x) => (i, a.eval x))).run Tryd.prog w = .ok (.slice (some ⟨w.heap.size, 0, none⟩) n n) (w.alloc (.cells (opE.flat l).toArray 27))) (hS : Below wb.heap.size wb w) :
    Yield Tryd.prog Q (Below wb.heap.size wb) o a w (Kd.ops l).holds := by
  have hb : Below w.heap.size w (w.alloc (.cells (opE.flat l).toArray 27)) := (Below.refl _ w).alloc (Nat.le_refl _) _
  refine Yield.run (v := .slice (some ⟨w.heap.size, 0, none⟩) n n) (w' := w.alloc (.cells (opE.flat l).toArray 27)) ?_ hb (hS.trans (hb.mono hS.size)) ?_
  · unfold execOp
    rw [ho]
    simp [hrun]
  · subst hn
    exact ⟨_, _, rfl, Nat.le_refl _, (El.Has.laid opE w l _).wider (by simp)⟩
theorem yield_ops1 {px : Operand} {x : Op} (ho : o.op = .buildSlice 67 1 #[(0, px)]) (hx : a.eval px = x.v) (hS : Below wb.heap.size wb w) : Yield Tryd.prog Q (Below wb.heap.size wb) o a w (Kd.ops [x]).holds :=
  yield_ops rfl ho (fun w => by simp only [List.map_toArray, List.map_cons, List.map_nil, hx]; exact run_ops1 x w) hS
theorem yield_ops2 {px py : Operand} {x y : Op} (ho : o.op = .buildSlice 67 2 #[(0, px), (1, py)]) (hx : a.eval px = x.v) (hy : a.eval py = y.v) (hS : Below wb.heap.size wb w) : Yield Tryd.prog Q (Below wb.heap.size wb) o a w (Kd.ops [x, y]).holds :=
  yield_ops rfl ho (fun w => by simp only [List.map_toArray, List.map_cons, List.map_nil, hx, hy]; exact run_ops2 x y w) hS
theorem yield_ops3 {px py pz : Operand} {x y z : Op} (ho : o.op = .buildSlice 67 3 #[(0, px), (1, py), (2, pz)]) (hx : a.eval px = x.v) (hy : a.eval py = y.v) (hz : a.eval pz = z.v) (hS : Below wb.heap.size wb w) : Yield Tryd.prog Q (Below wb.heap.size wb) o a w (Kd.ops [x, y, z]).holds :=
  yield_ops rfl ho (fun w => by simp only [List.map_toArray, List.map_cons, List.map_nil, hx, hy, hz]; exact run_ops3 x y z w) hS
theorem yield_ops4 {px py pz pu : Operand} {x y z u : Op} (ho : o.op = .buildSlice 67 4 #[(0, px), (1, py), (2, pz), (3, pu)]) (hx : a.eval px = x.v) (hy : a.eval py = y.v) (hz : a.eval pz = z.v) (hu : a.eval pu = u.v) (hS : Below wb.heap.size wb w) : Yield Tryd.prog Q (Below wb.heap.size wb) o a w (Kd.ops [x, y, z, u]).holds :=
  yield_ops rfl ho (fun w => by simp only [List.map_toArray, List.map_cons, List.map_nil, hx, hy, hz, hu]; exact run_ops4 x y z u w) hS
theorem yield_eaDo {p q : Operand} {ts : Array TypeId} {r : Ra} {l : List Op} {vp vq : Value} (ho : o.op = .call { callee := .value (.func 20), args := #[p, q], argTypes := ts }) (ep : a.eval p = vp) (eq : a.eval q = vq) (hp : IsRa r w vp) (hq : IsOps l w vq) (hok : r.ok) (hcan : canAll r l) (hn : l.length ≤ 1000) (hR : RangesIn wb) (hS : Below wb.heap.size wb w) :
    Yield Tryd.prog Q (Below wb.heap.size wb) o a w (Kd.ras (eaR r l)).holds := by
  obtain ⟨A, c, rfl, hc, hh⟩ := hp
  obtain ⟨L, lc, rfl, _, hl⟩ := hq
  refine Yield.call ho rfl Tryd.func20 (by kernel_rfl) rfl (args := #[raV r A c, .slice L l.length lc]) (by simp [ep, eq]) (eaDo_any r A c L lc l w hok hcan (hR.next hS) hc hh hl hn) ?_
  rintro e w' ⟨v, rfl, hv, hb⟩
  exact ⟨v, rfl, hb, hS.trans (hb.mono hS.size), hv⟩
theorem yield_eaRas {p q : Operand} {ts : Array TypeId} {r s : Ra} {vp vq : Value} (ho : o.op = .call { callee := .value (.func 14), args := #[p, q], argTypes := ts }) (ep : a.eval p = vp) (eq : a.eval q = vq) (hp : IsRa r w vp) (hq : IsRa s w vq) (hok : r.ok) (heq : r = s) (hS : Below wb.heap.size wb w) :
    Yield Tryd.prog Q (Below wb.heap.size wb) o a w (Kd.is (.bool true)).holds := by
  subst heq
  obtain ⟨A, c, rfl, hc, hh⟩ := hp
  obtain ⟨A', c', rfl, hc', hh'⟩ := hq
  refine Yield.call ho rfl Tryd.func14 (by kernel_rfl) rfl (args := #[raV r A c, raV r A' c']) (by simp [ep, eq]) (eaRas_same r.w r.h A A' c c' r.p w (by have := ra_len hok; omega) hh hh') ?_
  rintro e w' ⟨rfl, hb⟩
  exact ⟨_, rfl, hb, hS.trans (hb.mono hS.size), rfl⟩
theorem yield_rasOk {p : Operand} {ts : Array TypeId} {r : Ra} {vp : Value} (ho : o.op = .call { callee := .value (.func 19), args := #[p], argTypes := ts }) (ep : a.eval p = vp) (hp : IsRa r w vp) (hok : r.ok) (hS : Below wb.heap.size wb w) :
    Yield Tryd.prog Q (Below wb.heap.size wb) o a w (Kd.is (.bool true)).holds := by
  obtain ⟨A, c, rfl, hc, hh⟩ := hp
  refine Yield.call ho rfl Tryd.func19 (by kernel_rfl) rfl (args := #[raV r A c]) (by simp [ep]) (implRasOk_any r.w r.h A c r.p w (by have := ra_len hok; omega) hh) ?_
  rintro e w' ⟨rfl, hb⟩
  exact ⟨_, rfl, hb, hS.trans (hb.mono hS.size), by rw [show rasB r.w r.h r.p = true from hok]; rfl⟩
end
end Go.Proofs.YtjfcgdjieohpiaaDoor
