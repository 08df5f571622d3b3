/-
  More steps of a law's region that draws its order: numbers, fields, pixels, RasAt. Conditions as they stand.
-/
import Derived.Test.YtiemlakjallphaaDoorRegN
import Derived.Test.YtiemlakjallphaaDoorEaDo
import Derived.Test.YtiemlakjallphaaDoorEaOk
import Derived.Test.YtiemlakjallphaaDoorRasI
namespace Go.Proofs.YtiemlakjallphaaDoor
set_option maxRecDepth 4000
open Go.RowKit

theorem wanted_of {ops : Array Oper} {o : Oper} {n j d : Nat} {b : Bool} {V : Nat → Value} (hg : o.guard = some (j, b)) (hj : (ops[j]?).bind (·.dst) = some d) (hd : d < n) (hV : V d = .bool b) : Region.wanted o (yielded ops (frame n V).tmps) = true := by
  unfold Region.wanted yielded
  rw [hg]
  simp [hj, frame_get V hd, hV]
theorem El.Has.laid {α : Type} (E : El α) (w : World) (l : List α) (t : TypeId) : E.Has (w.alloc (.cells (E.flat l).toArray t)) (w.heap.size + 1) (some ⟨w.heap.size, 0, none⟩) l := by
  refine .inr ⟨_, _, rfl, by omega, fun i x hx k u hu => ?_⟩
  rw [Nat.zero_add]
  exact Box.cell (Box.new w _ t) (by simpa using E.flat_at hx hu)
section
variable {Q : Exit → Act → World → Prop} {o : Oper} {a : Act} {w wb : World}
/-- A raster in a box that was there when the region began. -/
theorem yield_ras {p : Operand} {g c : Nat} {A : Option Addr} {r : Ra} (ho : o.op = .load 25 p) (hp : a.eval p = .pointer (some ⟨g, 0, none⟩)) (hb : RasAtB wb g r.w r.h A r.p.length c 25) (hc : r.p.length ≤ c) (hh : HasP wb wb.heap.size A r.p) (hS : Below wb.heap.size wb w) :
    Yield Tryd.prog Q (Below wb.heap.size wb) o a w (Kd.ras r).holds :=
  Yield.row ho hp (Box.below hb hS hb.lt) Tryd.underlying25 rfl (by kernel_rfl) hS ⟨A, c, rfl, hc, hh.carry hS (Nat.le_refl _) hS.size⟩
theorem yield_op {p : Operand} {g : Nat} {x : Op} (ho : o.op = .load 27 p) (hp : a.eval p = .pointer (some ⟨g, 0, none⟩)) (hb : OpAtB wb g x) (hS : Below wb.heap.size wb w) :
    Yield Tryd.prog Q (Below wb.heap.size wb) o a w (Kd.is x.v).holds :=
  Yield.row ho hp (Box.below hb hS (Box.lt hb)) Tryd.underlying27 rfl (by kernel_rfl) hS rfl
theorem yield_copy {x : Operand} {v : Value} (ho : o.op = .move x ∨ o.op = .assign x) (hx : a.eval x = v) (hS : Below wb.heap.size wb w) : Yield Tryd.prog Q (Below wb.heap.size wb) o a w (Kd.is v).holds := Yield.copy ho hx hS rfl
theorem yield_pick {x y z : Operand} {v : Value} (ho : o.op = .pick x y z) (hx : a.eval x = .bool true) (hy : a.eval y = v) (hS : Below wb.heap.size wb w) : Yield Tryd.prog Q (Below wb.heap.size wb) o a w (Kd.is v).holds := by
  refine Yield.run (v := v) (w' := w) ?_ (Below.refl _ _) hS rfl
  unfold execOp
  rw [ho]
  simp [hx, hy, asBool]
theorem yield_pickF {x y z : Operand} {v : Value} (ho : o.op = .pick x y z) (hx : a.eval x = .bool false) (hz : a.eval z = v) (hS : Below wb.heap.size wb w) : Yield Tryd.prog Q (Below wb.heap.size wb) o a w (Kd.is v).holds := by
  refine Yield.run (v := v) (w' := w) ?_ (Below.refl _ _) hS rfl
  unfold execOp
  rw [ho]
  simp [hx, hz, asBool]
theorem run_ops1 (a : Op) (w : World) : (Instr.buildSlice 67 1 #[(0, a.v)]).run Tryd.prog w = .ok (.slice (some ⟨w.heap.size, 0, none⟩) 1 1) (w.alloc (.cells (opE.flat [a]).toArray 27)) := by
  unfold Op.v
  go_simp
  rfl
theorem run_ops2 (a b : Op) (w : World) : (Instr.buildSlice 67 2 #[(0, a.v), (1, b.v)]).run Tryd.prog w = .ok (.slice (some ⟨w.heap.size, 0, none⟩) 2 2) (w.alloc (.cells (opE.flat [a, b]).toArray 27)) := by
  unfold Op.v
  go_simp
  rfl
theorem run_ops3 (a b c : Op) (w : World) : (Instr.buildSlice 67 3 #[(0, a.v), (1, b.v), (2, c.v)]).run Tryd.prog w = .ok (.slice (some ⟨w.heap.size, 0, none⟩) 3 3) (w.alloc (.cells (opE.flat [a, b, c]).toArray 27)) := by
  unfold Op.v
  go_simp
  rfl
theorem run_ops4 (a b c d : Op) (w : World) : (Instr.buildSlice 67 4 #[(0, a.v), (1, b.v), (2, c.v), (3, d.v)]).run Tryd.prog w = .ok (.slice (some ⟨w.heap.size, 0, none⟩) 4 4) (w.alloc (.cells (opE.flat [a, b, c, d]).toArray 27)) := by
  unfold Op.v
  go_simp
  rfl
theorem yield_ops {l : List Op} {n : Nat} {ps : Array (Nat × Operand)} (hn : l.length = n) (ho : o.op = .buildSlice 67 n ps) (hrun : ∀ w, (Instr.buildSlice 67 n (ps.map fun (i, x) => (i, a.eval x))).run Tryd.prog w = .ok (.slice (some ⟨w.heap.size, 0, none⟩) n n) (w.alloc (.cells (opE.flat l).toArray 27))) (hS : Below wb.heap.size wb w) :
    Yield Tryd.prog Q (Below wb.heap.size wb) o a w (Kd.ops l).holds := by
  have hb : Below w.heap.size w (w.alloc (.cells (opE.flat l).toArray 27)) := (Below.refl _ w).alloc (Nat.le_refl _) _
  refine Yield.run (v := .slice (some ⟨w.heap.size, 0, none⟩) n n) (w' := w.alloc (.cells (opE.flat l).toArray 27)) ?_ hb (hS.trans (hb.mono hS.size)) ?_
  · unfold execOp
    rw [ho]
    simp [hrun]
  · subst hn
    exact ⟨_, _, rfl, Nat.le_refl _, (El.Has.laid opE w l _).wider (by simp)⟩
theorem yield_ops1 {px : Operand} {x : Op} (ho : o.op = .buildSlice 67 1 #[(0, px)]) (hx : a.eval px = x.v) (hS : Below wb.heap.size wb w) : Yield Tryd.prog Q (Below wb.heap.size wb) o a w (Kd.ops [x]).holds :=
  yield_ops rfl ho (fun w => by simp only [List.map_toArray, List.map_cons, List.map_nil, hx]; exact run_ops1 x w) hS
theorem yield_ops2 {px py : Operand} {x y : Op} (ho : o.op = .buildSlice 67 2 #[(0, px), (1, py)]) (hx : a.eval px = x.v) (hy : a.eval py = y.v) (hS : Below wb.heap.size wb w) : Yield Tryd.prog Q (Below wb.heap.size wb) o a w (Kd.ops [x, y]).holds :=
  yield_ops rfl ho (fun w => by simp only [List.map_toArray, List.map_cons, List.map_nil, hx, hy]; exact run_ops2 x y w) hS
theorem yield_ops3 {px py pz : Operand} {x y z : Op} (ho : o.op = .buildSlice 67 3 #[(0, px), (1, py), (2, pz)]) (hx : a.eval px = x.v) (hy : a.eval py = y.v) (hz : a.eval pz = z.v) (hS : Below wb.heap.size wb w) : Yield Tryd.prog Q (Below wb.heap.size wb) o a w (Kd.ops [x, y, z]).holds :=
  yield_ops rfl ho (fun w => by simp only [List.map_toArray, List.map_cons, List.map_nil, hx, hy, hz]; exact run_ops3 x y z w) hS
theorem yield_ops4 {px py pz pu : Operand} {x y z u : Op} (ho : o.op = .buildSlice 67 4 #[(0, px), (1, py), (2, pz), (3, pu)]) (hx : a.eval px = x.v) (hy : a.eval py = y.v) (hz : a.eval pz = z.v) (hu : a.eval pu = u.v) (hS : Below wb.heap.size wb w) : Yield Tryd.prog Q (Below wb.heap.size wb) o a w (Kd.ops [x, y, z, u]).holds :=
  yield_ops rfl ho (fun w => by simp only [List.map_toArray, List.map_cons, List.map_nil, hx, hy, hz, hu]; exact run_ops4 x y z u w) hS
theorem yield_eaDo {p q : Operand} {ts : Array TypeId} {r : Ra} {l : List Op} {vp vq : Value} (ho : o.op = .call { callee := .value (.func 20), args := #[p, q], argTypes := ts }) (ep : a.eval p = vp) (eq : a.eval q = vq) (hp : IsRa r w vp) (hq : IsOps l w vq) (hok : r.ok) (hcan : canAll r l) (hn : l.length ≤ 1000) (hR : RangesIn wb) (hS : Below wb.heap.size wb w) :
    Yield Tryd.prog Q (Below wb.heap.size wb) o a w (Kd.ras (eaR r l)).holds := by
  obtain ⟨A, c, rfl, hc, hh⟩ := hp
  obtain ⟨L, lc, rfl, _, hl⟩ := hq
  refine Yield.call ho rfl Tryd.func20 (by kernel_rfl) rfl (args := #[raV r A c, .slice L l.length lc]) (by simp [ep, eq]) (eaDo_any r A c L lc l w hok hcan (hR.next hS) hc hh hl hn) ?_
  rintro e w' ⟨v, rfl, hv, hb⟩
  exact ⟨v, rfl, hb, hS.trans (hb.mono hS.size), hv⟩
theorem yield_eaRas {p q : Operand} {ts : Array TypeId} {r s : Ra} {vp vq : Value} (ho : o.op = .call { callee := .value (.func 14), args := #[p, q], argTypes := ts }) (ep : a.eval p = vp) (eq : a.eval q = vq) (hp : IsRa r w vp) (hq : IsRa s w vq) (hok : r.ok) (heq : r = s) (hS : Below wb.heap.size wb w) :
    Yield Tryd.prog Q (Below wb.heap.size wb) o a w (Kd.is (.bool true)).holds := by
  subst heq
  obtain ⟨A, c, rfl, hc, hh⟩ := hp
  obtain ⟨A', c', rfl, hc', hh'⟩ := hq
  refine Yield.call ho rfl Tryd.func14 (by kernel_rfl) rfl (args := #[raV r A c, raV r A' c']) (by simp [ep, eq]) (eaRas_same r.w r.h A A' c c' r.p w (by have := ra_len hok; omega) hh hh') ?_
  rintro e w' ⟨rfl, hb⟩
  exact ⟨_, rfl, hb, hS.trans (hb.mono hS.size), rfl⟩
theorem yield_rasOk {p : Operand} {ts : Array TypeId} {r : Ra} {vp : Value} (ho : o.op = .call { callee := .value (.func 19), args := #[p], argTypes := ts }) (ep : a.eval p = vp) (hp : IsRa r w vp) (hok : r.ok) (hS : Below wb.heap.size wb w) :
    Yield Tryd.prog Q (Below wb.heap.size wb) o a w (Kd.is (.bool true)).holds := by
  obtain ⟨A, c, rfl, hc, hh⟩ := hp
  refine Yield.call ho rfl Tryd.func19 (by kernel_rfl) rfl (args := #[raV r A c]) (by simp [ep]) (implRasOk_any r.w r.h A c r.p w (by have := ra_len hok; omega) hh) ?_
  rintro e w' ⟨rfl, hb⟩
  exact ⟨_, rfl, hb, hS.trans (hb.mono hS.size), by rw [show rasB r.w r.h r.p = true from hok]; rfl⟩
end
end Go.Proofs.YtiemlakjallphaaDoor
namespace Go.Proofs.YtiemlakjallphaaDoor
set_option maxRecDepth 4000
open Go.RowKit

theorem run_neqG (p q : Px) (x y : Operand) (w : World) : (eqGuard .neq 39 x y p.v q.v).run Tryd.prog w = .ok () w := by
  unfold Px.v
  go_simp
theorem run_eqlG (p q : Px) (x y : Operand) (w : World) : (eqGuard .eql 39 x y p.v q.v).run Tryd.prog w = .ok () w := by
  unfold Px.v
  go_simp
theorem run_eql_same (p : Px) (w : World) : (binOp .eql 39 p.v p.v).run Tryd.prog w = .ok (.bool true) w := by
  unfold Px.v
  go_simp
theorem run_neq_same (p : Px) (w : World) : (binOp .neq 39 p.v p.v).run Tryd.prog w = .ok (.bool false) w := by
  unfold Px.v
  go_simp
theorem fld_ras (g i : Nat) (hi : i < 3) (w : World) : (Instr.fieldAt 25 (.pointer (some ⟨g, 0, none⟩)) i).run Tryd.prog w = .ok (.pointer (some ⟨g, i, none⟩)) w := by
  have : i = 0 ∨ i = 1 ∨ i = 2 := by omega
  rcases this with rfl | rfl | rfl <;> go_simp
theorem fld_pix (g i : Nat) (hi : i < 4) (w : World) : (Instr.fieldAt 39 (.pointer (some ⟨g, 0, none⟩)) i).run Tryd.prog w = .ok (.pointer (some ⟨g, i, none⟩)) w := by
  have : i = 0 ∨ i = 1 ∨ i = 2 ∨ i = 3 := by omega
  rcases this with rfl | rfl | rfl | rfl <;> go_simp
section
variable {Q : Exit → Act → World → Prop} {o : Oper} {a : Act} {w wb : World}
theorem yield_neqPix {x y : Operand} {u : TypeId} {p q : Px} (ho : o.op = .binOp .neq 39 x y u) (hx : a.eval x = p.v) (hy : a.eval y = q.v) (e : p = q) (hS : Below wb.heap.size wb w) : Yield Tryd.prog Q (Below wb.heap.size wb) o a w (Kd.is (.bool false)).holds := by
  subst e
  refine Yield.run (v := .bool false) (w' := w) ?_ (Below.refl _ _) hS rfl
  unfold execOp
  rw [ho]
  simp only [hx, hy]
  simp [Sem.run_bind, Result.andThen, run_neqG, run_neq_same]
theorem yield_eqlPix {x y : Operand} {u : TypeId} {p q : Px} (ho : o.op = .binOp .eql 39 x y u) (hx : a.eval x = p.v) (hy : a.eval y = q.v) (e : p = q) (hS : Below wb.heap.size wb w) : Yield Tryd.prog Q (Below wb.heap.size wb) o a w (Kd.is (.bool true)).holds := by
  subst e
  refine Yield.run (v := .bool true) (w' := w) ?_ (Below.refl _ _) hS rfl
  unfold execOp
  rw [ho]
  simp only [hx, hy]
  simp [Sem.run_bind, Result.andThen, run_eqlG, run_eql_same]
theorem yield_neqI {x y : Operand} {u : TypeId} {m n : Int} (ho : o.op = .binOp .neq 3 x y u) (hx : a.eval x = .int .i64 m) (hy : a.eval y = .int .i64 n) (e : m = n) (hS : Below wb.heap.size wb w) : Yield Tryd.prog Q (Below wb.heap.size wb) o a w (Kd.is (.bool false)).holds := by
  subst e
  refine Yield.run (v := .bool false) (w' := w) ?_ (Below.refl _ _) hS rfl
  unfold execOp
  rw [ho]
  simp only [hx, hy]
  go_simp
theorem yield_eqlI {x y : Operand} {u : TypeId} {m n : Int} (ho : o.op = .binOp .eql 3 x y u) (hx : a.eval x = .int .i64 m) (hy : a.eval y = .int .i64 n) (e : m = n) (hS : Below wb.heap.size wb w) : Yield Tryd.prog Q (Below wb.heap.size wb) o a w (Kd.is (.bool true)).holds := by
  subst e
  refine Yield.run (v := .bool true) (w' := w) ?_ (Below.refl _ _) hS rfl
  unfold execOp
  rw [ho]
  simp only [hx, hy]
  go_simp
theorem yield_lssF {x y : Operand} {u : TypeId} {m n : Int} (ho : o.op = .binOp .lss 3 x y u) (hx : a.eval x = .int .i64 m) (hy : a.eval y = .int .i64 n) (e : ¬ m < n) (hS : Below wb.heap.size wb w) : Yield Tryd.prog Q (Below wb.heap.size wb) o a w (Kd.is (.bool false)).holds := by
  refine Yield.run (v := .bool false) (w' := w) ?_ (Below.refl _ _) hS rfl
  unfold execOp
  rw [ho]
  simp only [hx, hy]
  go_simp
theorem yield_gtrF {x y : Operand} {u : TypeId} {m n : Int} (ho : o.op = .binOp .gtr 3 x y u) (hx : a.eval x = .int .i64 m) (hy : a.eval y = .int .i64 n) (e : ¬ n < m) (hS : Below wb.heap.size wb w) : Yield Tryd.prog Q (Below wb.heap.size wb) o a w (Kd.is (.bool false)).holds := by
  refine Yield.run (v := .bool false) (w' := w) ?_ (Below.refl _ _) hS rfl
  unfold execOp
  rw [ho]
  simp only [hx, hy]
  go_simp
theorem yield_len {x : Operand} {A : Option Addr} {n c : Nat} (ho : o.op = .call { callee := .builtin .len, args := #[x], argTypes := #[23] }) (hx : a.eval x = .slice A n c) (hS : Below wb.heap.size wb w) : Yield Tryd.prog Q (Below wb.heap.size wb) o a w (Kd.is (.int .i64 (n : Int))).holds := by
  refine Yield.run (v := .int .i64 (n : Int)) (w' := w) ?_ (Below.refl _ _) hS rfl
  have e : (execOp a.eval o).run Tryd.prog w = ((Builtin.len_ #[23] o.type #[.slice A n c]).run Tryd.prog w).andThen fun v w' => .ok (.value v) w' := by
    unfold execOp
    rw [ho]
    simp [resolve, invoke, builtin, hx, Result.andThen]
  rw [e]
  go_simp
theorem yield_sub {x y : Operand} {u : TypeId} {m n z : Int} (ho : o.op = .binOp .sub 3 x y u) (hx : a.eval x = .int .i64 m) (hy : a.eval y = .int .i64 n) (hz : m - n = z) (hr : -9223372036854775808 ≤ m - n ∧ m - n ≤ 9223372036854775807) (hS : Below wb.heap.size wb w) : Yield Tryd.prog Q (Below wb.heap.size wb) o a w (Kd.is (.int .i64 z)).holds := by
  subst hz
  refine Yield.run (v := .int .i64 (m - n)) (w' := w) ?_ (Below.refl _ _) hS rfl
  have u1 := IntWalk.i64_in (m - n) hr
  unfold execOp
  rw [ho]
  simp only [hx, hy]
  go_simp
theorem yield_add {x y : Operand} {u : TypeId} {m n z : Int} (ho : o.op = .binOp .add 3 x y u) (hx : a.eval x = .int .i64 m) (hy : a.eval y = .int .i64 n) (hz : m + n = z) (hr : -9223372036854775808 ≤ m + n ∧ m + n ≤ 9223372036854775807) (hS : Below wb.heap.size wb w) : Yield Tryd.prog Q (Below wb.heap.size wb) o a w (Kd.is (.int .i64 z)).holds := by
  subst hz
  refine Yield.run (v := .int .i64 (m + n)) (w' := w) ?_ (Below.refl _ _) hS rfl
  have u1 := IntWalk.i64_in (m + n) hr
  unfold execOp
  rw [ho]
  simp only [hx, hy]
  go_simp
theorem yield_mul {x y : Operand} {u : TypeId} {m n z : Int} (ho : o.op = .binOp .mul 3 x y u) (hx : a.eval x = .int .i64 m) (hy : a.eval y = .int .i64 n) (hz : m * n = z) (hr : -9223372036854775808 ≤ m * n ∧ m * n ≤ 9223372036854775807) (hS : Below wb.heap.size wb w) : Yield Tryd.prog Q (Below wb.heap.size wb) o a w (Kd.is (.int .i64 z)).holds := by
  subst hz
  refine Yield.run (v := .int .i64 (m * n)) (w' := w) ?_ (Below.refl _ _) hS rfl
  have u1 := IntWalk.i64_in (m * n) hr
  unfold execOp
  rw [ho]
  simp only [hx, hy]
  go_simp
theorem yield_quo {x y : Operand} {u : TypeId} {m n z : Nat} (ho : o.op = .binOp .quo 3 x y u) (hx : a.eval x = .int .i64 (m : Int)) (hy : a.eval y = .int .i64 (n : Int)) (hz : m / n = z) (hn : 0 < n) (hr : m ≤ 9223372036854775807) (hr2 : n ≤ 9223372036854775807) (hS : Below wb.heap.size wb w) : Yield Tryd.prog Q (Below wb.heap.size wb) o a w (Kd.is (.int .i64 (z : Int))).holds := by
  subst hz
  refine Yield.run (v := .int .i64 ((m / n : Nat) : Int)) (w' := w) ?_ (Below.refl _ _) hS rfl
  have e : ((m / n : Nat) : Int) = (m : Int) / (n : Int) := Int.natCast_ediv m n
  have h1 : m / n ≤ m := Nat.div_le_self m n
  have u1 := IntWalk.i64_in ((m : Int) / (n : Int)) (by rw [← e]; generalize m / n = k at *; omega)
  have hn0 : ¬ ((n : Int) = 0) := by omega
  have hm0 : (0 : Int) ≤ (m : Int) := by omega
  have hnn : ¬ n = 0 := by omega
  have et : (m : Int).tdiv (n : Int) = ((m / n : Nat) : Int) := by rw [Int.tdiv_eq_ediv_of_nonneg hm0]; exact e.symm
  clear e
  unfold execOp
  rw [ho]
  simp only [hx, hy]
  go_simp
theorem yield_rem {x y : Operand} {u : TypeId} {m n z : Nat} (ho : o.op = .binOp .rem 3 x y u) (hx : a.eval x = .int .i64 (m : Int)) (hy : a.eval y = .int .i64 (n : Int)) (hz : m % n = z) (hn : 0 < n) (hr : m ≤ 9223372036854775807) (hr2 : n ≤ 9223372036854775807) (hS : Below wb.heap.size wb w) : Yield Tryd.prog Q (Below wb.heap.size wb) o a w (Kd.is (.int .i64 (z : Int))).holds := by
  subst hz
  refine Yield.run (v := .int .i64 ((m % n : Nat) : Int)) (w' := w) ?_ (Below.refl _ _) hS rfl
  have hm0 : (0 : Int) ≤ (m : Int) := by omega
  have hnn : ¬ n = 0 := by omega
  have hn0 : ¬ ((n : Int) = 0) := by omega
  have h1 : m % n < n := Nat.mod_lt m hn
  have et : (m : Int).tmod (n : Int) = ((m % n : Nat) : Int) := by rw [Int.tmod_eq_emod_of_nonneg hm0]; exact (Int.natCast_emod m n).symm
  have u1 := IntWalk.i64_in (((m % n : Nat) : Int)) (by omega)
  unfold execOp
  rw [ho]
  simp only [hx, hy]
  go_simp
theorem yield_cell {p : Operand} {ad : Addr} {z : Int} (ho : o.op = .load 3 p) (hp : a.eval p = .pointer (some ad)) (hc : wb.cell? ad = some (.int .i64 z)) (hlt : ad.block < wb.heap.size) (hS : Below wb.heap.size wb w) : Yield Tryd.prog Q (Below wb.heap.size wb) o a w (Kd.is (.int .i64 z)).holds := by
  have hc2 : w.cell? ad = some (.int .i64 z) := (hS.cell hlt).trans hc
  refine Yield.run (v := .int .i64 z) (w' := w) ?_ (Below.refl _ _) hS rfl
  unfold execOp
  rw [ho]
  simp only [hp]
  go_simp
theorem yield_sl {p : Operand} {ad : Addr} {A : Option Addr} {n c : Nat} (ho : o.op = .load 23 p) (hp : a.eval p = .pointer (some ad)) (hc : wb.cell? ad = some (.slice A n c)) (hlt : ad.block < wb.heap.size) (hS : Below wb.heap.size wb w) : Yield Tryd.prog Q (Below wb.heap.size wb) o a w (Kd.is (.slice A n c)).holds := by
  have hc2 : w.cell? ad = some (.slice A n c) := (hS.cell hlt).trans hc
  refine Yield.run (v := .slice A n c) (w' := w) ?_ (Below.refl _ _) hS rfl
  unfold execOp
  rw [ho]
  simp only [hp]
  go_simp
theorem yield_fld {p : Operand} {g i : Nat} {t : TypeId} (ho : o.op = .fieldAddr t p i) (hp : a.eval p = .pointer (some ⟨g, 0, none⟩)) (hf : ∀ w, (Instr.fieldAt t (.pointer (some ⟨g, 0, none⟩)) i).run Tryd.prog w = .ok (.pointer (some ⟨g, i, none⟩)) w) (hS : Below wb.heap.size wb w) : Yield Tryd.prog Q (Below wb.heap.size wb) o a w (Kd.is (.pointer (some ⟨g, i, none⟩))).holds := by
  refine Yield.run (v := .pointer (some ⟨g, i, none⟩)) (w' := w) ?_ (Below.refl _ _) hS rfl
  unfold execOp
  rw [ho]
  simp [hp, hf]
theorem yield_idx {x y : Operand} {b d n c : Nat} {i : Nat} (ho : o.op = .indexAddr 23 x y) (hx : a.eval x = .slice (some ⟨b, d, none⟩) n c) (hy : a.eval y = .int .i64 (i : Int)) (hi : i < n) (hS : Below wb.heap.size wb w) : Yield Tryd.prog Q (Below wb.heap.size wb) o a w (Kd.is (.pointer (some ⟨b, d + i * 4, none⟩))).holds := by
  have h1 : (0 : Int) ≤ (i : Int) ∧ (i : Int) < (n : Int) := by omega
  refine Yield.run (v := .pointer (some ⟨b, d + i * 4, none⟩)) (w' := w) ?_ (Below.refl _ _) hS rfl
  unfold execOp
  rw [ho]
  simp only [hx, hy]
  go_simp
theorem yield_px {p : Operand} {b d : Nat} {q : Px} (ho : o.op = .load 39 p) (hp : a.eval p = .pointer (some ⟨b, d, none⟩)) (hc : PxAt wb b d q) (hlt : b < wb.heap.size) (hS : Below wb.heap.size wb w) : Yield Tryd.prog Q (Below wb.heap.size wb) o a w (Kd.is q.v).holds := by
  obtain ⟨c0, c1, c2, c3⟩ := hc.kept (w' := w) fun ad had => hS.cell (by rw [had]; exact hlt)
  refine Yield.run (v := q.v) (w' := w) ?_ (Below.refl _ _) hS rfl
  unfold execOp Px.v
  rw [ho]
  simp only [hp]
  go_simp
theorem yield_pixB {p : Operand} {g : Nat} {q : Px} (ho : o.op = .load 39 p) (hp : a.eval p = .pointer (some ⟨g, 0, none⟩)) (hb : Box wb g #[.int .i64 q.r, .int .i64 q.g, .int .i64 q.b, .int .i64 q.a] 39) (hS : Below wb.heap.size wb w) :
    Yield Tryd.prog Q (Below wb.heap.size wb) o a w (Kd.is q.v).holds :=
  Yield.row ho hp (Box.below hb hS (Box.lt hb)) Tryd.underlying39 rfl (by kernel_rfl) hS rfl
theorem yield_build {t : TypeId} {ps : Array (Nat × Operand)} {qs : Array (Nat × Value)} {v : Value} (ho : o.op = .build t ps) (hps : (ps.map fun (i, x) => (i, a.eval x)) = qs) (hrun : ∀ w, (Instr.build t qs).run Tryd.prog w = .ok v w) (hS : Below wb.heap.size wb w) : Yield Tryd.prog Q (Below wb.heap.size wb) o a w (Kd.is v).holds := by
  refine Yield.run (v := v) (w' := w) ?_ (Below.refl _ _) hS rfl
  unfold execOp
  rw [ho]
  simp [hps, hrun]
theorem run_build_op (k a b c d : Int) (w : World) : (Instr.build 27 #[(0, .int .i64 k), (1, .int .i64 a), (2, .int .i64 b), (3, .int .i64 c), (4, .int .i64 d)]).run Tryd.prog w = .ok (Op.v ⟨k, a, b, c, d⟩) w := by
  unfold Op.v
  go_simp
theorem run_build_cd (k c d : Int) (w : World) : (Instr.build 27 #[(0, .int .i64 k), (3, .int .i64 c), (4, .int .i64 d)]).run Tryd.prog w = .ok (Op.v ⟨k, 0, 0, c, d⟩) w := by
  unfold Op.v
  go_simp
theorem run_build_ab (k a b : Int) (w : World) : (Instr.build 27 #[(0, .int .i64 k), (1, .int .i64 a), (2, .int .i64 b)]).run Tryd.prog w = .ok (Op.v ⟨k, a, b, 0, 0⟩) w := by
  unfold Op.v
  go_simp
theorem run_build_abc (k a b c : Int) (w : World) : (Instr.build 27 #[(0, .int .i64 k), (1, .int .i64 a), (2, .int .i64 b), (3, .int .i64 c)]).run Tryd.prog w = .ok (Op.v ⟨k, a, b, c, 0⟩) w := by
  unfold Op.v
  go_simp
theorem run_build_px (a b c d : Int) (w : World) : (Instr.build 39 #[(0, .int .i64 a), (1, .int .i64 b), (2, .int .i64 c), (3, .int .i64 d)]).run Tryd.prog w = .ok (Px.v ⟨a, b, c, d⟩) w := by
  unfold Px.v
  go_simp
theorem yield_raw {p : Operand} {g n c : Nat} {A : Option Addr} {W H : Int} (ho : o.op = .load 25 p) (hp : a.eval p = .pointer (some ⟨g, 0, none⟩)) (hb : RasAtB wb g W H A n c 25) (hS : Below wb.heap.size wb w) :
    Yield Tryd.prog Q (Below wb.heap.size wb) o a w (Kd.is (rasV W H A n c)).holds :=
  Yield.row ho hp (Box.below hb hS hb.lt) Tryd.underlying25 rfl (by kernel_rfl) hS rfl
theorem yield_okI {p : Operand} {ts : Array TypeId} {c : Nat} {A : Option Addr} {W H : Int} {l : List Px} (ho : o.op = .call { callee := .value (.func 19), args := #[p], argTypes := ts }) (ep : a.eval p = rasV W H A l.length c) (hl : l.length ≤ 1073741824) (hh : HasP wb wb.heap.size A l) (hS : Below wb.heap.size wb w) :
    Yield Tryd.prog Q (Below wb.heap.size wb) o a w (Kd.is (.bool (rasB W H l))).holds := by
  refine Yield.call ho rfl Tryd.func19 (by kernel_rfl) rfl (args := #[rasV W H A l.length c]) (by simp [ep]) (implRasOk_any W H A c l w hl (hh.carry hS (Nat.le_refl _) hS.size)) ?_
  rintro e w' ⟨rfl, hb⟩
  exact ⟨_, rfl, hb, hS.trans (hb.mono hS.size), rfl⟩
theorem yield_okS {p : Operand} {ts : Array TypeId} {c : Nat} {A : Option Addr} {W H : Int} {l : List Px} (ho : o.op = .call { callee := .value (.func 17), args := #[p], argTypes := ts }) (ep : a.eval p = rasV W H A l.length c) (hl : l.length ≤ 1073741824) (hh : HasP wb wb.heap.size A l) (hS : Below wb.heap.size wb w) :
    Yield Tryd.prog Q (Below wb.heap.size wb) o a w (Kd.is (.bool (rasB W H l))).holds := by
  refine Yield.call ho rfl Tryd.func17 (by kernel_rfl) rfl (args := #[rasV W H A l.length c]) (by simp [ep]) (specRasOk_any W H A c l w hl (hh.carry hS (Nat.le_refl _) hS.size)) ?_
  rintro e w' ⟨rfl, hb⟩
  exact ⟨_, rfl, hb, hS.trans (hb.mono hS.size), rfl⟩
theorem yield_eqlB {x y : Operand} {u : TypeId} {p : Bool} (ho : o.op = .binOp .eql 4 x y u) (hx : a.eval x = .bool p) (hy : a.eval y = .bool p) (hS : Below wb.heap.size wb w) : Yield Tryd.prog Q (Below wb.heap.size wb) o a w (Kd.is (.bool true)).holds := by
  refine Yield.run (v := .bool true) (w' := w) ?_ (Below.refl _ _) hS rfl
  unfold execOp
  rw [ho]
  simp only [hx, hy]
  cases p <;> go_simp
theorem yield_not {x : Operand} {u : TypeId} {p : Bool} (ho : o.op = .unOp .not u x) (hx : a.eval x = .bool p) (hS : Below wb.heap.size wb w) : Yield Tryd.prog Q (Below wb.heap.size wb) o a w (Kd.is (.bool !p)).holds := by
  refine Yield.run (v := .bool !p) (w' := w) ?_ (Below.refl _ _) hS rfl
  unfold execOp
  rw [ho]
  simp only [hx]
  go_simp
theorem yield_eaOk {ts : Array TypeId} (ho : o.op = .call { callee := .value (.func 18), args := #[], argTypes := ts }) (hS : Below wb.heap.size wb w) : Yield Tryd.prog Q (Below wb.heap.size wb) o a w (Kd.is (.bool true)).holds := by
  refine Yield.call ho rfl Tryd.func18 (by kernel_rfl) rfl (args := #[]) (by simp) (eaOk_any w) ?_
  rintro e w' ⟨rfl, hb⟩
  exact ⟨_, rfl, hb, hS.trans (hb.mono hS.size), rfl⟩
end
end Go.Proofs.YtiemlakjallphaaDoor
