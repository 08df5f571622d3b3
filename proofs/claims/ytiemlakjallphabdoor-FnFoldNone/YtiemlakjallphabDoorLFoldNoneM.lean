/-
  The law FnFoldNone returns true for every list of bytes. Condition: the table of ranges reads as the program's text lays it.
-/
import Derived.Test.YtiemlakjallphabDoorRegN
import Derived.Test.YtiemlakjallphabDoorDrF
import Derived.Test.YtiemlakjallphabDoorFoldN
import Derived.Test.YtiemlakjallphabDoorRanL
namespace Go.Proofs.YtiemlakjallphabDoor
set_option maxRecDepth 4000
open Go.RowKit

theorem wanted_of {ops : Array Oper} {o : Oper} {n j d : Nat} {b : Bool} {V : Nat → Value} (hg : o.guard = some (j, b)) (hj : (ops[j]?).bind (·.dst) = some d) (hd : d < n) (hV : V d = .bool b) : Region.wanted o (yielded ops (frame n V).tmps) = true := by
  unfold Region.wanted yielded
  rw [hg]
  simp [hj, frame_get V hd, hV]
theorem El.Has.laid {α : Type} (E : El α) (w : World) (l : List α) (t : TypeId) : E.Has (w.alloc (.cells (E.flat l).toArray t)) (w.heap.size + 1) (some ⟨w.heap.size, 0, none⟩) l := by
  refine .inr ⟨_, _, rfl, by omega, fun i x hx k u hu => ?_⟩
  rw [Nat.zero_add]
  exact Box.cell (Box.new w _ t) (by simpa using E.flat_at hx hu)
section
variable {Q : Exit → Act → World → Prop} {o : Oper} {a : Act} {w wb : World}
theorem yield_op {p : Operand} {g : Nat} {x : Op} (ho : o.op = .load 49 p) (hp : a.eval p = .pointer (some ⟨g, 0, none⟩)) (hb : OpAtB wb g x) (hS : Below wb.heap.size wb w) :
    Yield Tryd.prog Q (Below wb.heap.size wb) o a w (Kd.is x.v).holds :=
  Yield.row ho hp (Box.below hb hS (Box.lt hb)) Tryd.underlying49 rfl (by kernel_rfl) hS rfl
theorem yield_copy {x : Operand} {v : Value} (ho : o.op = .move x ∨ o.op = .assign x) (hx : a.eval x = v) (hS : Below wb.heap.size wb w) : Yield Tryd.prog Q (Below wb.heap.size wb) o a w (Kd.is v).holds := Yield.copy ho hx hS rfl
theorem yield_pick {x y z : Operand} {v : Value} (ho : o.op = .pick x y z) (hx : a.eval x = .bool true) (hy : a.eval y = v) (hS : Below wb.heap.size wb w) : Yield Tryd.prog Q (Below wb.heap.size wb) o a w (Kd.is v).holds := by
  refine Yield.run (v := v) (w' := w) ?_ (Below.refl _ _) hS rfl
  unfold execOp
  rw [ho]
  simp [hx, hy, asBool]
theorem run_ops1 (a : Op) (w : World) : (Instr.buildSlice 34 1 #[(0, a.v)]).run Tryd.prog w = .ok (.slice (some ⟨w.heap.size, 0, none⟩) 1 1) (w.alloc (.cells (opE.flat [a]).toArray 49)) := by
  unfold Op.v
  go_simp
  rfl
theorem yield_ops {l : List Op} {n : Nat} {ps : Array (Nat × Operand)} (hn : l.length = n) (ho : o.op = .buildSlice 34 n ps) (hrun : ∀ w, (Instr.buildSlice 34 n (ps.map fun (i, x) => (i, a.eval x))).run Tryd.prog w = .ok (.slice (some ⟨w.heap.size, 0, none⟩) n n) (w.alloc (.cells (opE.flat l).toArray 49))) (hS : Below wb.heap.size wb w) :
    Yield Tryd.prog Q (Below wb.heap.size wb) o a w (Kd.ops l).holds := by
  have hb : Below w.heap.size w (w.alloc (.cells (opE.flat l).toArray 49)) := (Below.refl _ w).alloc (Nat.le_refl _) _
  refine Yield.run (v := .slice (some ⟨w.heap.size, 0, none⟩) n n) (w' := w.alloc (.cells (opE.flat l).toArray 49)) ?_ hb (hS.trans (hb.mono hS.size)) ?_
  · unfold execOp
    rw [ho]
    simp [hrun]
  · subst hn
    exact ⟨_, _, rfl, Nat.le_refl _, (El.Has.laid opE w l _).wider (by simp)⟩
theorem yield_ops1 {px : Operand} {x : Op} (ho : o.op = .buildSlice 34 1 #[(0, px)]) (hx : a.eval px = x.v) (hS : Below wb.heap.size wb w) : Yield Tryd.prog Q (Below wb.heap.size wb) o a w (Kd.ops [x]).holds :=
  yield_ops rfl ho (fun w => by simp only [List.map_toArray, List.map_cons, List.map_nil, hx]; exact run_ops1 x w) hS
theorem yield_eqlI {x y : Operand} {u : TypeId} {m n : Int} (ho : o.op = .binOp .eql 3 x y u) (hx : a.eval x = .int .i64 m) (hy : a.eval y = .int .i64 n) (e : m = n) (hS : Below wb.heap.size wb w) : Yield Tryd.prog Q (Below wb.heap.size wb) o a w (Kd.is (.bool true)).holds := by
  subst e
  refine Yield.run (v := .bool true) (w' := w) ?_ (Below.refl _ _) hS rfl
  unfold execOp
  rw [ho]
  simp only [hx, hy]
  go_simp
theorem yield_lenO {x : Operand} {l : List Op} {n : Nat} {v : Value} (hn : l.length = n) (ho : o.op = .call { callee := .builtin .len, args := #[x], argTypes := #[34] }) (hx : a.eval x = v) (hl : IsOps l w v) (hS : Below wb.heap.size wb w) : Yield Tryd.prog Q (Below wb.heap.size wb) o a w (Kd.is (.int .i64 (n : Int))).holds := by
  subst hn
  obtain ⟨A, c, rfl, _, _⟩ := hl
  refine Yield.run (v := .int .i64 (l.length : Int)) (w' := w) ?_ (Below.refl _ _) hS rfl
  have e : (execOp a.eval o).run Tryd.prog w = ((Builtin.len_ #[34] o.type #[.slice A l.length c]).run Tryd.prog w).andThen fun v w' => .ok (.value v) w' := by
    unfold execOp
    rw [ho]
    simp [resolve, invoke, builtin, hx, Result.andThen]
  rw [e]
  go_simp
theorem yield_fold {p : Operand} {ts : Array TypeId} {l m : List Op} {vp : Value} (hm : opsFold l = m) (ho : o.op = .call { callee := .value (.func 22), args := #[p], argTypes := ts }) (ep : a.eval p = vp) (hp : IsOps l w vp) (hl : l.length ≤ 1000) (hR : RangesIn wb) (hS : Below wb.heap.size wb w) :
    Yield Tryd.prog Q (Below wb.heap.size wb) o a w (Kd.ops m).holds := by
  subst hm
  obtain ⟨A, c, rfl, hc, hh⟩ := hp
  refine Yield.call ho rfl Tryd.func22 (by kernel_rfl) rfl (args := #[.slice A l.length c]) (by simp [ep]) (implOpsFold_any A c l w (by omega) (hR.next hS) hh) ?_
  rintro e w' ⟨A2, c2, n2, rfl, rfl, ho2, hb⟩
  exact ⟨_, rfl, hb, hS.trans (hb.mono hS.size), A2, c2, rfl, ho2.len.2, ho2.reads⟩
theorem yield_eaOps {p q : Operand} {ts : Array TypeId} {l : List Op} {vp vq : Value} (ho : o.op = .call { callee := .value (.func 30), args := #[p, q], argTypes := ts }) (ep : a.eval p = vp) (eq : a.eval q = vq) (hp : IsOps l w vp) (hq : IsOps l w vq) (hl : l.length ≤ 1000) (hS : Below wb.heap.size wb w) :
    Yield Tryd.prog Q (Below wb.heap.size wb) o a w (Kd.is (.bool true)).holds := by
  obtain ⟨A, c, rfl, hc, hh⟩ := hp
  obtain ⟨A', c', rfl, hc', hh'⟩ := hq
  refine Yield.call ho rfl Tryd.func30 (by kernel_rfl) rfl (args := #[.slice A l.length c, .slice A' l.length c']) (by simp [ep, eq]) (eaOps_same A A' c c' l w (by omega) hh hh') ?_
  rintro e w' ⟨rfl, hb⟩
  exact ⟨_, rfl, hb, hS.trans (hb.mono hS.size), rfl⟩
end
end Go.Proofs.YtiemlakjallphabDoor
namespace Go.Proofs.YtiemlakjallphabDoor
set_option maxRecDepth 4000
open Go.RowKit

/-- An operation that takes no numbers. -/
def oK (k : Int) : Op := ⟨k, 0, 0, 0, 0⟩
theorem laidO (w : World) (l : List Op) : opE.Has (w.alloc (.cells (opE.flat l).toArray 49)) (w.heap.size + 1) (some ⟨w.heap.size, 0, none⟩) l := El.Has.laid opE w l _
set_option maxHeartbeats 8000000 in
theorem fnFoldNone_walk (A : Option Addr) (cap : Nat) (l : List UInt8) (wv : World) (hR : RangesIn wv) (_ : Has wv wv.heap.size A l) (_ : l.length ≤ cap) :
    Calls Tryd.prog 7 #[.slice A l.length cap] wv fun e w' => e = .returned (.bool true) ∧ Below wv.heap.size wv w' := by
  obtain ⟨n, hn⟩ : ∃ n, l.length = n := ⟨_, rfl⟩
  rw [hn]
  have HR := Lib.hid fun u (hb : Below wv.heap.size wv u) => hR.below hb hR.1
  clear hn hR
  by_cases hs : n ≤ 1048576
  case neg =>
    have hI : (1048576 : Int) < (n : Int) := by omega
    go_enter Tryd.func7, Tryd.ntmps7
    go_wp2_with fail
    go_ret
    exact ⟨rfl, Below.refl _ _⟩
  have hI : ¬ (1048576 : Int) < (n : Int) := by omega
  by_cases hm : n % 2 = 0
  · have hm1 : (n : Int) % 2 = 0 := by omega
    have hm2 : ((n : Int) + 1) % 2 = 1 := by omega
    have hmT1 : (n : Int).tmod 2 = 0 := by rw [Int.tmod_eq_emod_of_nonneg (by omega)]; exact hm1
    have hmT2 : ((n : Int) + 1).tmod 2 = 1 := by rw [Int.tmod_eq_emod_of_nonneg (by omega)]; exact hm2
    clear hm
    have hbx0 : OpAtB (((((wv.alloc (.cells #[.int .i64 2, .int .i64 0, .int .i64 0, .int .i64 0, .int .i64 0] 49)).alloc (.cells #[.int .i64 4, .int .i64 0, .int .i64 0, .int .i64 0, .int .i64 0] 49)).alloc (.cells #[.int .i64 4, .int .i64 0, .int .i64 0, .int .i64 0, .int .i64 0, .int .i64 4, .int .i64 0, .int .i64 0, .int .i64 0, .int .i64 0, .int .i64 4, .int .i64 0, .int .i64 0, .int .i64 0, .int .i64 0, .int .i64 4, .int .i64 0, .int .i64 0, .int .i64 0, .int .i64 0] 49)).alloc (.cells #[.int .i64 2, .int .i64 0, .int .i64 0, .int .i64 0, .int .i64 0, .int .i64 3, .int .i64 0, .int .i64 0, .int .i64 0, .int .i64 0, .int .i64 3, .int .i64 0, .int .i64 0, .int .i64 0, .int .i64 0, .int .i64 2, .int .i64 0, .int .i64 0, .int .i64 0, .int .i64 0] 49)).alloc (.cells #[.int .i64 4, .int .i64 0, .int .i64 0, .int .i64 0, .int .i64 0, .int .i64 4, .int .i64 0, .int .i64 0, .int .i64 0, .int .i64 0, .int .i64 4, .int .i64 0, .int .i64 0, .int .i64 0, .int .i64 0, .int .i64 4, .int .i64 0, .int .i64 0, .int .i64 0, .int .i64 0, .int .i64 4, .int .i64 0, .int .i64 0, .int .i64 0, .int .i64 0] 49)) wv.heap.size (oK 2) := Box.alloc (Box.alloc (Box.alloc (Box.alloc (Box.new wv _ _) _) _) _) _
    have hbt0 : OpAtB (((((wv.alloc (.cells #[.int .i64 2, .int .i64 0, .int .i64 0, .int .i64 0, .int .i64 0] 49)).alloc (.cells #[.int .i64 4, .int .i64 0, .int .i64 0, .int .i64 0, .int .i64 0] 49)).alloc (.cells #[.int .i64 4, .int .i64 0, .int .i64 0, .int .i64 0, .int .i64 0, .int .i64 4, .int .i64 0, .int .i64 0, .int .i64 0, .int .i64 0, .int .i64 4, .int .i64 0, .int .i64 0, .int .i64 0, .int .i64 0, .int .i64 4, .int .i64 0, .int .i64 0, .int .i64 0, .int .i64 0] 49)).alloc (.cells #[.int .i64 2, .int .i64 0, .int .i64 0, .int .i64 0, .int .i64 0, .int .i64 3, .int .i64 0, .int .i64 0, .int .i64 0, .int .i64 0, .int .i64 3, .int .i64 0, .int .i64 0, .int .i64 0, .int .i64 0, .int .i64 2, .int .i64 0, .int .i64 0, .int .i64 0, .int .i64 0] 49)).alloc (.cells #[.int .i64 4, .int .i64 0, .int .i64 0, .int .i64 0, .int .i64 0, .int .i64 4, .int .i64 0, .int .i64 0, .int .i64 0, .int .i64 0, .int .i64 4, .int .i64 0, .int .i64 0, .int .i64 0, .int .i64 0, .int .i64 4, .int .i64 0, .int .i64 0, .int .i64 0, .int .i64 0, .int .i64 4, .int .i64 0, .int .i64 0, .int .i64 0, .int .i64 0] 49)) (wv.heap.size + 1) (oK 4) := by
      have := Box.alloc (Box.alloc (Box.alloc (Box.new (wv.alloc (.cells #[.int .i64 2, .int .i64 0, .int .i64 0, .int .i64 0, .int .i64 0] 49)) #[.int .i64 4, .int .i64 0, .int .i64 0, .int .i64 0, .int .i64 0] 49) (.cells #[.int .i64 4, .int .i64 0, .int .i64 0, .int .i64 0, .int .i64 0, .int .i64 4, .int .i64 0, .int .i64 0, .int .i64 0, .int .i64 0, .int .i64 4, .int .i64 0, .int .i64 0, .int .i64 0, .int .i64 0, .int .i64 4, .int .i64 0, .int .i64 0, .int .i64 0, .int .i64 0] 49)) (.cells #[.int .i64 2, .int .i64 0, .int .i64 0, .int .i64 0, .int .i64 0, .int .i64 3, .int .i64 0, .int .i64 0, .int .i64 0, .int .i64 0, .int .i64 3, .int .i64 0, .int .i64 0, .int .i64 0, .int .i64 0, .int .i64 2, .int .i64 0, .int .i64 0, .int .i64 0, .int .i64 0] 49)) (.cells #[.int .i64 4, .int .i64 0, .int .i64 0, .int .i64 0, .int .i64 0, .int .i64 4, .int .i64 0, .int .i64 0, .int .i64 0, .int .i64 0, .int .i64 4, .int .i64 0, .int .i64 0, .int .i64 0, .int .i64 0, .int .i64 4, .int .i64 0, .int .i64 0, .int .i64 0, .int .i64 0, .int .i64 4, .int .i64 0, .int .i64 0, .int .i64 0, .int .i64 0] 49)
      rw [show (wv.alloc (.cells #[.int .i64 2, .int .i64 0, .int .i64 0, .int .i64 0, .int .i64 0] 49)).heap.size = wv.heap.size + 1 from by simp] at this
      exact this
    have hl50 : opE.Has (((((wv.alloc (.cells #[.int .i64 2, .int .i64 0, .int .i64 0, .int .i64 0, .int .i64 0] 49)).alloc (.cells #[.int .i64 4, .int .i64 0, .int .i64 0, .int .i64 0, .int .i64 0] 49)).alloc (.cells #[.int .i64 4, .int .i64 0, .int .i64 0, .int .i64 0, .int .i64 0, .int .i64 4, .int .i64 0, .int .i64 0, .int .i64 0, .int .i64 0, .int .i64 4, .int .i64 0, .int .i64 0, .int .i64 0, .int .i64 0, .int .i64 4, .int .i64 0, .int .i64 0, .int .i64 0, .int .i64 0] 49)).alloc (.cells #[.int .i64 2, .int .i64 0, .int .i64 0, .int .i64 0, .int .i64 0, .int .i64 3, .int .i64 0, .int .i64 0, .int .i64 0, .int .i64 0, .int .i64 3, .int .i64 0, .int .i64 0, .int .i64 0, .int .i64 0, .int .i64 2, .int .i64 0, .int .i64 0, .int .i64 0, .int .i64 0] 49)).alloc (.cells #[.int .i64 4, .int .i64 0, .int .i64 0, .int .i64 0, .int .i64 0, .int .i64 4, .int .i64 0, .int .i64 0, .int .i64 0, .int .i64 0, .int .i64 4, .int .i64 0, .int .i64 0, .int .i64 0, .int .i64 0, .int .i64 4, .int .i64 0, .int .i64 0, .int .i64 0, .int .i64 0, .int .i64 4, .int .i64 0, .int .i64 0, .int .i64 0, .int .i64 0] 49)) ((((((wv.alloc (.cells #[.int .i64 2, .int .i64 0, .int .i64 0, .int .i64 0, .int .i64 0] 49)).alloc (.cells #[.int .i64 4, .int .i64 0, .int .i64 0, .int .i64 0, .int .i64 0] 49)).alloc (.cells #[.int .i64 4, .int .i64 0, .int .i64 0, .int .i64 0, .int .i64 0, .int .i64 4, .int .i64 0, .int .i64 0, .int .i64 0, .int .i64 0, .int .i64 4, .int .i64 0, .int .i64 0, .int .i64 0, .int .i64 0, .int .i64 4, .int .i64 0, .int .i64 0, .int .i64 0, .int .i64 0] 49)).alloc (.cells #[.int .i64 2, .int .i64 0, .int .i64 0, .int .i64 0, .int .i64 0, .int .i64 3, .int .i64 0, .int .i64 0, .int .i64 0, .int .i64 0, .int .i64 3, .int .i64 0, .int .i64 0, .int .i64 0, .int .i64 0, .int .i64 2, .int .i64 0, .int .i64 0, .int .i64 0, .int .i64 0] 49)).alloc (.cells #[.int .i64 4, .int .i64 0, .int .i64 0, .int .i64 0, .int .i64 0, .int .i64 4, .int .i64 0, .int .i64 0, .int .i64 0, .int .i64 0, .int .i64 4, .int .i64 0, .int .i64 0, .int .i64 0, .int .i64 0, .int .i64 4, .int .i64 0, .int .i64 0, .int .i64 0, .int .i64 0, .int .i64 4, .int .i64 0, .int .i64 0, .int .i64 0, .int .i64 0] 49))).heap.size (some ⟨wv.heap.size + 1 + 1, 0, none⟩) [(oK 4), (oK 4), (oK 4), (oK 4)] := by
      have := ((laidO ((wv.alloc (.cells #[.int .i64 2, .int .i64 0, .int .i64 0, .int .i64 0, .int .i64 0] 49)).alloc (.cells #[.int .i64 4, .int .i64 0, .int .i64 0, .int .i64 0, .int .i64 0] 49)) [(oK 4), (oK 4), (oK 4), (oK 4)]).wider (by simp)).below (((Below.refl _ (((wv.alloc (.cells #[.int .i64 2, .int .i64 0, .int .i64 0, .int .i64 0, .int .i64 0] 49)).alloc (.cells #[.int .i64 4, .int .i64 0, .int .i64 0, .int .i64 0, .int .i64 0] 49)).alloc (.cells #[.int .i64 4, .int .i64 0, .int .i64 0, .int .i64 0, .int .i64 0, .int .i64 4, .int .i64 0, .int .i64 0, .int .i64 0, .int .i64 0, .int .i64 4, .int .i64 0, .int .i64 0, .int .i64 0, .int .i64 0, .int .i64 4, .int .i64 0, .int .i64 0, .int .i64 0, .int .i64 0] 49))).alloc (Nat.le_refl _) (.cells #[.int .i64 2, .int .i64 0, .int .i64 0, .int .i64 0, .int .i64 0, .int .i64 3, .int .i64 0, .int .i64 0, .int .i64 0, .int .i64 0, .int .i64 3, .int .i64 0, .int .i64 0, .int .i64 0, .int .i64 0, .int .i64 2, .int .i64 0, .int .i64 0, .int .i64 0, .int .i64 0] 49)).alloc (by simp) (.cells #[.int .i64 4, .int .i64 0, .int .i64 0, .int .i64 0, .int .i64 0, .int .i64 4, .int .i64 0, .int .i64 0, .int .i64 0, .int .i64 0, .int .i64 4, .int .i64 0, .int .i64 0, .int .i64 0, .int .i64 0, .int .i64 4, .int .i64 0, .int .i64 0, .int .i64 0, .int .i64 0, .int .i64 4, .int .i64 0, .int .i64 0, .int .i64 0, .int .i64 0] 49)) |>.wider (B' := ((((((wv.alloc (.cells #[.int .i64 2, .int .i64 0, .int .i64 0, .int .i64 0, .int .i64 0] 49)).alloc (.cells #[.int .i64 4, .int .i64 0, .int .i64 0, .int .i64 0, .int .i64 0] 49)).alloc (.cells #[.int .i64 4, .int .i64 0, .int .i64 0, .int .i64 0, .int .i64 0, .int .i64 4, .int .i64 0, .int .i64 0, .int .i64 0, .int .i64 0, .int .i64 4, .int .i64 0, .int .i64 0, .int .i64 0, .int .i64 0, .int .i64 4, .int .i64 0, .int .i64 0, .int .i64 0, .int .i64 0] 49)).alloc (.cells #[.int .i64 2, .int .i64 0, .int .i64 0, .int .i64 0, .int .i64 0, .int .i64 3, .int .i64 0, .int .i64 0, .int .i64 0, .int .i64 0, .int .i64 3, .int .i64 0, .int .i64 0, .int .i64 0, .int .i64 0, .int .i64 2, .int .i64 0, .int .i64 0, .int .i64 0, .int .i64 0] 49)).alloc (.cells #[.int .i64 4, .int .i64 0, .int .i64 0, .int .i64 0, .int .i64 0, .int .i64 4, .int .i64 0, .int .i64 0, .int .i64 0, .int .i64 0, .int .i64 4, .int .i64 0, .int .i64 0, .int .i64 0, .int .i64 0, .int .i64 4, .int .i64 0, .int .i64 0, .int .i64 0, .int .i64 0, .int .i64 4, .int .i64 0, .int .i64 0, .int .i64 0, .int .i64 0] 49))).heap.size) (by simp)
      rw [show (((wv.alloc (.cells #[.int .i64 2, .int .i64 0, .int .i64 0, .int .i64 0, .int .i64 0] 49)).alloc (.cells #[.int .i64 4, .int .i64 0, .int .i64 0, .int .i64 0, .int .i64 0] 49))).heap.size = wv.heap.size + 1 + 1 from by simp] at this
      exact this
    have hl60 : opE.Has (((((wv.alloc (.cells #[.int .i64 2, .int .i64 0, .int .i64 0, .int .i64 0, .int .i64 0] 49)).alloc (.cells #[.int .i64 4, .int .i64 0, .int .i64 0, .int .i64 0, .int .i64 0] 49)).alloc (.cells #[.int .i64 4, .int .i64 0, .int .i64 0, .int .i64 0, .int .i64 0, .int .i64 4, .int .i64 0, .int .i64 0, .int .i64 0, .int .i64 0, .int .i64 4, .int .i64 0, .int .i64 0, .int .i64 0, .int .i64 0, .int .i64 4, .int .i64 0, .int .i64 0, .int .i64 0, .int .i64 0] 49)).alloc (.cells #[.int .i64 2, .int .i64 0, .int .i64 0, .int .i64 0, .int .i64 0, .int .i64 3, .int .i64 0, .int .i64 0, .int .i64 0, .int .i64 0, .int .i64 3, .int .i64 0, .int .i64 0, .int .i64 0, .int .i64 0, .int .i64 2, .int .i64 0, .int .i64 0, .int .i64 0, .int .i64 0] 49)).alloc (.cells #[.int .i64 4, .int .i64 0, .int .i64 0, .int .i64 0, .int .i64 0, .int .i64 4, .int .i64 0, .int .i64 0, .int .i64 0, .int .i64 0, .int .i64 4, .int .i64 0, .int .i64 0, .int .i64 0, .int .i64 0, .int .i64 4, .int .i64 0, .int .i64 0, .int .i64 0, .int .i64 0, .int .i64 4, .int .i64 0, .int .i64 0, .int .i64 0, .int .i64 0] 49)) ((((((wv.alloc (.cells #[.int .i64 2, .int .i64 0, .int .i64 0, .int .i64 0, .int .i64 0] 49)).alloc (.cells #[.int .i64 4, .int .i64 0, .int .i64 0, .int .i64 0, .int .i64 0] 49)).alloc (.cells #[.int .i64 4, .int .i64 0, .int .i64 0, .int .i64 0, .int .i64 0, .int .i64 4, .int .i64 0, .int .i64 0, .int .i64 0, .int .i64 0, .int .i64 4, .int .i64 0, .int .i64 0, .int .i64 0, .int .i64 0, .int .i64 4, .int .i64 0, .int .i64 0, .int .i64 0, .int .i64 0] 49)).alloc (.cells #[.int .i64 2, .int .i64 0, .int .i64 0, .int .i64 0, .int .i64 0, .int .i64 3, .int .i64 0, .int .i64 0, .int .i64 0, .int .i64 0, .int .i64 3, .int .i64 0, .int .i64 0, .int .i64 0, .int .i64 0, .int .i64 2, .int .i64 0, .int .i64 0, .int .i64 0, .int .i64 0] 49)).alloc (.cells #[.int .i64 4, .int .i64 0, .int .i64 0, .int .i64 0, .int .i64 0, .int .i64 4, .int .i64 0, .int .i64 0, .int .i64 0, .int .i64 0, .int .i64 4, .int .i64 0, .int .i64 0, .int .i64 0, .int .i64 0, .int .i64 4, .int .i64 0, .int .i64 0, .int .i64 0, .int .i64 0, .int .i64 4, .int .i64 0, .int .i64 0, .int .i64 0, .int .i64 0] 49))).heap.size (some ⟨wv.heap.size + 1 + 1 + 1, 0, none⟩) [(oK 2), (oK 3), (oK 3), (oK 2)] := by
      have := ((laidO (((wv.alloc (.cells #[.int .i64 2, .int .i64 0, .int .i64 0, .int .i64 0, .int .i64 0] 49)).alloc (.cells #[.int .i64 4, .int .i64 0, .int .i64 0, .int .i64 0, .int .i64 0] 49)).alloc (.cells #[.int .i64 4, .int .i64 0, .int .i64 0, .int .i64 0, .int .i64 0, .int .i64 4, .int .i64 0, .int .i64 0, .int .i64 0, .int .i64 0, .int .i64 4, .int .i64 0, .int .i64 0, .int .i64 0, .int .i64 0, .int .i64 4, .int .i64 0, .int .i64 0, .int .i64 0, .int .i64 0] 49)) [(oK 2), (oK 3), (oK 3), (oK 2)]).wider (by simp)).below ((Below.refl _ ((((wv.alloc (.cells #[.int .i64 2, .int .i64 0, .int .i64 0, .int .i64 0, .int .i64 0] 49)).alloc (.cells #[.int .i64 4, .int .i64 0, .int .i64 0, .int .i64 0, .int .i64 0] 49)).alloc (.cells #[.int .i64 4, .int .i64 0, .int .i64 0, .int .i64 0, .int .i64 0, .int .i64 4, .int .i64 0, .int .i64 0, .int .i64 0, .int .i64 0, .int .i64 4, .int .i64 0, .int .i64 0, .int .i64 0, .int .i64 0, .int .i64 4, .int .i64 0, .int .i64 0, .int .i64 0, .int .i64 0] 49)).alloc (.cells #[.int .i64 2, .int .i64 0, .int .i64 0, .int .i64 0, .int .i64 0, .int .i64 3, .int .i64 0, .int .i64 0, .int .i64 0, .int .i64 0, .int .i64 3, .int .i64 0, .int .i64 0, .int .i64 0, .int .i64 0, .int .i64 2, .int .i64 0, .int .i64 0, .int .i64 0, .int .i64 0] 49))).alloc (Nat.le_refl _) (.cells #[.int .i64 4, .int .i64 0, .int .i64 0, .int .i64 0, .int .i64 0, .int .i64 4, .int .i64 0, .int .i64 0, .int .i64 0, .int .i64 0, .int .i64 4, .int .i64 0, .int .i64 0, .int .i64 0, .int .i64 0, .int .i64 4, .int .i64 0, .int .i64 0, .int .i64 0, .int .i64 0, .int .i64 4, .int .i64 0, .int .i64 0, .int .i64 0, .int .i64 0] 49)) |>.wider (B' := ((((((wv.alloc (.cells #[.int .i64 2, .int .i64 0, .int .i64 0, .int .i64 0, .int .i64 0] 49)).alloc (.cells #[.int .i64 4, .int .i64 0, .int .i64 0, .int .i64 0, .int .i64 0] 49)).alloc (.cells #[.int .i64 4, .int .i64 0, .int .i64 0, .int .i64 0, .int .i64 0, .int .i64 4, .int .i64 0, .int .i64 0, .int .i64 0, .int .i64 0, .int .i64 4, .int .i64 0, .int .i64 0, .int .i64 0, .int .i64 0, .int .i64 4, .int .i64 0, .int .i64 0, .int .i64 0, .int .i64 0] 49)).alloc (.cells #[.int .i64 2, .int .i64 0, .int .i64 0, .int .i64 0, .int .i64 0, .int .i64 3, .int .i64 0, .int .i64 0, .int .i64 0, .int .i64 0, .int .i64 3, .int .i64 0, .int .i64 0, .int .i64 0, .int .i64 0, .int .i64 2, .int .i64 0, .int .i64 0, .int .i64 0, .int .i64 0] 49)).alloc (.cells #[.int .i64 4, .int .i64 0, .int .i64 0, .int .i64 0, .int .i64 0, .int .i64 4, .int .i64 0, .int .i64 0, .int .i64 0, .int .i64 0, .int .i64 4, .int .i64 0, .int .i64 0, .int .i64 0, .int .i64 0, .int .i64 4, .int .i64 0, .int .i64 0, .int .i64 0, .int .i64 0, .int .i64 4, .int .i64 0, .int .i64 0, .int .i64 0, .int .i64 0] 49))).heap.size) (by simp)
      rw [show ((((wv.alloc (.cells #[.int .i64 2, .int .i64 0, .int .i64 0, .int .i64 0, .int .i64 0] 49)).alloc (.cells #[.int .i64 4, .int .i64 0, .int .i64 0, .int .i64 0, .int .i64 0] 49)).alloc (.cells #[.int .i64 4, .int .i64 0, .int .i64 0, .int .i64 0, .int .i64 0, .int .i64 4, .int .i64 0, .int .i64 0, .int .i64 0, .int .i64 0, .int .i64 4, .int .i64 0, .int .i64 0, .int .i64 0, .int .i64 0, .int .i64 4, .int .i64 0, .int .i64 0, .int .i64 0, .int .i64 0] 49))).heap.size = wv.heap.size + 1 + 1 + 1 from by simp] at this
      exact this
    have hl70 : opE.Has (((((wv.alloc (.cells #[.int .i64 2, .int .i64 0, .int .i64 0, .int .i64 0, .int .i64 0] 49)).alloc (.cells #[.int .i64 4, .int .i64 0, .int .i64 0, .int .i64 0, .int .i64 0] 49)).alloc (.cells #[.int .i64 4, .int .i64 0, .int .i64 0, .int .i64 0, .int .i64 0, .int .i64 4, .int .i64 0, .int .i64 0, .int .i64 0, .int .i64 0, .int .i64 4, .int .i64 0, .int .i64 0, .int .i64 0, .int .i64 0, .int .i64 4, .int .i64 0, .int .i64 0, .int .i64 0, .int .i64 0] 49)).alloc (.cells #[.int .i64 2, .int .i64 0, .int .i64 0, .int .i64 0, .int .i64 0, .int .i64 3, .int .i64 0, .int .i64 0, .int .i64 0, .int .i64 0, .int .i64 3, .int .i64 0, .int .i64 0, .int .i64 0, .int .i64 0, .int .i64 2, .int .i64 0, .int .i64 0, .int .i64 0, .int .i64 0] 49)).alloc (.cells #[.int .i64 4, .int .i64 0, .int .i64 0, .int .i64 0, .int .i64 0, .int .i64 4, .int .i64 0, .int .i64 0, .int .i64 0, .int .i64 0, .int .i64 4, .int .i64 0, .int .i64 0, .int .i64 0, .int .i64 0, .int .i64 4, .int .i64 0, .int .i64 0, .int .i64 0, .int .i64 0, .int .i64 4, .int .i64 0, .int .i64 0, .int .i64 0, .int .i64 0] 49)) ((((((wv.alloc (.cells #[.int .i64 2, .int .i64 0, .int .i64 0, .int .i64 0, .int .i64 0] 49)).alloc (.cells #[.int .i64 4, .int .i64 0, .int .i64 0, .int .i64 0, .int .i64 0] 49)).alloc (.cells #[.int .i64 4, .int .i64 0, .int .i64 0, .int .i64 0, .int .i64 0, .int .i64 4, .int .i64 0, .int .i64 0, .int .i64 0, .int .i64 0, .int .i64 4, .int .i64 0, .int .i64 0, .int .i64 0, .int .i64 0, .int .i64 4, .int .i64 0, .int .i64 0, .int .i64 0, .int .i64 0] 49)).alloc (.cells #[.int .i64 2, .int .i64 0, .int .i64 0, .int .i64 0, .int .i64 0, .int .i64 3, .int .i64 0, .int .i64 0, .int .i64 0, .int .i64 0, .int .i64 3, .int .i64 0, .int .i64 0, .int .i64 0, .int .i64 0, .int .i64 2, .int .i64 0, .int .i64 0, .int .i64 0, .int .i64 0] 49)).alloc (.cells #[.int .i64 4, .int .i64 0, .int .i64 0, .int .i64 0, .int .i64 0, .int .i64 4, .int .i64 0, .int .i64 0, .int .i64 0, .int .i64 0, .int .i64 4, .int .i64 0, .int .i64 0, .int .i64 0, .int .i64 0, .int .i64 4, .int .i64 0, .int .i64 0, .int .i64 0, .int .i64 0, .int .i64 4, .int .i64 0, .int .i64 0, .int .i64 0, .int .i64 0] 49))).heap.size (some ⟨wv.heap.size + 1 + 1 + 1 + 1, 0, none⟩) [(oK 4), (oK 4), (oK 4), (oK 4), (oK 4)] := by
      have := (laidO ((((wv.alloc (.cells #[.int .i64 2, .int .i64 0, .int .i64 0, .int .i64 0, .int .i64 0] 49)).alloc (.cells #[.int .i64 4, .int .i64 0, .int .i64 0, .int .i64 0, .int .i64 0] 49)).alloc (.cells #[.int .i64 4, .int .i64 0, .int .i64 0, .int .i64 0, .int .i64 0, .int .i64 4, .int .i64 0, .int .i64 0, .int .i64 0, .int .i64 0, .int .i64 4, .int .i64 0, .int .i64 0, .int .i64 0, .int .i64 0, .int .i64 4, .int .i64 0, .int .i64 0, .int .i64 0, .int .i64 0] 49)).alloc (.cells #[.int .i64 2, .int .i64 0, .int .i64 0, .int .i64 0, .int .i64 0, .int .i64 3, .int .i64 0, .int .i64 0, .int .i64 0, .int .i64 0, .int .i64 3, .int .i64 0, .int .i64 0, .int .i64 0, .int .i64 0, .int .i64 2, .int .i64 0, .int .i64 0, .int .i64 0, .int .i64 0] 49)) [(oK 4), (oK 4), (oK 4), (oK 4), (oK 4)]).wider (B' := ((((((wv.alloc (.cells #[.int .i64 2, .int .i64 0, .int .i64 0, .int .i64 0, .int .i64 0] 49)).alloc (.cells #[.int .i64 4, .int .i64 0, .int .i64 0, .int .i64 0, .int .i64 0] 49)).alloc (.cells #[.int .i64 4, .int .i64 0, .int .i64 0, .int .i64 0, .int .i64 0, .int .i64 4, .int .i64 0, .int .i64 0, .int .i64 0, .int .i64 0, .int .i64 4, .int .i64 0, .int .i64 0, .int .i64 0, .int .i64 0, .int .i64 4, .int .i64 0, .int .i64 0, .int .i64 0, .int .i64 0] 49)).alloc (.cells #[.int .i64 2, .int .i64 0, .int .i64 0, .int .i64 0, .int .i64 0, .int .i64 3, .int .i64 0, .int .i64 0, .int .i64 0, .int .i64 0, .int .i64 3, .int .i64 0, .int .i64 0, .int .i64 0, .int .i64 0, .int .i64 2, .int .i64 0, .int .i64 0, .int .i64 0, .int .i64 0] 49)).alloc (.cells #[.int .i64 4, .int .i64 0, .int .i64 0, .int .i64 0, .int .i64 0, .int .i64 4, .int .i64 0, .int .i64 0, .int .i64 0, .int .i64 0, .int .i64 4, .int .i64 0, .int .i64 0, .int .i64 0, .int .i64 0, .int .i64 4, .int .i64 0, .int .i64 0, .int .i64 0, .int .i64 0, .int .i64 4, .int .i64 0, .int .i64 0, .int .i64 0, .int .i64 0] 49))).heap.size) (by simp)
      rw [show (((((wv.alloc (.cells #[.int .i64 2, .int .i64 0, .int .i64 0, .int .i64 0, .int .i64 0] 49)).alloc (.cells #[.int .i64 4, .int .i64 0, .int .i64 0, .int .i64 0, .int .i64 0] 49)).alloc (.cells #[.int .i64 4, .int .i64 0, .int .i64 0, .int .i64 0, .int .i64 0, .int .i64 4, .int .i64 0, .int .i64 0, .int .i64 0, .int .i64 0, .int .i64 4, .int .i64 0, .int .i64 0, .int .i64 0, .int .i64 0, .int .i64 4, .int .i64 0, .int .i64 0, .int .i64 0, .int .i64 0] 49)).alloc (.cells #[.int .i64 2, .int .i64 0, .int .i64 0, .int .i64 0, .int .i64 0, .int .i64 3, .int .i64 0, .int .i64 0, .int .i64 0, .int .i64 0, .int .i64 3, .int .i64 0, .int .i64 0, .int .i64 0, .int .i64 0, .int .i64 2, .int .i64 0, .int .i64 0, .int .i64 0, .int .i64 0] 49))).heap.size = wv.heap.size + 1 + 1 + 1 + 1 from by simp] at this
      exact this
    have hB3 : Below wv.heap.size wv (((((wv.alloc (.cells #[.int .i64 2, .int .i64 0, .int .i64 0, .int .i64 0, .int .i64 0] 49)).alloc (.cells #[.int .i64 4, .int .i64 0, .int .i64 0, .int .i64 0, .int .i64 0] 49)).alloc (.cells #[.int .i64 4, .int .i64 0, .int .i64 0, .int .i64 0, .int .i64 0, .int .i64 4, .int .i64 0, .int .i64 0, .int .i64 0, .int .i64 0, .int .i64 4, .int .i64 0, .int .i64 0, .int .i64 0, .int .i64 0, .int .i64 4, .int .i64 0, .int .i64 0, .int .i64 0, .int .i64 0] 49)).alloc (.cells #[.int .i64 2, .int .i64 0, .int .i64 0, .int .i64 0, .int .i64 0, .int .i64 3, .int .i64 0, .int .i64 0, .int .i64 0, .int .i64 0, .int .i64 3, .int .i64 0, .int .i64 0, .int .i64 0, .int .i64 0, .int .i64 2, .int .i64 0, .int .i64 0, .int .i64 0, .int .i64 0] 49)).alloc (.cells #[.int .i64 4, .int .i64 0, .int .i64 0, .int .i64 0, .int .i64 0, .int .i64 4, .int .i64 0, .int .i64 0, .int .i64 0, .int .i64 0, .int .i64 4, .int .i64 0, .int .i64 0, .int .i64 0, .int .i64 0, .int .i64 4, .int .i64 0, .int .i64 0, .int .i64 0, .int .i64 0, .int .i64 4, .int .i64 0, .int .i64 0, .int .i64 0, .int .i64 0] 49)) := (((((Below.refl _ wv).alloc (Nat.le_refl _) _).alloc (by simp) _).alloc (by simp <;> omega) _).alloc (by simp <;> omega) _).alloc (by simp <;> omega) _
    obtain ⟨wb, hwb⟩ : ∃ wb, ((((((wv.alloc (.cells #[.int .i64 2, .int .i64 0, .int .i64 0, .int .i64 0, .int .i64 0] 49)).alloc (.cells #[.int .i64 4, .int .i64 0, .int .i64 0, .int .i64 0, .int .i64 0] 49)).alloc (.cells #[.int .i64 4, .int .i64 0, .int .i64 0, .int .i64 0, .int .i64 0, .int .i64 4, .int .i64 0, .int .i64 0, .int .i64 0, .int .i64 0, .int .i64 4, .int .i64 0, .int .i64 0, .int .i64 0, .int .i64 0, .int .i64 4, .int .i64 0, .int .i64 0, .int .i64 0, .int .i64 0] 49)).alloc (.cells #[.int .i64 2, .int .i64 0, .int .i64 0, .int .i64 0, .int .i64 0, .int .i64 3, .int .i64 0, .int .i64 0, .int .i64 0, .int .i64 0, .int .i64 3, .int .i64 0, .int .i64 0, .int .i64 0, .int .i64 0, .int .i64 2, .int .i64 0, .int .i64 0, .int .i64 0, .int .i64 0] 49)).alloc (.cells #[.int .i64 4, .int .i64 0, .int .i64 0, .int .i64 0, .int .i64 0, .int .i64 4, .int .i64 0, .int .i64 0, .int .i64 0, .int .i64 0, .int .i64 4, .int .i64 0, .int .i64 0, .int .i64 0, .int .i64 0, .int .i64 4, .int .i64 0, .int .i64 0, .int .i64 0, .int .i64 0, .int .i64 4, .int .i64 0, .int .i64 0, .int .i64 0, .int .i64 0] 49))).drew = wb := ⟨_, rfl⟩
    have HX : Hid (OpAtB wb wv.heap.size (oK 2) ∧ OpAtB wb (wv.heap.size + 1) (oK 4) ∧ RangesIn wb ∧ Below wv.heap.size wv wb ∧ (∀ u, Below wb.heap.size wb u → IsOps [(oK 4), (oK 4), (oK 4), (oK 4)] u (.slice (some ⟨wv.heap.size + 1 + 1, 0, none⟩) 4 4)) ∧ (∀ u, Below wb.heap.size wb u → IsOps [(oK 2), (oK 3), (oK 3), (oK 2)] u (.slice (some ⟨wv.heap.size + 1 + 1 + 1, 0, none⟩) 4 4)) ∧ (∀ u, Below wb.heap.size wb u → IsOps [(oK 4), (oK 4), (oK 4), (oK 4), (oK 4)] u (.slice (some ⟨wv.heap.size + 1 + 1 + 1 + 1, 0, none⟩) 5 5))) := Lib.hid (by
      subst hwb
      exact ⟨Box.drew hbx0, Box.drew hbt0, HR.out _ (below_draws hB3 1), below_draws hB3 1, fun u hb => ⟨_, _, rfl, Nat.le_refl _, ((hl50.drewN 1).below hb).wider hb.size⟩, fun u hb => ⟨_, _, rfl, Nat.le_refl _, ((hl60.drewN 1).below hb).wider hb.size⟩, fun u hb => ⟨_, _, rfl, Nat.le_refl _, ((hl70.drewN 1).below hb).wider hb.size⟩⟩)
    have HWB := Lib.hid hwb
    have hf4 : opsFold [(oK 4), (oK 4), (oK 4), (oK 4)] = [] := by decide
    have hf5 : opsFold [(oK 4), (oK 4), (oK 4), (oK 4), (oK 4)] = [(oK 4)] := by decide
    have hfb : opsFold [(oK 2), (oK 3), (oK 3), (oK 2)] = [] := by decide
    have hfx : opsFold [(oK 2)] = [(oK 2)] := by decide
    have HFS := Lib.hid (And.intro hf4 (And.intro hf5 (And.intro hfb hfx)))
    clear hbx0 hbt0 hl50 hl60 hl70 hB3 hwb hf4 hf5 hfb hfx
    go_enter Tryd.func7, Tryd.ntmps7
    go_wp2_with fail
    obtain ⟨hbx, hbt, hRb, hBw, hl5, hl6, hl7⟩ := HX.out
    obtain ⟨hf4, hf5, hfb, hfx⟩ := HFS.out
    have hwb := HWB.out
    subst hwb
    refine wp_region_kd 68 [43, 44, 45, 46, 47, 48, 49, 50, 51, 52, 53, 54, 55, 56, 57, 58, 59, 60, 61, 62, 63, 64, 65, 66, 67, 2] [(43, .is (.slice (some ⟨wv.heap.size + 1 + 1, 0, none⟩) 4 4)), (44, .ops []), (45, .is (.int .i64 ((0 : Nat) : Int))), (46, .is (.bool true)), (47, .is (.bool true)), (48, .is (.slice (some ⟨wv.heap.size + 1 + 1 + 1, 0, none⟩) 4 4)), (49, .ops []), (50, .is (.int .i64 ((0 : Nat) : Int))), (51, .is (.bool true)), (52, .is (.bool true)), (53, .is (.bool true)), (54, .is (.slice (some ⟨wv.heap.size + 1 + 1 + 1 + 1, 0, none⟩) 5 5)), (55, .ops [(oK 4)]), (56, .is ((oK 4).v)), (57, .ops [(oK 4)]), (58, .is (.bool true)), (59, .is (.bool true)), (60, .is (.bool true)), (61, .is ((oK 2).v)), (62, .ops [(oK 2)]), (63, .ops [(oK 2)]), (64, .is ((oK 2).v)), (65, .ops [(oK 2)]), (66, .is (.bool true)), (67, .is (.bool true)), (2, .is (.bool true))] (Below ((((((wv.alloc (.cells #[.int .i64 2, .int .i64 0, .int .i64 0, .int .i64 0, .int .i64 0] 49)).alloc (.cells #[.int .i64 4, .int .i64 0, .int .i64 0, .int .i64 0, .int .i64 0] 49)).alloc (.cells #[.int .i64 4, .int .i64 0, .int .i64 0, .int .i64 0, .int .i64 0, .int .i64 4, .int .i64 0, .int .i64 0, .int .i64 0, .int .i64 0, .int .i64 4, .int .i64 0, .int .i64 0, .int .i64 0, .int .i64 0, .int .i64 4, .int .i64 0, .int .i64 0, .int .i64 0, .int .i64 0] 49)).alloc (.cells #[.int .i64 2, .int .i64 0, .int .i64 0, .int .i64 0, .int .i64 0, .int .i64 3, .int .i64 0, .int .i64 0, .int .i64 0, .int .i64 0, .int .i64 3, .int .i64 0, .int .i64 0, .int .i64 0, .int .i64 0, .int .i64 2, .int .i64 0, .int .i64 0, .int .i64 0, .int .i64 0] 49)).alloc (.cells #[.int .i64 4, .int .i64 0, .int .i64 0, .int .i64 0, .int .i64 0, .int .i64 4, .int .i64 0, .int .i64 0, .int .i64 0, .int .i64 0, .int .i64 4, .int .i64 0, .int .i64 0, .int .i64 0, .int .i64 0, .int .i64 4, .int .i64 0, .int .i64 0, .int .i64 0, .int .i64 0, .int .i64 4, .int .i64 0, .int .i64 0, .int .i64 0, .int .i64 0] 49))).drew.heap.size ((((((wv.alloc (.cells #[.int .i64 2, .int .i64 0, .int .i64 0, .int .i64 0, .int .i64 0] 49)).alloc (.cells #[.int .i64 4, .int .i64 0, .int .i64 0, .int .i64 0, .int .i64 0] 49)).alloc (.cells #[.int .i64 4, .int .i64 0, .int .i64 0, .int .i64 0, .int .i64 0, .int .i64 4, .int .i64 0, .int .i64 0, .int .i64 0, .int .i64 0, .int .i64 4, .int .i64 0, .int .i64 0, .int .i64 0, .int .i64 0, .int .i64 4, .int .i64 0, .int .i64 0, .int .i64 0, .int .i64 0] 49)).alloc (.cells #[.int .i64 2, .int .i64 0, .int .i64 0, .int .i64 0, .int .i64 0, .int .i64 3, .int .i64 0, .int .i64 0, .int .i64 0, .int .i64 0, .int .i64 3, .int .i64 0, .int .i64 0, .int .i64 0, .int .i64 0, .int .i64 2, .int .i64 0, .int .i64 0, .int .i64 0, .int .i64 0] 49)).alloc (.cells #[.int .i64 4, .int .i64 0, .int .i64 0, .int .i64 0, .int .i64 0, .int .i64 4, .int .i64 0, .int .i64 0, .int .i64 0, .int .i64 0, .int .i64 4, .int .i64 0, .int .i64 0, .int .i64 0, .int .i64 0, .int .i64 4, .int .i64 0, .int .i64 0, .int .i64 0, .int .i64 0, .int .i64 4, .int .i64 0, .int .i64 0, .int .i64 0, .int .i64 0] 49))).drew) (by kernel_rfl) (by kernel_rfl) rfl rfl (by decide) (by decide) rfl rfl (Below.refl _ _) ?_ ?_
    · intro i o V w ho hS hV hd
      have hi : i < 26 := (Array.getElem?_eq_some_iff.1 ho).1
      have hi2 : i = 0 ∨ i = 1 ∨ i = 2 ∨ i = 3 ∨ i = 4 ∨ i = 5 ∨ i = 6 ∨ i = 7 ∨ i = 8 ∨ i = 9 ∨ i = 10 ∨ i = 11 ∨ i = 12 ∨ i = 13 ∨ i = 14 ∨ i = 15 ∨ i = 16 ∨ i = 17 ∨ i = 18 ∨ i = 19 ∨ i = 20 ∨ i = 21 ∨ i = 22 ∨ i = 23 ∨ i = 24 ∨ i = 25 := by omega
      clear hi
      rcases hi2 with rfl | rfl | rfl | rfl | rfl | rfl | rfl | rfl | rfl | rfl | rfl | rfl | rfl | rfl | rfl | rfl | rfl | rfl | rfl | rfl | rfl | rfl | rfl | rfl | rfl | rfl
      · obtain rfl : _ = o := Option.some.inj ((show _ = some _ from rfl).symm.trans ho)
        have x5 : V 5 = .slice (some ⟨wv.heap.size + 1 + 1, 0, none⟩) 4 4 := (hV 5 (by simp)).trans rfl
        refine ⟨fun _ => ?_, fun hw => absurd (show true = false from hw) (by decide)⟩
        · exact yield_copy (.inl rfl) ((frame_eval V (by decide)).trans x5) hS
      · obtain rfl : _ = o := Option.some.inj ((show _ = some _ from rfl).symm.trans ho)
        have d0 : V 43 = .slice (some ⟨wv.heap.size + 1 + 1, 0, none⟩) 4 4 := hd ⟨0, .data⟩ (by simp) rfl
        refine ⟨fun _ => ?_, fun hw => absurd (show true = false from hw) (by decide)⟩
        · exact yield_fold hf4 rfl ((frame_eval V (by decide)).trans d0) (hl5 _ hS) (by simp) hRb hS
      · obtain rfl : _ = o := Option.some.inj ((show _ = some _ from rfl).symm.trans ho)
        have d1 : IsOps [] w (V 44) := hd ⟨1, .data⟩ (by simp) rfl
        refine ⟨fun _ => ?_, fun hw => absurd (show true = false from hw) (by decide)⟩
        · exact yield_lenO rfl rfl (frame_eval V (by decide)) d1 hS
      · obtain rfl : _ = o := Option.some.inj ((show _ = some _ from rfl).symm.trans ho)
        have d2 : V 45 = .int .i64 ((0 : Nat) : Int) := hd ⟨2, .data⟩ (by simp) rfl
        refine ⟨fun _ => ?_, fun hw => absurd (show true = false from hw) (by decide)⟩
        · exact yield_eqlI rfl ((frame_eval V (by decide)).trans d2) rfl rfl hS
      · obtain rfl : _ = o := Option.some.inj ((show _ = some _ from rfl).symm.trans ho)
        have d3 : V 46 = .bool true := hd ⟨3, .data⟩ (by simp) rfl
        refine ⟨fun _ => ?_, fun hw => absurd (show true = false from hw) (by decide)⟩
        · exact yield_copy (.inl rfl) ((frame_eval V (by decide)).trans d3) hS
      · obtain rfl : _ = o := Option.some.inj ((show _ = some _ from rfl).symm.trans ho)
        have x6 : V 6 = .slice (some ⟨wv.heap.size + 1 + 1 + 1, 0, none⟩) 4 4 := (hV 6 (by simp)).trans rfl
        have gd : V 47 = .bool true := hd ⟨4, .guard⟩ (by simp) rfl
        refine ⟨fun _ => ?_, fun hw => absurd ((wanted_of rfl rfl (by decide) gd).symm.trans hw) (by decide)⟩
        · exact yield_copy (.inl rfl) ((frame_eval V (by decide)).trans x6) hS
      · obtain rfl : _ = o := Option.some.inj ((show _ = some _ from rfl).symm.trans ho)
        have d5 : V 48 = .slice (some ⟨wv.heap.size + 1 + 1 + 1, 0, none⟩) 4 4 := hd ⟨5, .data⟩ (by simp) rfl
        have gd : V 47 = .bool true := hd ⟨4, .guard⟩ (by simp) rfl
        refine ⟨fun _ => ?_, fun hw => absurd ((wanted_of rfl rfl (by decide) gd).symm.trans hw) (by decide)⟩
        · exact yield_fold hfb rfl ((frame_eval V (by decide)).trans d5) (hl6 _ hS) (by simp) hRb hS
      · obtain rfl : _ = o := Option.some.inj ((show _ = some _ from rfl).symm.trans ho)
        have d6 : IsOps [] w (V 49) := hd ⟨6, .data⟩ (by simp) rfl
        have gd : V 47 = .bool true := hd ⟨4, .guard⟩ (by simp) rfl
        refine ⟨fun _ => ?_, fun hw => absurd ((wanted_of rfl rfl (by decide) gd).symm.trans hw) (by decide)⟩
        · exact yield_lenO rfl rfl (frame_eval V (by decide)) d6 hS
      · obtain rfl : _ = o := Option.some.inj ((show _ = some _ from rfl).symm.trans ho)
        have d7 : V 50 = .int .i64 ((0 : Nat) : Int) := hd ⟨7, .data⟩ (by simp) rfl
        have gd : V 47 = .bool true := hd ⟨4, .guard⟩ (by simp) rfl
        refine ⟨fun _ => ?_, fun hw => absurd ((wanted_of rfl rfl (by decide) gd).symm.trans hw) (by decide)⟩
        · exact yield_eqlI rfl ((frame_eval V (by decide)).trans d7) rfl rfl hS
      · obtain rfl : _ = o := Option.some.inj ((show _ = some _ from rfl).symm.trans ho)
        have d4 : V 47 = .bool true := hd ⟨4, .data⟩ (by simp) rfl
        have d8 : V 51 = .bool true := hd ⟨8, .data⟩ (by simp) rfl
        refine ⟨fun _ => ?_, fun hw => absurd (show true = false from hw) (by decide)⟩
        · exact yield_pick rfl ((frame_eval V (by decide)).trans d4) ((frame_eval V (by decide)).trans d8) hS
      · obtain rfl : _ = o := Option.some.inj ((show _ = some _ from rfl).symm.trans ho)
        have d9 : V 52 = .bool true := hd ⟨9, .data⟩ (by simp) rfl
        refine ⟨fun _ => ?_, fun hw => absurd (show true = false from hw) (by decide)⟩
        · exact yield_copy (.inl rfl) ((frame_eval V (by decide)).trans d9) hS
      · obtain rfl : _ = o := Option.some.inj ((show _ = some _ from rfl).symm.trans ho)
        have x7 : V 7 = .slice (some ⟨wv.heap.size + 1 + 1 + 1 + 1, 0, none⟩) 5 5 := (hV 7 (by simp)).trans rfl
        have gd : V 53 = .bool true := hd ⟨10, .guard⟩ (by simp) rfl
        refine ⟨fun _ => ?_, fun hw => absurd ((wanted_of rfl rfl (by decide) gd).symm.trans hw) (by decide)⟩
        · exact yield_copy (.inl rfl) ((frame_eval V (by decide)).trans x7) hS
      · obtain rfl : _ = o := Option.some.inj ((show _ = some _ from rfl).symm.trans ho)
        have d11 : V 54 = .slice (some ⟨wv.heap.size + 1 + 1 + 1 + 1, 0, none⟩) 5 5 := hd ⟨11, .data⟩ (by simp) rfl
        have gd : V 53 = .bool true := hd ⟨10, .guard⟩ (by simp) rfl
        refine ⟨fun _ => ?_, fun hw => absurd ((wanted_of rfl rfl (by decide) gd).symm.trans hw) (by decide)⟩
        · exact yield_fold hf5 rfl ((frame_eval V (by decide)).trans d11) (hl7 _ hS) (by simp) hRb hS
      · obtain rfl : _ = o := Option.some.inj ((show _ = some _ from rfl).symm.trans ho)
        have x4 : V 4 = .pointer (some ⟨wv.heap.size + 1, 0, none⟩) := (hV 4 (by simp)).trans rfl
        have gd : V 53 = .bool true := hd ⟨10, .guard⟩ (by simp) rfl
        refine ⟨fun _ => ?_, fun hw => absurd ((wanted_of rfl rfl (by decide) gd).symm.trans hw) (by decide)⟩
        · exact yield_op rfl ((frame_eval V (by decide)).trans x4) hbt hS
      · obtain rfl : _ = o := Option.some.inj ((show _ = some _ from rfl).symm.trans ho)
        have d13 : V 56 = (oK 4).v := hd ⟨13, .data⟩ (by simp) rfl
        have gd : V 53 = .bool true := hd ⟨10, .guard⟩ (by simp) rfl
        refine ⟨fun _ => ?_, fun hw => absurd ((wanted_of rfl rfl (by decide) gd).symm.trans hw) (by decide)⟩
        · exact yield_ops1 rfl ((frame_eval V (by decide)).trans d13) hS
      · obtain rfl : _ = o := Option.some.inj ((show _ = some _ from rfl).symm.trans ho)
        have d12 : IsOps [(oK 4)] w (V 55) := hd ⟨12, .data⟩ (by simp) rfl
        have d14 : IsOps [(oK 4)] w (V 57) := hd ⟨14, .data⟩ (by simp) rfl
        have gd : V 53 = .bool true := hd ⟨10, .guard⟩ (by simp) rfl
        refine ⟨fun _ => ?_, fun hw => absurd ((wanted_of rfl rfl (by decide) gd).symm.trans hw) (by decide)⟩
        · exact yield_eaOps rfl (frame_eval V (by decide)) (frame_eval V (by decide)) d12 d14 (by simp) hS
      · obtain rfl : _ = o := Option.some.inj ((show _ = some _ from rfl).symm.trans ho)
        have d10 : V 53 = .bool true := hd ⟨10, .data⟩ (by simp) rfl
        have d15 : V 58 = .bool true := hd ⟨15, .data⟩ (by simp) rfl
        refine ⟨fun _ => ?_, fun hw => absurd (show true = false from hw) (by decide)⟩
        · exact yield_pick rfl ((frame_eval V (by decide)).trans d10) ((frame_eval V (by decide)).trans d15) hS
      · obtain rfl : _ = o := Option.some.inj ((show _ = some _ from rfl).symm.trans ho)
        have d16 : V 59 = .bool true := hd ⟨16, .data⟩ (by simp) rfl
        refine ⟨fun _ => ?_, fun hw => absurd (show true = false from hw) (by decide)⟩
        · exact yield_copy (.inl rfl) ((frame_eval V (by decide)).trans d16) hS
      · obtain rfl : _ = o := Option.some.inj ((show _ = some _ from rfl).symm.trans ho)
        have x3 : V 3 = .pointer (some ⟨wv.heap.size, 0, none⟩) := (hV 3 (by simp)).trans rfl
        have gd : V 60 = .bool true := hd ⟨17, .guard⟩ (by simp) rfl
        refine ⟨fun _ => ?_, fun hw => absurd ((wanted_of rfl rfl (by decide) gd).symm.trans hw) (by decide)⟩
        · exact yield_op rfl ((frame_eval V (by decide)).trans x3) hbx hS
      · obtain rfl : _ = o := Option.some.inj ((show _ = some _ from rfl).symm.trans ho)
        have d18 : V 61 = (oK 2).v := hd ⟨18, .data⟩ (by simp) rfl
        have gd : V 60 = .bool true := hd ⟨17, .guard⟩ (by simp) rfl
        refine ⟨fun _ => ?_, fun hw => absurd ((wanted_of rfl rfl (by decide) gd).symm.trans hw) (by decide)⟩
        · exact yield_ops1 rfl ((frame_eval V (by decide)).trans d18) hS
      · obtain rfl : _ = o := Option.some.inj ((show _ = some _ from rfl).symm.trans ho)
        have d19 : IsOps [(oK 2)] w (V 62) := hd ⟨19, .data⟩ (by simp) rfl
        have gd : V 60 = .bool true := hd ⟨17, .guard⟩ (by simp) rfl
        refine ⟨fun _ => ?_, fun hw => absurd ((wanted_of rfl rfl (by decide) gd).symm.trans hw) (by decide)⟩
        · exact yield_fold hfx rfl (frame_eval V (by decide)) d19 (by simp) hRb hS
      · obtain rfl : _ = o := Option.some.inj ((show _ = some _ from rfl).symm.trans ho)
        have x3 : V 3 = .pointer (some ⟨wv.heap.size, 0, none⟩) := (hV 3 (by simp)).trans rfl
        have gd : V 60 = .bool true := hd ⟨17, .guard⟩ (by simp) rfl
        refine ⟨fun _ => ?_, fun hw => absurd ((wanted_of rfl rfl (by decide) gd).symm.trans hw) (by decide)⟩
        · exact yield_op rfl ((frame_eval V (by decide)).trans x3) hbx hS
      · obtain rfl : _ = o := Option.some.inj ((show _ = some _ from rfl).symm.trans ho)
        have d21 : V 64 = (oK 2).v := hd ⟨21, .data⟩ (by simp) rfl
        have gd : V 60 = .bool true := hd ⟨17, .guard⟩ (by simp) rfl
        refine ⟨fun _ => ?_, fun hw => absurd ((wanted_of rfl rfl (by decide) gd).symm.trans hw) (by decide)⟩
        · exact yield_ops1 rfl ((frame_eval V (by decide)).trans d21) hS
      · obtain rfl : _ = o := Option.some.inj ((show _ = some _ from rfl).symm.trans ho)
        have d20 : IsOps [(oK 2)] w (V 63) := hd ⟨20, .data⟩ (by simp) rfl
        have d22 : IsOps [(oK 2)] w (V 65) := hd ⟨22, .data⟩ (by simp) rfl
        have gd : V 60 = .bool true := hd ⟨17, .guard⟩ (by simp) rfl
        refine ⟨fun _ => ?_, fun hw => absurd ((wanted_of rfl rfl (by decide) gd).symm.trans hw) (by decide)⟩
        · exact yield_eaOps rfl (frame_eval V (by decide)) (frame_eval V (by decide)) d20 d22 (by simp) hS
      · obtain rfl : _ = o := Option.some.inj ((show _ = some _ from rfl).symm.trans ho)
        have d17 : V 60 = .bool true := hd ⟨17, .data⟩ (by simp) rfl
        have d23 : V 66 = .bool true := hd ⟨23, .data⟩ (by simp) rfl
        refine ⟨fun _ => ?_, fun hw => absurd (show true = false from hw) (by decide)⟩
        · exact yield_pick rfl ((frame_eval V (by decide)).trans d17) ((frame_eval V (by decide)).trans d23) hS
      · obtain rfl : _ = o := Option.some.inj ((show _ = some _ from rfl).symm.trans ho)
        have d24 : V 67 = .bool true := hd ⟨24, .data⟩ (by simp) rfl
        refine ⟨fun _ => ?_, fun hw => absurd (show true = false from hw) (by decide)⟩
        · exact yield_copy (.inr rfl) ((frame_eval V (by decide)).trans d24) hS
    · intro V wx hS hV hall
      have d25 : V 2 = .bool true := hall 25 (by decide)
      rw [show frame 68 V = { tmps := #[V 0, V 1, V 2, V 3, V 4, V 5, V 6, V 7, V 8, V 9, V 10, V 11, V 12, V 13, V 14, V 15, V 16, V 17, V 18, V 19, V 20, V 21, V 22, V 23, V 24, V 25, V 26, V 27, V 28, V 29, V 30, V 31, V 32, V 33, V 34, V 35, V 36, V 37, V 38, V 39, V 40, V 41, V 42, V 43, V 44, V 45, V 46, V 47, V 48, V 49, V 50, V 51, V 52, V 53, V 54, V 55, V 56, V 57, V 58, V 59, V 60, V 61, V 62, V 63, V 64, V 65, V 66, V 67], defers := [] } from rfl, d25]
      have HE := Lib.hid (hBw.trans (hS.mono hBw.size))
      clear hall hV d25 hS hbx hbt hRb hBw hl5 hl6 hl7 hf4 hf5 hfb hfx HX HFS HWB
      go_wp2_with fail
      go_ret
      exact ⟨rfl, HE.out⟩
  · have hm1 : (n : Int) % 2 = 1 := by omega
    have hm2 : ((n : Int) + 1) % 2 = 0 := by omega
    have hmT1 : (n : Int).tmod 2 = 1 := by rw [Int.tmod_eq_emod_of_nonneg (by omega)]; exact hm1
    have hmT2 : ((n : Int) + 1).tmod 2 = 0 := by rw [Int.tmod_eq_emod_of_nonneg (by omega)]; exact hm2
    clear hm
    have hbx0 : OpAtB (((((wv.alloc (.cells #[.int .i64 3, .int .i64 0, .int .i64 0, .int .i64 0, .int .i64 0] 49)).alloc (.cells #[.int .i64 4, .int .i64 0, .int .i64 0, .int .i64 0, .int .i64 0] 49)).alloc (.cells #[.int .i64 4, .int .i64 0, .int .i64 0, .int .i64 0, .int .i64 0, .int .i64 4, .int .i64 0, .int .i64 0, .int .i64 0, .int .i64 0, .int .i64 4, .int .i64 0, .int .i64 0, .int .i64 0, .int .i64 0, .int .i64 4, .int .i64 0, .int .i64 0, .int .i64 0, .int .i64 0] 49)).alloc (.cells #[.int .i64 3, .int .i64 0, .int .i64 0, .int .i64 0, .int .i64 0, .int .i64 2, .int .i64 0, .int .i64 0, .int .i64 0, .int .i64 0, .int .i64 2, .int .i64 0, .int .i64 0, .int .i64 0, .int .i64 0, .int .i64 3, .int .i64 0, .int .i64 0, .int .i64 0, .int .i64 0] 49)).alloc (.cells #[.int .i64 4, .int .i64 0, .int .i64 0, .int .i64 0, .int .i64 0, .int .i64 4, .int .i64 0, .int .i64 0, .int .i64 0, .int .i64 0, .int .i64 4, .int .i64 0, .int .i64 0, .int .i64 0, .int .i64 0, .int .i64 4, .int .i64 0, .int .i64 0, .int .i64 0, .int .i64 0, .int .i64 4, .int .i64 0, .int .i64 0, .int .i64 0, .int .i64 0] 49)) wv.heap.size (oK 3) := Box.alloc (Box.alloc (Box.alloc (Box.alloc (Box.new wv _ _) _) _) _) _
    have hbt0 : OpAtB (((((wv.alloc (.cells #[.int .i64 3, .int .i64 0, .int .i64 0, .int .i64 0, .int .i64 0] 49)).alloc (.cells #[.int .i64 4, .int .i64 0, .int .i64 0, .int .i64 0, .int .i64 0] 49)).alloc (.cells #[.int .i64 4, .int .i64 0, .int .i64 0, .int .i64 0, .int .i64 0, .int .i64 4, .int .i64 0, .int .i64 0, .int .i64 0, .int .i64 0, .int .i64 4, .int .i64 0, .int .i64 0, .int .i64 0, .int .i64 0, .int .i64 4, .int .i64 0, .int .i64 0, .int .i64 0, .int .i64 0] 49)).alloc (.cells #[.int .i64 3, .int .i64 0, .int .i64 0, .int .i64 0, .int .i64 0, .int .i64 2, .int .i64 0, .int .i64 0, .int .i64 0, .int .i64 0, .int .i64 2, .int .i64 0, .int .i64 0, .int .i64 0, .int .i64 0, .int .i64 3, .int .i64 0, .int .i64 0, .int .i64 0, .int .i64 0] 49)).alloc (.cells #[.int .i64 4, .int .i64 0, .int .i64 0, .int .i64 0, .int .i64 0, .int .i64 4, .int .i64 0, .int .i64 0, .int .i64 0, .int .i64 0, .int .i64 4, .int .i64 0, .int .i64 0, .int .i64 0, .int .i64 0, .int .i64 4, .int .i64 0, .int .i64 0, .int .i64 0, .int .i64 0, .int .i64 4, .int .i64 0, .int .i64 0, .int .i64 0, .int .i64 0] 49)) (wv.heap.size + 1) (oK 4) := by
      have := Box.alloc (Box.alloc (Box.alloc (Box.new (wv.alloc (.cells #[.int .i64 3, .int .i64 0, .int .i64 0, .int .i64 0, .int .i64 0] 49)) #[.int .i64 4, .int .i64 0, .int .i64 0, .int .i64 0, .int .i64 0] 49) (.cells #[.int .i64 4, .int .i64 0, .int .i64 0, .int .i64 0, .int .i64 0, .int .i64 4, .int .i64 0, .int .i64 0, .int .i64 0, .int .i64 0, .int .i64 4, .int .i64 0, .int .i64 0, .int .i64 0, .int .i64 0, .int .i64 4, .int .i64 0, .int .i64 0, .int .i64 0, .int .i64 0] 49)) (.cells #[.int .i64 3, .int .i64 0, .int .i64 0, .int .i64 0, .int .i64 0, .int .i64 2, .int .i64 0, .int .i64 0, .int .i64 0, .int .i64 0, .int .i64 2, .int .i64 0, .int .i64 0, .int .i64 0, .int .i64 0, .int .i64 3, .int .i64 0, .int .i64 0, .int .i64 0, .int .i64 0] 49)) (.cells #[.int .i64 4, .int .i64 0, .int .i64 0, .int .i64 0, .int .i64 0, .int .i64 4, .int .i64 0, .int .i64 0, .int .i64 0, .int .i64 0, .int .i64 4, .int .i64 0, .int .i64 0, .int .i64 0, .int .i64 0, .int .i64 4, .int .i64 0, .int .i64 0, .int .i64 0, .int .i64 0, .int .i64 4, .int .i64 0, .int .i64 0, .int .i64 0, .int .i64 0] 49)
      rw [show (wv.alloc (.cells #[.int .i64 3, .int .i64 0, .int .i64 0, .int .i64 0, .int .i64 0] 49)).heap.size = wv.heap.size + 1 from by simp] at this
      exact this
    have hl50 : opE.Has (((((wv.alloc (.cells #[.int .i64 3, .int .i64 0, .int .i64 0, .int .i64 0, .int .i64 0] 49)).alloc (.cells #[.int .i64 4, .int .i64 0, .int .i64 0, .int .i64 0, .int .i64 0] 49)).alloc (.cells #[.int .i64 4, .int .i64 0, .int .i64 0, .int .i64 0, .int .i64 0, .int .i64 4, .int .i64 0, .int .i64 0, .int .i64 0, .int .i64 0, .int .i64 4, .int .i64 0, .int .i64 0, .int .i64 0, .int .i64 0, .int .i64 4, .int .i64 0, .int .i64 0, .int .i64 0, .int .i64 0] 49)).alloc (.cells #[.int .i64 3, .int .i64 0, .int .i64 0, .int .i64 0, .int .i64 0, .int .i64 2, .int .i64 0, .int .i64 0, .int .i64 0, .int .i64 0, .int .i64 2, .int .i64 0, .int .i64 0, .int .i64 0, .int .i64 0, .int .i64 3, .int .i64 0, .int .i64 0, .int .i64 0, .int .i64 0] 49)).alloc (.cells #[.int .i64 4, .int .i64 0, .int .i64 0, .int .i64 0, .int .i64 0, .int .i64 4, .int .i64 0, .int .i64 0, .int .i64 0, .int .i64 0, .int .i64 4, .int .i64 0, .int .i64 0, .int .i64 0, .int .i64 0, .int .i64 4, .int .i64 0, .int .i64 0, .int .i64 0, .int .i64 0, .int .i64 4, .int .i64 0, .int .i64 0, .int .i64 0, .int .i64 0] 49)) ((((((wv.alloc (.cells #[.int .i64 3, .int .i64 0, .int .i64 0, .int .i64 0, .int .i64 0] 49)).alloc (.cells #[.int .i64 4, .int .i64 0, .int .i64 0, .int .i64 0, .int .i64 0] 49)).alloc (.cells #[.int .i64 4, .int .i64 0, .int .i64 0, .int .i64 0, .int .i64 0, .int .i64 4, .int .i64 0, .int .i64 0, .int .i64 0, .int .i64 0, .int .i64 4, .int .i64 0, .int .i64 0, .int .i64 0, .int .i64 0, .int .i64 4, .int .i64 0, .int .i64 0, .int .i64 0, .int .i64 0] 49)).alloc (.cells #[.int .i64 3, .int .i64 0, .int .i64 0, .int .i64 0, .int .i64 0, .int .i64 2, .int .i64 0, .int .i64 0, .int .i64 0, .int .i64 0, .int .i64 2, .int .i64 0, .int .i64 0, .int .i64 0, .int .i64 0, .int .i64 3, .int .i64 0, .int .i64 0, .int .i64 0, .int .i64 0] 49)).alloc (.cells #[.int .i64 4, .int .i64 0, .int .i64 0, .int .i64 0, .int .i64 0, .int .i64 4, .int .i64 0, .int .i64 0, .int .i64 0, .int .i64 0, .int .i64 4, .int .i64 0, .int .i64 0, .int .i64 0, .int .i64 0, .int .i64 4, .int .i64 0, .int .i64 0, .int .i64 0, .int .i64 0, .int .i64 4, .int .i64 0, .int .i64 0, .int .i64 0, .int .i64 0] 49))).heap.size (some ⟨wv.heap.size + 1 + 1, 0, none⟩) [(oK 4), (oK 4), (oK 4), (oK 4)] := by
      have := ((laidO ((wv.alloc (.cells #[.int .i64 3, .int .i64 0, .int .i64 0, .int .i64 0, .int .i64 0] 49)).alloc (.cells #[.int .i64 4, .int .i64 0, .int .i64 0, .int .i64 0, .int .i64 0] 49)) [(oK 4), (oK 4), (oK 4), (oK 4)]).wider (by simp)).below (((Below.refl _ (((wv.alloc (.cells #[.int .i64 3, .int .i64 0, .int .i64 0, .int .i64 0, .int .i64 0] 49)).alloc (.cells #[.int .i64 4, .int .i64 0, .int .i64 0, .int .i64 0, .int .i64 0] 49)).alloc (.cells #[.int .i64 4, .int .i64 0, .int .i64 0, .int .i64 0, .int .i64 0, .int .i64 4, .int .i64 0, .int .i64 0, .int .i64 0, .int .i64 0, .int .i64 4, .int .i64 0, .int .i64 0, .int .i64 0, .int .i64 0, .int .i64 4, .int .i64 0, .int .i64 0, .int .i64 0, .int .i64 0] 49))).alloc (Nat.le_refl _) (.cells #[.int .i64 3, .int .i64 0, .int .i64 0, .int .i64 0, .int .i64 0, .int .i64 2, .int .i64 0, .int .i64 0, .int .i64 0, .int .i64 0, .int .i64 2, .int .i64 0, .int .i64 0, .int .i64 0, .int .i64 0, .int .i64 3, .int .i64 0, .int .i64 0, .int .i64 0, .int .i64 0] 49)).alloc (by simp) (.cells #[.int .i64 4, .int .i64 0, .int .i64 0, .int .i64 0, .int .i64 0, .int .i64 4, .int .i64 0, .int .i64 0, .int .i64 0, .int .i64 0, .int .i64 4, .int .i64 0, .int .i64 0, .int .i64 0, .int .i64 0, .int .i64 4, .int .i64 0, .int .i64 0, .int .i64 0, .int .i64 0, .int .i64 4, .int .i64 0, .int .i64 0, .int .i64 0, .int .i64 0] 49)) |>.wider (B' := ((((((wv.alloc (.cells #[.int .i64 3, .int .i64 0, .int .i64 0, .int .i64 0, .int .i64 0] 49)).alloc (.cells #[.int .i64 4, .int .i64 0, .int .i64 0, .int .i64 0, .int .i64 0] 49)).alloc (.cells #[.int .i64 4, .int .i64 0, .int .i64 0, .int .i64 0, .int .i64 0, .int .i64 4, .int .i64 0, .int .i64 0, .int .i64 0, .int .i64 0, .int .i64 4, .int .i64 0, .int .i64 0, .int .i64 0, .int .i64 0, .int .i64 4, .int .i64 0, .int .i64 0, .int .i64 0, .int .i64 0] 49)).alloc (.cells #[.int .i64 3, .int .i64 0, .int .i64 0, .int .i64 0, .int .i64 0, .int .i64 2, .int .i64 0, .int .i64 0, .int .i64 0, .int .i64 0, .int .i64 2, .int .i64 0, .int .i64 0, .int .i64 0, .int .i64 0, .int .i64 3, .int .i64 0, .int .i64 0, .int .i64 0, .int .i64 0] 49)).alloc (.cells #[.int .i64 4, .int .i64 0, .int .i64 0, .int .i64 0, .int .i64 0, .int .i64 4, .int .i64 0, .int .i64 0, .int .i64 0, .int .i64 0, .int .i64 4, .int .i64 0, .int .i64 0, .int .i64 0, .int .i64 0, .int .i64 4, .int .i64 0, .int .i64 0, .int .i64 0, .int .i64 0, .int .i64 4, .int .i64 0, .int .i64 0, .int .i64 0, .int .i64 0] 49))).heap.size) (by simp)
      rw [show (((wv.alloc (.cells #[.int .i64 3, .int .i64 0, .int .i64 0, .int .i64 0, .int .i64 0] 49)).alloc (.cells #[.int .i64 4, .int .i64 0, .int .i64 0, .int .i64 0, .int .i64 0] 49))).heap.size = wv.heap.size + 1 + 1 from by simp] at this
      exact this
    have hl60 : opE.Has (((((wv.alloc (.cells #[.int .i64 3, .int .i64 0, .int .i64 0, .int .i64 0, .int .i64 0] 49)).alloc (.cells #[.int .i64 4, .int .i64 0, .int .i64 0, .int .i64 0, .int .i64 0] 49)).alloc (.cells #[.int .i64 4, .int .i64 0, .int .i64 0, .int .i64 0, .int .i64 0, .int .i64 4, .int .i64 0, .int .i64 0, .int .i64 0, .int .i64 0, .int .i64 4, .int .i64 0, .int .i64 0, .int .i64 0, .int .i64 0, .int .i64 4, .int .i64 0, .int .i64 0, .int .i64 0, .int .i64 0] 49)).alloc (.cells #[.int .i64 3, .int .i64 0, .int .i64 0, .int .i64 0, .int .i64 0, .int .i64 2, .int .i64 0, .int .i64 0, .int .i64 0, .int .i64 0, .int .i64 2, .int .i64 0, .int .i64 0, .int .i64 0, .int .i64 0, .int .i64 3, .int .i64 0, .int .i64 0, .int .i64 0, .int .i64 0] 49)).alloc (.cells #[.int .i64 4, .int .i64 0, .int .i64 0, .int .i64 0, .int .i64 0, .int .i64 4, .int .i64 0, .int .i64 0, .int .i64 0, .int .i64 0, .int .i64 4, .int .i64 0, .int .i64 0, .int .i64 0, .int .i64 0, .int .i64 4, .int .i64 0, .int .i64 0, .int .i64 0, .int .i64 0, .int .i64 4, .int .i64 0, .int .i64 0, .int .i64 0, .int .i64 0] 49)) ((((((wv.alloc (.cells #[.int .i64 3, .int .i64 0, .int .i64 0, .int .i64 0, .int .i64 0] 49)).alloc (.cells #[.int .i64 4, .int .i64 0, .int .i64 0, .int .i64 0, .int .i64 0] 49)).alloc (.cells #[.int .i64 4, .int .i64 0, .int .i64 0, .int .i64 0, .int .i64 0, .int .i64 4, .int .i64 0, .int .i64 0, .int .i64 0, .int .i64 0, .int .i64 4, .int .i64 0, .int .i64 0, .int .i64 0, .int .i64 0, .int .i64 4, .int .i64 0, .int .i64 0, .int .i64 0, .int .i64 0] 49)).alloc (.cells #[.int .i64 3, .int .i64 0, .int .i64 0, .int .i64 0, .int .i64 0, .int .i64 2, .int .i64 0, .int .i64 0, .int .i64 0, .int .i64 0, .int .i64 2, .int .i64 0, .int .i64 0, .int .i64 0, .int .i64 0, .int .i64 3, .int .i64 0, .int .i64 0, .int .i64 0, .int .i64 0] 49)).alloc (.cells #[.int .i64 4, .int .i64 0, .int .i64 0, .int .i64 0, .int .i64 0, .int .i64 4, .int .i64 0, .int .i64 0, .int .i64 0, .int .i64 0, .int .i64 4, .int .i64 0, .int .i64 0, .int .i64 0, .int .i64 0, .int .i64 4, .int .i64 0, .int .i64 0, .int .i64 0, .int .i64 0, .int .i64 4, .int .i64 0, .int .i64 0, .int .i64 0, .int .i64 0] 49))).heap.size (some ⟨wv.heap.size + 1 + 1 + 1, 0, none⟩) [(oK 3), (oK 2), (oK 2), (oK 3)] := by
      have := ((laidO (((wv.alloc (.cells #[.int .i64 3, .int .i64 0, .int .i64 0, .int .i64 0, .int .i64 0] 49)).alloc (.cells #[.int .i64 4, .int .i64 0, .int .i64 0, .int .i64 0, .int .i64 0] 49)).alloc (.cells #[.int .i64 4, .int .i64 0, .int .i64 0, .int .i64 0, .int .i64 0, .int .i64 4, .int .i64 0, .int .i64 0, .int .i64 0, .int .i64 0, .int .i64 4, .int .i64 0, .int .i64 0, .int .i64 0, .int .i64 0, .int .i64 4, .int .i64 0, .int .i64 0, .int .i64 0, .int .i64 0] 49)) [(oK 3), (oK 2), (oK 2), (oK 3)]).wider (by simp)).below ((Below.refl _ ((((wv.alloc (.cells #[.int .i64 3, .int .i64 0, .int .i64 0, .int .i64 0, .int .i64 0] 49)).alloc (.cells #[.int .i64 4, .int .i64 0, .int .i64 0, .int .i64 0, .int .i64 0] 49)).alloc (.cells #[.int .i64 4, .int .i64 0, .int .i64 0, .int .i64 0, .int .i64 0, .int .i64 4, .int .i64 0, .int .i64 0, .int .i64 0, .int .i64 0, .int .i64 4, .int .i64 0, .int .i64 0, .int .i64 0, .int .i64 0, .int .i64 4, .int .i64 0, .int .i64 0, .int .i64 0, .int .i64 0] 49)).alloc (.cells #[.int .i64 3, .int .i64 0, .int .i64 0, .int .i64 0, .int .i64 0, .int .i64 2, .int .i64 0, .int .i64 0, .int .i64 0, .int .i64 0, .int .i64 2, .int .i64 0, .int .i64 0, .int .i64 0, .int .i64 0, .int .i64 3, .int .i64 0, .int .i64 0, .int .i64 0, .int .i64 0] 49))).alloc (Nat.le_refl _) (.cells #[.int .i64 4, .int .i64 0, .int .i64 0, .int .i64 0, .int .i64 0, .int .i64 4, .int .i64 0, .int .i64 0, .int .i64 0, .int .i64 0, .int .i64 4, .int .i64 0, .int .i64 0, .int .i64 0, .int .i64 0, .int .i64 4, .int .i64 0, .int .i64 0, .int .i64 0, .int .i64 0, .int .i64 4, .int .i64 0, .int .i64 0, .int .i64 0, .int .i64 0] 49)) |>.wider (B' := ((((((wv.alloc (.cells #[.int .i64 3, .int .i64 0, .int .i64 0, .int .i64 0, .int .i64 0] 49)).alloc (.cells #[.int .i64 4, .int .i64 0, .int .i64 0, .int .i64 0, .int .i64 0] 49)).alloc (.cells #[.int .i64 4, .int .i64 0, .int .i64 0, .int .i64 0, .int .i64 0, .int .i64 4, .int .i64 0, .int .i64 0, .int .i64 0, .int .i64 0, .int .i64 4, .int .i64 0, .int .i64 0, .int .i64 0, .int .i64 0, .int .i64 4, .int .i64 0, .int .i64 0, .int .i64 0, .int .i64 0] 49)).alloc (.cells #[.int .i64 3, .int .i64 0, .int .i64 0, .int .i64 0, .int .i64 0, .int .i64 2, .int .i64 0, .int .i64 0, .int .i64 0, .int .i64 0, .int .i64 2, .int .i64 0, .int .i64 0, .int .i64 0, .int .i64 0, .int .i64 3, .int .i64 0, .int .i64 0, .int .i64 0, .int .i64 0] 49)).alloc (.cells #[.int .i64 4, .int .i64 0, .int .i64 0, .int .i64 0, .int .i64 0, .int .i64 4, .int .i64 0, .int .i64 0, .int .i64 0, .int .i64 0, .int .i64 4, .int .i64 0, .int .i64 0, .int .i64 0, .int .i64 0, .int .i64 4, .int .i64 0, .int .i64 0, .int .i64 0, .int .i64 0, .int .i64 4, .int .i64 0, .int .i64 0, .int .i64 0, .int .i64 0] 49))).heap.size) (by simp)
      rw [show ((((wv.alloc (.cells #[.int .i64 3, .int .i64 0, .int .i64 0, .int .i64 0, .int .i64 0] 49)).alloc (.cells #[.int .i64 4, .int .i64 0, .int .i64 0, .int .i64 0, .int .i64 0] 49)).alloc (.cells #[.int .i64 4, .int .i64 0, .int .i64 0, .int .i64 0, .int .i64 0, .int .i64 4, .int .i64 0, .int .i64 0, .int .i64 0, .int .i64 0, .int .i64 4, .int .i64 0, .int .i64 0, .int .i64 0, .int .i64 0, .int .i64 4, .int .i64 0, .int .i64 0, .int .i64 0, .int .i64 0] 49))).heap.size = wv.heap.size + 1 + 1 + 1 from by simp] at this
      exact this
    have hl70 : opE.Has (((((wv.alloc (.cells #[.int .i64 3, .int .i64 0, .int .i64 0, .int .i64 0, .int .i64 0] 49)).alloc (.cells #[.int .i64 4, .int .i64 0, .int .i64 0, .int .i64 0, .int .i64 0] 49)).alloc (.cells #[.int .i64 4, .int .i64 0, .int .i64 0, .int .i64 0, .int .i64 0, .int .i64 4, .int .i64 0, .int .i64 0, .int .i64 0, .int .i64 0, .int .i64 4, .int .i64 0, .int .i64 0, .int .i64 0, .int .i64 0, .int .i64 4, .int .i64 0, .int .i64 0, .int .i64 0, .int .i64 0] 49)).alloc (.cells #[.int .i64 3, .int .i64 0, .int .i64 0, .int .i64 0, .int .i64 0, .int .i64 2, .int .i64 0, .int .i64 0, .int .i64 0, .int .i64 0, .int .i64 2, .int .i64 0, .int .i64 0, .int .i64 0, .int .i64 0, .int .i64 3, .int .i64 0, .int .i64 0, .int .i64 0, .int .i64 0] 49)).alloc (.cells #[.int .i64 4, .int .i64 0, .int .i64 0, .int .i64 0, .int .i64 0, .int .i64 4, .int .i64 0, .int .i64 0, .int .i64 0, .int .i64 0, .int .i64 4, .int .i64 0, .int .i64 0, .int .i64 0, .int .i64 0, .int .i64 4, .int .i64 0, .int .i64 0, .int .i64 0, .int .i64 0, .int .i64 4, .int .i64 0, .int .i64 0, .int .i64 0, .int .i64 0] 49)) ((((((wv.alloc (.cells #[.int .i64 3, .int .i64 0, .int .i64 0, .int .i64 0, .int .i64 0] 49)).alloc (.cells #[.int .i64 4, .int .i64 0, .int .i64 0, .int .i64 0, .int .i64 0] 49)).alloc (.cells #[.int .i64 4, .int .i64 0, .int .i64 0, .int .i64 0, .int .i64 0, .int .i64 4, .int .i64 0, .int .i64 0, .int .i64 0, .int .i64 0, .int .i64 4, .int .i64 0, .int .i64 0, .int .i64 0, .int .i64 0, .int .i64 4, .int .i64 0, .int .i64 0, .int .i64 0, .int .i64 0] 49)).alloc (.cells #[.int .i64 3, .int .i64 0, .int .i64 0, .int .i64 0, .int .i64 0, .int .i64 2, .int .i64 0, .int .i64 0, .int .i64 0, .int .i64 0, .int .i64 2, .int .i64 0, .int .i64 0, .int .i64 0, .int .i64 0, .int .i64 3, .int .i64 0, .int .i64 0, .int .i64 0, .int .i64 0] 49)).alloc (.cells #[.int .i64 4, .int .i64 0, .int .i64 0, .int .i64 0, .int .i64 0, .int .i64 4, .int .i64 0, .int .i64 0, .int .i64 0, .int .i64 0, .int .i64 4, .int .i64 0, .int .i64 0, .int .i64 0, .int .i64 0, .int .i64 4, .int .i64 0, .int .i64 0, .int .i64 0, .int .i64 0, .int .i64 4, .int .i64 0, .int .i64 0, .int .i64 0, .int .i64 0] 49))).heap.size (some ⟨wv.heap.size + 1 + 1 + 1 + 1, 0, none⟩) [(oK 4), (oK 4), (oK 4), (oK 4), (oK 4)] := by
      have := (laidO ((((wv.alloc (.cells #[.int .i64 3, .int .i64 0, .int .i64 0, .int .i64 0, .int .i64 0] 49)).alloc (.cells #[.int .i64 4, .int .i64 0, .int .i64 0, .int .i64 0, .int .i64 0] 49)).alloc (.cells #[.int .i64 4, .int .i64 0, .int .i64 0, .int .i64 0, .int .i64 0, .int .i64 4, .int .i64 0, .int .i64 0, .int .i64 0, .int .i64 0, .int .i64 4, .int .i64 0, .int .i64 0, .int .i64 0, .int .i64 0, .int .i64 4, .int .i64 0, .int .i64 0, .int .i64 0, .int .i64 0] 49)).alloc (.cells #[.int .i64 3, .int .i64 0, .int .i64 0, .int .i64 0, .int .i64 0, .int .i64 2, .int .i64 0, .int .i64 0, .int .i64 0, .int .i64 0, .int .i64 2, .int .i64 0, .int .i64 0, .int .i64 0, .int .i64 0, .int .i64 3, .int .i64 0, .int .i64 0, .int .i64 0, .int .i64 0] 49)) [(oK 4), (oK 4), (oK 4), (oK 4), (oK 4)]).wider (B' := ((((((wv.alloc (.cells #[.int .i64 3, .int .i64 0, .int .i64 0, .int .i64 0, .int .i64 0] 49)).alloc (.cells #[.int .i64 4, .int .i64 0, .int .i64 0, .int .i64 0, .int .i64 0] 49)).alloc (.cells #[.int .i64 4, .int .i64 0, .int .i64 0, .int .i64 0, .int .i64 0, .int .i64 4, .int .i64 0, .int .i64 0, .int .i64 0, .int .i64 0, .int .i64 4, .int .i64 0, .int .i64 0, .int .i64 0, .int .i64 0, .int .i64 4, .int .i64 0, .int .i64 0, .int .i64 0, .int .i64 0] 49)).alloc (.cells #[.int .i64 3, .int .i64 0, .int .i64 0, .int .i64 0, .int .i64 0, .int .i64 2, .int .i64 0, .int .i64 0, .int .i64 0, .int .i64 0, .int .i64 2, .int .i64 0, .int .i64 0, .int .i64 0, .int .i64 0, .int .i64 3, .int .i64 0, .int .i64 0, .int .i64 0, .int .i64 0] 49)).alloc (.cells #[.int .i64 4, .int .i64 0, .int .i64 0, .int .i64 0, .int .i64 0, .int .i64 4, .int .i64 0, .int .i64 0, .int .i64 0, .int .i64 0, .int .i64 4, .int .i64 0, .int .i64 0, .int .i64 0, .int .i64 0, .int .i64 4, .int .i64 0, .int .i64 0, .int .i64 0, .int .i64 0, .int .i64 4, .int .i64 0, .int .i64 0, .int .i64 0, .int .i64 0] 49))).heap.size) (by simp)
      rw [show (((((wv.alloc (.cells #[.int .i64 3, .int .i64 0, .int .i64 0, .int .i64 0, .int .i64 0] 49)).alloc (.cells #[.int .i64 4, .int .i64 0, .int .i64 0, .int .i64 0, .int .i64 0] 49)).alloc (.cells #[.int .i64 4, .int .i64 0, .int .i64 0, .int .i64 0, .int .i64 0, .int .i64 4, .int .i64 0, .int .i64 0, .int .i64 0, .int .i64 0, .int .i64 4, .int .i64 0, .int .i64 0, .int .i64 0, .int .i64 0, .int .i64 4, .int .i64 0, .int .i64 0, .int .i64 0, .int .i64 0] 49)).alloc (.cells #[.int .i64 3, .int .i64 0, .int .i64 0, .int .i64 0, .int .i64 0, .int .i64 2, .int .i64 0, .int .i64 0, .int .i64 0, .int .i64 0, .int .i64 2, .int .i64 0, .int .i64 0, .int .i64 0, .int .i64 0, .int .i64 3, .int .i64 0, .int .i64 0, .int .i64 0, .int .i64 0] 49))).heap.size = wv.heap.size + 1 + 1 + 1 + 1 from by simp] at this
      exact this
    have hB3 : Below wv.heap.size wv (((((wv.alloc (.cells #[.int .i64 3, .int .i64 0, .int .i64 0, .int .i64 0, .int .i64 0] 49)).alloc (.cells #[.int .i64 4, .int .i64 0, .int .i64 0, .int .i64 0, .int .i64 0] 49)).alloc (.cells #[.int .i64 4, .int .i64 0, .int .i64 0, .int .i64 0, .int .i64 0, .int .i64 4, .int .i64 0, .int .i64 0, .int .i64 0, .int .i64 0, .int .i64 4, .int .i64 0, .int .i64 0, .int .i64 0, .int .i64 0, .int .i64 4, .int .i64 0, .int .i64 0, .int .i64 0, .int .i64 0] 49)).alloc (.cells #[.int .i64 3, .int .i64 0, .int .i64 0, .int .i64 0, .int .i64 0, .int .i64 2, .int .i64 0, .int .i64 0, .int .i64 0, .int .i64 0, .int .i64 2, .int .i64 0, .int .i64 0, .int .i64 0, .int .i64 0, .int .i64 3, .int .i64 0, .int .i64 0, .int .i64 0, .int .i64 0] 49)).alloc (.cells #[.int .i64 4, .int .i64 0, .int .i64 0, .int .i64 0, .int .i64 0, .int .i64 4, .int .i64 0, .int .i64 0, .int .i64 0, .int .i64 0, .int .i64 4, .int .i64 0, .int .i64 0, .int .i64 0, .int .i64 0, .int .i64 4, .int .i64 0, .int .i64 0, .int .i64 0, .int .i64 0, .int .i64 4, .int .i64 0, .int .i64 0, .int .i64 0, .int .i64 0] 49)) := (((((Below.refl _ wv).alloc (Nat.le_refl _) _).alloc (by simp) _).alloc (by simp <;> omega) _).alloc (by simp <;> omega) _).alloc (by simp <;> omega) _
    obtain ⟨wb, hwb⟩ : ∃ wb, ((((((wv.alloc (.cells #[.int .i64 3, .int .i64 0, .int .i64 0, .int .i64 0, .int .i64 0] 49)).alloc (.cells #[.int .i64 4, .int .i64 0, .int .i64 0, .int .i64 0, .int .i64 0] 49)).alloc (.cells #[.int .i64 4, .int .i64 0, .int .i64 0, .int .i64 0, .int .i64 0, .int .i64 4, .int .i64 0, .int .i64 0, .int .i64 0, .int .i64 0, .int .i64 4, .int .i64 0, .int .i64 0, .int .i64 0, .int .i64 0, .int .i64 4, .int .i64 0, .int .i64 0, .int .i64 0, .int .i64 0] 49)).alloc (.cells #[.int .i64 3, .int .i64 0, .int .i64 0, .int .i64 0, .int .i64 0, .int .i64 2, .int .i64 0, .int .i64 0, .int .i64 0, .int .i64 0, .int .i64 2, .int .i64 0, .int .i64 0, .int .i64 0, .int .i64 0, .int .i64 3, .int .i64 0, .int .i64 0, .int .i64 0, .int .i64 0] 49)).alloc (.cells #[.int .i64 4, .int .i64 0, .int .i64 0, .int .i64 0, .int .i64 0, .int .i64 4, .int .i64 0, .int .i64 0, .int .i64 0, .int .i64 0, .int .i64 4, .int .i64 0, .int .i64 0, .int .i64 0, .int .i64 0, .int .i64 4, .int .i64 0, .int .i64 0, .int .i64 0, .int .i64 0, .int .i64 4, .int .i64 0, .int .i64 0, .int .i64 0, .int .i64 0] 49))).drew = wb := ⟨_, rfl⟩
    have HX : Hid (OpAtB wb wv.heap.size (oK 3) ∧ OpAtB wb (wv.heap.size + 1) (oK 4) ∧ RangesIn wb ∧ Below wv.heap.size wv wb ∧ (∀ u, Below wb.heap.size wb u → IsOps [(oK 4), (oK 4), (oK 4), (oK 4)] u (.slice (some ⟨wv.heap.size + 1 + 1, 0, none⟩) 4 4)) ∧ (∀ u, Below wb.heap.size wb u → IsOps [(oK 3), (oK 2), (oK 2), (oK 3)] u (.slice (some ⟨wv.heap.size + 1 + 1 + 1, 0, none⟩) 4 4)) ∧ (∀ u, Below wb.heap.size wb u → IsOps [(oK 4), (oK 4), (oK 4), (oK 4), (oK 4)] u (.slice (some ⟨wv.heap.size + 1 + 1 + 1 + 1, 0, none⟩) 5 5))) := Lib.hid (by
      subst hwb
      exact ⟨Box.drew hbx0, Box.drew hbt0, HR.out _ (below_draws hB3 1), below_draws hB3 1, fun u hb => ⟨_, _, rfl, Nat.le_refl _, ((hl50.drewN 1).below hb).wider hb.size⟩, fun u hb => ⟨_, _, rfl, Nat.le_refl _, ((hl60.drewN 1).below hb).wider hb.size⟩, fun u hb => ⟨_, _, rfl, Nat.le_refl _, ((hl70.drewN 1).below hb).wider hb.size⟩⟩)
    have HWB := Lib.hid hwb
    have hf4 : opsFold [(oK 4), (oK 4), (oK 4), (oK 4)] = [] := by decide
    have hf5 : opsFold [(oK 4), (oK 4), (oK 4), (oK 4), (oK 4)] = [(oK 4)] := by decide
    have hfb : opsFold [(oK 3), (oK 2), (oK 2), (oK 3)] = [] := by decide
    have hfx : opsFold [(oK 3)] = [(oK 3)] := by decide
    have HFS := Lib.hid (And.intro hf4 (And.intro hf5 (And.intro hfb hfx)))
    clear hbx0 hbt0 hl50 hl60 hl70 hB3 hwb hf4 hf5 hfb hfx
    go_enter Tryd.func7, Tryd.ntmps7
    go_wp2_with fail
    obtain ⟨hbx, hbt, hRb, hBw, hl5, hl6, hl7⟩ := HX.out
    obtain ⟨hf4, hf5, hfb, hfx⟩ := HFS.out
    have hwb := HWB.out
    subst hwb
    refine wp_region_kd 68 [43, 44, 45, 46, 47, 48, 49, 50, 51, 52, 53, 54, 55, 56, 57, 58, 59, 60, 61, 62, 63, 64, 65, 66, 67, 2] [(43, .is (.slice (some ⟨wv.heap.size + 1 + 1, 0, none⟩) 4 4)), (44, .ops []), (45, .is (.int .i64 ((0 : Nat) : Int))), (46, .is (.bool true)), (47, .is (.bool true)), (48, .is (.slice (some ⟨wv.heap.size + 1 + 1 + 1, 0, none⟩) 4 4)), (49, .ops []), (50, .is (.int .i64 ((0 : Nat) : Int))), (51, .is (.bool true)), (52, .is (.bool true)), (53, .is (.bool true)), (54, .is (.slice (some ⟨wv.heap.size + 1 + 1 + 1 + 1, 0, none⟩) 5 5)), (55, .ops [(oK 4)]), (56, .is ((oK 4).v)), (57, .ops [(oK 4)]), (58, .is (.bool true)), (59, .is (.bool true)), (60, .is (.bool true)), (61, .is ((oK 3).v)), (62, .ops [(oK 3)]), (63, .ops [(oK 3)]), (64, .is ((oK 3).v)), (65, .ops [(oK 3)]), (66, .is (.bool true)), (67, .is (.bool true)), (2, .is (.bool true))] (Below ((((((wv.alloc (.cells #[.int .i64 3, .int .i64 0, .int .i64 0, .int .i64 0, .int .i64 0] 49)).alloc (.cells #[.int .i64 4, .int .i64 0, .int .i64 0, .int .i64 0, .int .i64 0] 49)).alloc (.cells #[.int .i64 4, .int .i64 0, .int .i64 0, .int .i64 0, .int .i64 0, .int .i64 4, .int .i64 0, .int .i64 0, .int .i64 0, .int .i64 0, .int .i64 4, .int .i64 0, .int .i64 0, .int .i64 0, .int .i64 0, .int .i64 4, .int .i64 0, .int .i64 0, .int .i64 0, .int .i64 0] 49)).alloc (.cells #[.int .i64 3, .int .i64 0, .int .i64 0, .int .i64 0, .int .i64 0, .int .i64 2, .int .i64 0, .int .i64 0, .int .i64 0, .int .i64 0, .int .i64 2, .int .i64 0, .int .i64 0, .int .i64 0, .int .i64 0, .int .i64 3, .int .i64 0, .int .i64 0, .int .i64 0, .int .i64 0] 49)).alloc (.cells #[.int .i64 4, .int .i64 0, .int .i64 0, .int .i64 0, .int .i64 0, .int .i64 4, .int .i64 0, .int .i64 0, .int .i64 0, .int .i64 0, .int .i64 4, .int .i64 0, .int .i64 0, .int .i64 0, .int .i64 0, .int .i64 4, .int .i64 0, .int .i64 0, .int .i64 0, .int .i64 0, .int .i64 4, .int .i64 0, .int .i64 0, .int .i64 0, .int .i64 0] 49))).drew.heap.size ((((((wv.alloc (.cells #[.int .i64 3, .int .i64 0, .int .i64 0, .int .i64 0, .int .i64 0] 49)).alloc (.cells #[.int .i64 4, .int .i64 0, .int .i64 0, .int .i64 0, .int .i64 0] 49)).alloc (.cells #[.int .i64 4, .int .i64 0, .int .i64 0, .int .i64 0, .int .i64 0, .int .i64 4, .int .i64 0, .int .i64 0, .int .i64 0, .int .i64 0, .int .i64 4, .int .i64 0, .int .i64 0, .int .i64 0, .int .i64 0, .int .i64 4, .int .i64 0, .int .i64 0, .int .i64 0, .int .i64 0] 49)).alloc (.cells #[.int .i64 3, .int .i64 0, .int .i64 0, .int .i64 0, .int .i64 0, .int .i64 2, .int .i64 0, .int .i64 0, .int .i64 0, .int .i64 0, .int .i64 2, .int .i64 0, .int .i64 0, .int .i64 0, .int .i64 0, .int .i64 3, .int .i64 0, .int .i64 0, .int .i64 0, .int .i64 0] 49)).alloc (.cells #[.int .i64 4, .int .i64 0, .int .i64 0, .int .i64 0, .int .i64 0, .int .i64 4, .int .i64 0, .int .i64 0, .int .i64 0, .int .i64 0, .int .i64 4, .int .i64 0, .int .i64 0, .int .i64 0, .int .i64 0, .int .i64 4, .int .i64 0, .int .i64 0, .int .i64 0, .int .i64 0, .int .i64 4, .int .i64 0, .int .i64 0, .int .i64 0, .int .i64 0] 49))).drew) (by kernel_rfl) (by kernel_rfl) rfl rfl (by decide) (by decide) rfl rfl (Below.refl _ _) ?_ ?_
    · intro i o V w ho hS hV hd
      have hi : i < 26 := (Array.getElem?_eq_some_iff.1 ho).1
      have hi2 : i = 0 ∨ i = 1 ∨ i = 2 ∨ i = 3 ∨ i = 4 ∨ i = 5 ∨ i = 6 ∨ i = 7 ∨ i = 8 ∨ i = 9 ∨ i = 10 ∨ i = 11 ∨ i = 12 ∨ i = 13 ∨ i = 14 ∨ i = 15 ∨ i = 16 ∨ i = 17 ∨ i = 18 ∨ i = 19 ∨ i = 20 ∨ i = 21 ∨ i = 22 ∨ i = 23 ∨ i = 24 ∨ i = 25 := by omega
      clear hi
      rcases hi2 with rfl | rfl | rfl | rfl | rfl | rfl | rfl | rfl | rfl | rfl | rfl | rfl | rfl | rfl | rfl | rfl | rfl | rfl | rfl | rfl | rfl | rfl | rfl | rfl | rfl | rfl
      · obtain rfl : _ = o := Option.some.inj ((show _ = some _ from rfl).symm.trans ho)
        have x5 : V 5 = .slice (some ⟨wv.heap.size + 1 + 1, 0, none⟩) 4 4 := (hV 5 (by simp)).trans rfl
        refine ⟨fun _ => ?_, fun hw => absurd (show true = false from hw) (by decide)⟩
        · exact yield_copy (.inl rfl) ((frame_eval V (by decide)).trans x5) hS
      · obtain rfl : _ = o := Option.some.inj ((show _ = some _ from rfl).symm.trans ho)
        have d0 : V 43 = .slice (some ⟨wv.heap.size + 1 + 1, 0, none⟩) 4 4 := hd ⟨0, .data⟩ (by simp) rfl
        refine ⟨fun _ => ?_, fun hw => absurd (show true = false from hw) (by decide)⟩
        · exact yield_fold hf4 rfl ((frame_eval V (by decide)).trans d0) (hl5 _ hS) (by simp) hRb hS
      · obtain rfl : _ = o := Option.some.inj ((show _ = some _ from rfl).symm.trans ho)
        have d1 : IsOps [] w (V 44) := hd ⟨1, .data⟩ (by simp) rfl
        refine ⟨fun _ => ?_, fun hw => absurd (show true = false from hw) (by decide)⟩
        · exact yield_lenO rfl rfl (frame_eval V (by decide)) d1 hS
      · obtain rfl : _ = o := Option.some.inj ((show _ = some _ from rfl).symm.trans ho)
        have d2 : V 45 = .int .i64 ((0 : Nat) : Int) := hd ⟨2, .data⟩ (by simp) rfl
        refine ⟨fun _ => ?_, fun hw => absurd (show true = false from hw) (by decide)⟩
        · exact yield_eqlI rfl ((frame_eval V (by decide)).trans d2) rfl rfl hS
      · obtain rfl : _ = o := Option.some.inj ((show _ = some _ from rfl).symm.trans ho)
        have d3 : V 46 = .bool true := hd ⟨3, .data⟩ (by simp) rfl
        refine ⟨fun _ => ?_, fun hw => absurd (show true = false from hw) (by decide)⟩
        · exact yield_copy (.inl rfl) ((frame_eval V (by decide)).trans d3) hS
      · obtain rfl : _ = o := Option.some.inj ((show _ = some _ from rfl).symm.trans ho)
        have x6 : V 6 = .slice (some ⟨wv.heap.size + 1 + 1 + 1, 0, none⟩) 4 4 := (hV 6 (by simp)).trans rfl
        have gd : V 47 = .bool true := hd ⟨4, .guard⟩ (by simp) rfl
        refine ⟨fun _ => ?_, fun hw => absurd ((wanted_of rfl rfl (by decide) gd).symm.trans hw) (by decide)⟩
        · exact yield_copy (.inl rfl) ((frame_eval V (by decide)).trans x6) hS
      · obtain rfl : _ = o := Option.some.inj ((show _ = some _ from rfl).symm.trans ho)
        have d5 : V 48 = .slice (some ⟨wv.heap.size + 1 + 1 + 1, 0, none⟩) 4 4 := hd ⟨5, .data⟩ (by simp) rfl
        have gd : V 47 = .bool true := hd ⟨4, .guard⟩ (by simp) rfl
        refine ⟨fun _ => ?_, fun hw => absurd ((wanted_of rfl rfl (by decide) gd).symm.trans hw) (by decide)⟩
        · exact yield_fold hfb rfl ((frame_eval V (by decide)).trans d5) (hl6 _ hS) (by simp) hRb hS
      · obtain rfl : _ = o := Option.some.inj ((show _ = some _ from rfl).symm.trans ho)
        have d6 : IsOps [] w (V 49) := hd ⟨6, .data⟩ (by simp) rfl
        have gd : V 47 = .bool true := hd ⟨4, .guard⟩ (by simp) rfl
        refine ⟨fun _ => ?_, fun hw => absurd ((wanted_of rfl rfl (by decide) gd).symm.trans hw) (by decide)⟩
        · exact yield_lenO rfl rfl (frame_eval V (by decide)) d6 hS
      · obtain rfl : _ = o := Option.some.inj ((show _ = some _ from rfl).symm.trans ho)
        have d7 : V 50 = .int .i64 ((0 : Nat) : Int) := hd ⟨7, .data⟩ (by simp) rfl
        have gd : V 47 = .bool true := hd ⟨4, .guard⟩ (by simp) rfl
        refine ⟨fun _ => ?_, fun hw => absurd ((wanted_of rfl rfl (by decide) gd).symm.trans hw) (by decide)⟩
        · exact yield_eqlI rfl ((frame_eval V (by decide)).trans d7) rfl rfl hS
      · obtain rfl : _ = o := Option.some.inj ((show _ = some _ from rfl).symm.trans ho)
        have d4 : V 47 = .bool true := hd ⟨4, .data⟩ (by simp) rfl
        have d8 : V 51 = .bool true := hd ⟨8, .data⟩ (by simp) rfl
        refine ⟨fun _ => ?_, fun hw => absurd (show true = false from hw) (by decide)⟩
        · exact yield_pick rfl ((frame_eval V (by decide)).trans d4) ((frame_eval V (by decide)).trans d8) hS
      · obtain rfl : _ = o := Option.some.inj ((show _ = some _ from rfl).symm.trans ho)
        have d9 : V 52 = .bool true := hd ⟨9, .data⟩ (by simp) rfl
        refine ⟨fun _ => ?_, fun hw => absurd (show true = false from hw) (by decide)⟩
        · exact yield_copy (.inl rfl) ((frame_eval V (by decide)).trans d9) hS
      · obtain rfl : _ = o := Option.some.inj ((show _ = some _ from rfl).symm.trans ho)
        have x7 : V 7 = .slice (some ⟨wv.heap.size + 1 + 1 + 1 + 1, 0, none⟩) 5 5 := (hV 7 (by simp)).trans rfl
        have gd : V 53 = .bool true := hd ⟨10, .guard⟩ (by simp) rfl
        refine ⟨fun _ => ?_, fun hw => absurd ((wanted_of rfl rfl (by decide) gd).symm.trans hw) (by decide)⟩
        · exact yield_copy (.inl rfl) ((frame_eval V (by decide)).trans x7) hS
      · obtain rfl : _ = o := Option.some.inj ((show _ = some _ from rfl).symm.trans ho)
        have d11 : V 54 = .slice (some ⟨wv.heap.size + 1 + 1 + 1 + 1, 0, none⟩) 5 5 := hd ⟨11, .data⟩ (by simp) rfl
        have gd : V 53 = .bool true := hd ⟨10, .guard⟩ (by simp) rfl
        refine ⟨fun _ => ?_, fun hw => absurd ((wanted_of rfl rfl (by decide) gd).symm.trans hw) (by decide)⟩
        · exact yield_fold hf5 rfl ((frame_eval V (by decide)).trans d11) (hl7 _ hS) (by simp) hRb hS
      · obtain rfl : _ = o := Option.some.inj ((show _ = some _ from rfl).symm.trans ho)
        have x4 : V 4 = .pointer (some ⟨wv.heap.size + 1, 0, none⟩) := (hV 4 (by simp)).trans rfl
        have gd : V 53 = .bool true := hd ⟨10, .guard⟩ (by simp) rfl
        refine ⟨fun _ => ?_, fun hw => absurd ((wanted_of rfl rfl (by decide) gd).symm.trans hw) (by decide)⟩
        · exact yield_op rfl ((frame_eval V (by decide)).trans x4) hbt hS
      · obtain rfl : _ = o := Option.some.inj ((show _ = some _ from rfl).symm.trans ho)
        have d13 : V 56 = (oK 4).v := hd ⟨13, .data⟩ (by simp) rfl
        have gd : V 53 = .bool true := hd ⟨10, .guard⟩ (by simp) rfl
        refine ⟨fun _ => ?_, fun hw => absurd ((wanted_of rfl rfl (by decide) gd).symm.trans hw) (by decide)⟩
        · exact yield_ops1 rfl ((frame_eval V (by decide)).trans d13) hS
      · obtain rfl : _ = o := Option.some.inj ((show _ = some _ from rfl).symm.trans ho)
        have d12 : IsOps [(oK 4)] w (V 55) := hd ⟨12, .data⟩ (by simp) rfl
        have d14 : IsOps [(oK 4)] w (V 57) := hd ⟨14, .data⟩ (by simp) rfl
        have gd : V 53 = .bool true := hd ⟨10, .guard⟩ (by simp) rfl
        refine ⟨fun _ => ?_, fun hw => absurd ((wanted_of rfl rfl (by decide) gd).symm.trans hw) (by decide)⟩
        · exact yield_eaOps rfl (frame_eval V (by decide)) (frame_eval V (by decide)) d12 d14 (by simp) hS
      · obtain rfl : _ = o := Option.some.inj ((show _ = some _ from rfl).symm.trans ho)
        have d10 : V 53 = .bool true := hd ⟨10, .data⟩ (by simp) rfl
        have d15 : V 58 = .bool true := hd ⟨15, .data⟩ (by simp) rfl
        refine ⟨fun _ => ?_, fun hw => absurd (show true = false from hw) (by decide)⟩
        · exact yield_pick rfl ((frame_eval V (by decide)).trans d10) ((frame_eval V (by decide)).trans d15) hS
      · obtain rfl : _ = o := Option.some.inj ((show _ = some _ from rfl).symm.trans ho)
        have d16 : V 59 = .bool true := hd ⟨16, .data⟩ (by simp) rfl
        refine ⟨fun _ => ?_, fun hw => absurd (show true = false from hw) (by decide)⟩
        · exact yield_copy (.inl rfl) ((frame_eval V (by decide)).trans d16) hS
      · obtain rfl : _ = o := Option.some.inj ((show _ = some _ from rfl).symm.trans ho)
        have x3 : V 3 = .pointer (some ⟨wv.heap.size, 0, none⟩) := (hV 3 (by simp)).trans rfl
        have gd : V 60 = .bool true := hd ⟨17, .guard⟩ (by simp) rfl
        refine ⟨fun _ => ?_, fun hw => absurd ((wanted_of rfl rfl (by decide) gd).symm.trans hw) (by decide)⟩
        · exact yield_op rfl ((frame_eval V (by decide)).trans x3) hbx hS
      · obtain rfl : _ = o := Option.some.inj ((show _ = some _ from rfl).symm.trans ho)
        have d18 : V 61 = (oK 3).v := hd ⟨18, .data⟩ (by simp) rfl
        have gd : V 60 = .bool true := hd ⟨17, .guard⟩ (by simp) rfl
        refine ⟨fun _ => ?_, fun hw => absurd ((wanted_of rfl rfl (by decide) gd).symm.trans hw) (by decide)⟩
        · exact yield_ops1 rfl ((frame_eval V (by decide)).trans d18) hS
      · obtain rfl : _ = o := Option.some.inj ((show _ = some _ from rfl).symm.trans ho)
        have d19 : IsOps [(oK 3)] w (V 62) := hd ⟨19, .data⟩ (by simp) rfl
        have gd : V 60 = .bool true := hd ⟨17, .guard⟩ (by simp) rfl
        refine ⟨fun _ => ?_, fun hw => absurd ((wanted_of rfl rfl (by decide) gd).symm.trans hw) (by decide)⟩
        · exact yield_fold hfx rfl (frame_eval V (by decide)) d19 (by simp) hRb hS
      · obtain rfl : _ = o := Option.some.inj ((show _ = some _ from rfl).symm.trans ho)
        have x3 : V 3 = .pointer (some ⟨wv.heap.size, 0, none⟩) := (hV 3 (by simp)).trans rfl
        have gd : V 60 = .bool true := hd ⟨17, .guard⟩ (by simp) rfl
        refine ⟨fun _ => ?_, fun hw => absurd ((wanted_of rfl rfl (by decide) gd).symm.trans hw) (by decide)⟩
        · exact yield_op rfl ((frame_eval V (by decide)).trans x3) hbx hS
      · obtain rfl : _ = o := Option.some.inj ((show _ = some _ from rfl).symm.trans ho)
        have d21 : V 64 = (oK 3).v := hd ⟨21, .data⟩ (by simp) rfl
        have gd : V 60 = .bool true := hd ⟨17, .guard⟩ (by simp) rfl
        refine ⟨fun _ => ?_, fun hw => absurd ((wanted_of rfl rfl (by decide) gd).symm.trans hw) (by decide)⟩
        · exact yield_ops1 rfl ((frame_eval V (by decide)).trans d21) hS
      · obtain rfl : _ = o := Option.some.inj ((show _ = some _ from rfl).symm.trans ho)
        have d20 : IsOps [(oK 3)] w (V 63) := hd ⟨20, .data⟩ (by simp) rfl
        have d22 : IsOps [(oK 3)] w (V 65) := hd ⟨22, .data⟩ (by simp) rfl
        have gd : V 60 = .bool true := hd ⟨17, .guard⟩ (by simp) rfl
        refine ⟨fun _ => ?_, fun hw => absurd ((wanted_of rfl rfl (by decide) gd).symm.trans hw) (by decide)⟩
        · exact yield_eaOps rfl (frame_eval V (by decide)) (frame_eval V (by decide)) d20 d22 (by simp) hS
      · obtain rfl : _ = o := Option.some.inj ((show _ = some _ from rfl).symm.trans ho)
        have d17 : V 60 = .bool true := hd ⟨17, .data⟩ (by simp) rfl
        have d23 : V 66 = .bool true := hd ⟨23, .data⟩ (by simp) rfl
        refine ⟨fun _ => ?_, fun hw => absurd (show true = false from hw) (by decide)⟩
        · exact yield_pick rfl ((frame_eval V (by decide)).trans d17) ((frame_eval V (by decide)).trans d23) hS
      · obtain rfl : _ = o := Option.some.inj ((show _ = some _ from rfl).symm.trans ho)
        have d24 : V 67 = .bool true := hd ⟨24, .data⟩ (by simp) rfl
        refine ⟨fun _ => ?_, fun hw => absurd (show true = false from hw) (by decide)⟩
        · exact yield_copy (.inr rfl) ((frame_eval V (by decide)).trans d24) hS
    · intro V wx hS hV hall
      have d25 : V 2 = .bool true := hall 25 (by decide)
      rw [show frame 68 V = { tmps := #[V 0, V 1, V 2, V 3, V 4, V 5, V 6, V 7, V 8, V 9, V 10, V 11, V 12, V 13, V 14, V 15, V 16, V 17, V 18, V 19, V 20, V 21, V 22, V 23, V 24, V 25, V 26, V 27, V 28, V 29, V 30, V 31, V 32, V 33, V 34, V 35, V 36, V 37, V 38, V 39, V 40, V 41, V 42, V 43, V 44, V 45, V 46, V 47, V 48, V 49, V 50, V 51, V 52, V 53, V 54, V 55, V 56, V 57, V 58, V 59, V 60, V 61, V 62, V 63, V 64, V 65, V 66, V 67], defers := [] } from rfl, d25]
      have HE := Lib.hid (hBw.trans (hS.mono hBw.size))
      clear hall hV d25 hS hbx hbt hRb hBw hl5 hl6 hl7 hf4 hf5 hfb hfx HX HFS HWB
      go_wp2_with fail
      go_ret
      exact ⟨rfl, HE.out⟩
end Go.Proofs.YtiemlakjallphabDoor
