/-
  blurStep's closures of the program. Conditions: the elder is one, its pixels lie in memory that was there, what the closures captured lies in boxes.
-/
import Derived.Test.YtiemlakjallphabDoorCloA
import Derived.Test.YtiemlakjallphabDoorRes
import Derived.Test.YtiemlakjallphabDoorFlipI
import Derived.Test.YtiemlakjallphabDoorPushP
import Derived.Test.YtiemlakjallphabDoorCloM
namespace Go.Proofs.YtiemlakjallphabDoor
set_option maxRecDepth 4000
open Go.RowKit

theorem run_enter {P : Program} {f : FuncId} {fn : Func} {c : Code} (hf : P.funcs[f]? = some fn) (hname : (fn.name == "runtime.NumGoroutine") = false) (hb : fn.body = some c) (args : Array Value) (w : World) : (callFunc f args).run P w = .ok (.enter f args) w := by
  simp [callFunc, hf, hb]
  simpa using hname
/-- What a step answers: a raster, or nothing. -/
def Did (o : Option Ra) (w : World) (e : Ending) (w' : World) : Prop := ∃ A c, e = .returned (.tuple #[.agg #[.int .i64 ((o.getD ra0).w : Int), .int .i64 ((o.getD ra0).h : Int), .slice A (o.getD ra0).p.length c], .bool o.isSome]) ∧ (o.getD ra0).p.length ≤ c ∧ OwnP w' w.heap.size (.slice A (o.getD ra0).p.length c) (o.getD ra0).p ∧ Below w.heap.size w w'
set_option maxHeartbeats 2000000 in
theorem flipXStep_any (r : Ra) (A : Option Addr) (c : Nat)  (w : World) (hr : r.ok) (hc : r.p.length ≤ c) (h : HasP w w.heap.size A r.p)  :
    Calls Tryd.prog 92 #[raV r A c] w (Did (some (flipXR r)) w) := by
  unfold raV rasV
  have hb0 : Below w.heap.size w ((w.alloc (.cells #[.int .i64 (r.w : Int), .int .i64 (r.h : Int), .slice A r.p.length c] 30)).alloc (.cells #[.int .i64 0, .int .i64 0, .slice none 0 0] 30)) := ((Below.refl _ w).alloc (Nat.le_refl _) _).alloc (by simp) _
  have hR0 : RasAtB ((w.alloc (.cells #[.int .i64 (r.w : Int), .int .i64 (r.h : Int), .slice A r.p.length c] 30)).alloc (.cells #[.int .i64 0, .int .i64 0, .slice none 0 0] 30)) w.heap.size (r.w : Int) (r.h : Int) A r.p.length c 30 := Box.alloc (Box.new w _ _) _
  have hX0 : RasAtB ((w.alloc (.cells #[.int .i64 (r.w : Int), .int .i64 (r.h : Int), .slice A r.p.length c] 30)).alloc (.cells #[.int .i64 0, .int .i64 0, .slice none 0 0] 30)) (w.heap.size + 1) 0 0 none 0 0 30 := by
    have := Box.new (w.alloc (.cells #[.int .i64 (r.w : Int), .int .i64 (r.h : Int), .slice A r.p.length c] 30)) #[.int .i64 0, .int .i64 0, .slice none 0 0] 30
    rw [show (w.alloc (.cells #[.int .i64 (r.w : Int), .int .i64 (r.h : Int), .slice A r.p.length c] 30)).heap.size = w.heap.size + 1 from by simp] at this
    exact this
  have h0 := h.carry hb0 (Nat.le_refl _) hb0.size
  have hsz : ((w.alloc (.cells #[.int .i64 (r.w : Int), .int .i64 (r.h : Int), .slice A r.p.length c] 30)).alloc (.cells #[.int .i64 0, .int .i64 0, .slice none 0 0] 30)).heap.size = w.heap.size + 2 := by simp
  have CD0 := drawn_any 93 #[.pointer (some ⟨w.heap.size, 0, none⟩)] r.w r.h (fun x y => r.at (r.w - 1 - x) y) ((w.alloc (.cells #[.int .i64 (r.w : Int), .int .i64 (r.h : Int), .slice A r.p.length c] 30)).alloc (.cells #[.int .i64 0, .int .i64 0, .slice none 0 0] 30)) (hr.parts.1) (hr.parts.2.1) (run_enter Tryd.func93 (by kernel_rfl) rfl) (fun x y v hx hy hb => flipXPx_any r A c x y w.heap.size v hr hc (h0.carry hb (Nat.le_refl _) hb.size) (Box.below hR0 hb hR0.lt) hx hy)
  have CD : Hid (Calls Tryd.prog 89 #[.int .i64 (r.w : Int), .int .i64 (r.h : Int), .func (.func 93) #[] #[.pointer (some ⟨w.heap.size, 0, none⟩)]] ((w.alloc (.cells #[.int .i64 (r.w : Int), .int .i64 (r.h : Int), .slice A r.p.length c] 30)).alloc (.cells #[.int .i64 0, .int .i64 0, .slice none 0 0] 30)) (fun e w' => ∃ A' c', e = .returned (.agg #[.int .i64 (r.w : Int), .int .i64 (r.h : Int), .slice A' (flipXR r).p.length c']) ∧ (flipXR r).p.length ≤ c' ∧ OwnP w' ((w.alloc (.cells #[.int .i64 (r.w : Int), .int .i64 (r.h : Int), .slice A r.p.length c] 30)).alloc (.cells #[.int .i64 0, .int .i64 0, .slice none 0 0] 30)).heap.size (.slice A' (flipXR r).p.length c') (flipXR r).p ∧ Below ((w.alloc (.cells #[.int .i64 (r.w : Int), .int .i64 (r.h : Int), .slice A r.p.length c] 30)).alloc (.cells #[.int .i64 0, .int .i64 0, .slice none 0 0] 30)).heap.size ((w.alloc (.cells #[.int .i64 (r.w : Int), .int .i64 (r.h : Int), .slice A r.p.length c] 30)).alloc (.cells #[.int .i64 0, .int .i64 0, .slice none 0 0] 30)) w')) := Lib.hid CD0
  clear CD0
  have HG : Hid (∀ A' c' w', (flipXR r).p.length ≤ c' → OwnP w' w.heap.size (.slice A' (flipXR r).p.length c') (flipXR r).p → Below w.heap.size w w' → Did (some (flipXR r)) w (.returned (.tuple #[.agg #[.int .i64 (r.w : Int), .int .i64 (r.h : Int), .slice A' (flipXR r).p.length c'], .bool true])) w') := Lib.hid fun A' c' w' k1 k2 k3 => ⟨A', c', rfl, k1, k2, k3⟩
  generalize Did (some (flipXR r)) w = D at *
  generalize (flipXR r).p = l at *
  have r0 := hR0.c0
  have r1 := hR0.c1
  have HB0 := Lib.hid hb0
  have HX0 := Lib.hid hX0
  have HZ0 := Lib.hid hsz
  clear hb0 hR0 hX0 h0 h hr hc hsz
  go_enter Tryd.func92, Tryd.ntmps92
  go_wp2_with fail
  generalize ((w.alloc (.cells #[.int .i64 (r.w : Int), .int .i64 (r.h : Int), .slice A r.p.length c] 30)).alloc (.cells #[.int .i64 0, .int .i64 0, .slice none 0 0] 30)) = w0 at *
  refine CD.out.mono ?_
  rintro e w2 ⟨A2, c2, rfl, hc2, ho2, b2⟩
  have HXn := Lib.hid (HX0.out.below b2 HX0.out.lt)
  have HBn := Lib.hid (HB0.out.trans (b2.mono HB0.out.size))
  have HOn := Lib.hid (((ho2.set_low (b := w.heap.size + 1) (by have := HZ0.out; omega) 0 (.int .i64 (r.w : Int))).set_low (b := w.heap.size + 1) (by have := HZ0.out; omega) 1 (.int .i64 (r.h : Int))).set_low (b := w.heap.size + 1) (by have := HZ0.out; omega) 2 (.slice A2 l.length c2))
  have hz : w.heap.size ≤ w0.heap.size := HB0.out.size
  clear b2 ho2
  have q0 := HXn.out.c0
  have q1 := HXn.out.c1
  have q2 := HXn.out.c2
  have f0 := HXn.out.free 0
  have f1 := HXn.out.free 1
  have f2 := HXn.out.free 2
  go_wp2_with fail
  (try simp only [Exit.inBlock, Exit.then])
  refine bodyPost_ret (results_row_tmp rfl _ _ (w.heap.size + 1) 30 #[.int .i64 (r.w : Int), .int .i64 (r.h : Int), .slice A2 l.length c2] (0, 0) _ (.bool true) rfl rfl (fin_ras HXn.out _ _ _) Tryd.underlying30 rfl (by kernel_rfl)) rfl ?_
  exact HG.out _ _ _ hc2 (HOn.out.lower hz) (((HBn.out.setCell (by simp) _).setCell (by simp) _).setCell (by simp) _)
set_option maxHeartbeats 2000000 in
theorem turnStep_any (r : Ra) (A : Option Addr) (c : Nat)  (w : World) (hr : r.ok) (hc : r.p.length ≤ c) (h : HasP w w.heap.size A r.p)  :
    Calls Tryd.prog 96 #[raV r A c] w (Did (some (turnR r)) w) := by
  unfold raV rasV
  have hb0 : Below w.heap.size w ((w.alloc (.cells #[.int .i64 (r.w : Int), .int .i64 (r.h : Int), .slice A r.p.length c] 30)).alloc (.cells #[.int .i64 0, .int .i64 0, .slice none 0 0] 30)) := ((Below.refl _ w).alloc (Nat.le_refl _) _).alloc (by simp) _
  have hR0 : RasAtB ((w.alloc (.cells #[.int .i64 (r.w : Int), .int .i64 (r.h : Int), .slice A r.p.length c] 30)).alloc (.cells #[.int .i64 0, .int .i64 0, .slice none 0 0] 30)) w.heap.size (r.w : Int) (r.h : Int) A r.p.length c 30 := Box.alloc (Box.new w _ _) _
  have hX0 : RasAtB ((w.alloc (.cells #[.int .i64 (r.w : Int), .int .i64 (r.h : Int), .slice A r.p.length c] 30)).alloc (.cells #[.int .i64 0, .int .i64 0, .slice none 0 0] 30)) (w.heap.size + 1) 0 0 none 0 0 30 := by
    have := Box.new (w.alloc (.cells #[.int .i64 (r.w : Int), .int .i64 (r.h : Int), .slice A r.p.length c] 30)) #[.int .i64 0, .int .i64 0, .slice none 0 0] 30
    rw [show (w.alloc (.cells #[.int .i64 (r.w : Int), .int .i64 (r.h : Int), .slice A r.p.length c] 30)).heap.size = w.heap.size + 1 from by simp] at this
    exact this
  have h0 := h.carry hb0 (Nat.le_refl _) hb0.size
  have hsz : ((w.alloc (.cells #[.int .i64 (r.w : Int), .int .i64 (r.h : Int), .slice A r.p.length c] 30)).alloc (.cells #[.int .i64 0, .int .i64 0, .slice none 0 0] 30)).heap.size = w.heap.size + 2 := by simp
  have CD0 := drawn_any 97 #[.pointer (some ⟨w.heap.size, 0, none⟩)] r.h r.w (fun x y => r.at y (r.h - 1 - x)) ((w.alloc (.cells #[.int .i64 (r.w : Int), .int .i64 (r.h : Int), .slice A r.p.length c] 30)).alloc (.cells #[.int .i64 0, .int .i64 0, .slice none 0 0] 30)) (hr.parts.2.1) (hr.parts.1) (run_enter Tryd.func97 (by kernel_rfl) rfl) (fun x y v hx hy hb => turnPx_any r A c x y w.heap.size v hr hc (h0.carry hb (Nat.le_refl _) hb.size) (Box.below hR0 hb hR0.lt) hx hy)
  have CD : Hid (Calls Tryd.prog 89 #[.int .i64 (r.h : Int), .int .i64 (r.w : Int), .func (.func 97) #[] #[.pointer (some ⟨w.heap.size, 0, none⟩)]] ((w.alloc (.cells #[.int .i64 (r.w : Int), .int .i64 (r.h : Int), .slice A r.p.length c] 30)).alloc (.cells #[.int .i64 0, .int .i64 0, .slice none 0 0] 30)) (fun e w' => ∃ A' c', e = .returned (.agg #[.int .i64 (r.h : Int), .int .i64 (r.w : Int), .slice A' (turnR r).p.length c']) ∧ (turnR r).p.length ≤ c' ∧ OwnP w' ((w.alloc (.cells #[.int .i64 (r.w : Int), .int .i64 (r.h : Int), .slice A r.p.length c] 30)).alloc (.cells #[.int .i64 0, .int .i64 0, .slice none 0 0] 30)).heap.size (.slice A' (turnR r).p.length c') (turnR r).p ∧ Below ((w.alloc (.cells #[.int .i64 (r.w : Int), .int .i64 (r.h : Int), .slice A r.p.length c] 30)).alloc (.cells #[.int .i64 0, .int .i64 0, .slice none 0 0] 30)).heap.size ((w.alloc (.cells #[.int .i64 (r.w : Int), .int .i64 (r.h : Int), .slice A r.p.length c] 30)).alloc (.cells #[.int .i64 0, .int .i64 0, .slice none 0 0] 30)) w')) := Lib.hid CD0
  clear CD0
  have HG : Hid (∀ A' c' w', (turnR r).p.length ≤ c' → OwnP w' w.heap.size (.slice A' (turnR r).p.length c') (turnR r).p → Below w.heap.size w w' → Did (some (turnR r)) w (.returned (.tuple #[.agg #[.int .i64 (r.h : Int), .int .i64 (r.w : Int), .slice A' (turnR r).p.length c'], .bool true])) w') := Lib.hid fun A' c' w' k1 k2 k3 => ⟨A', c', rfl, k1, k2, k3⟩
  generalize Did (some (turnR r)) w = D at *
  generalize (turnR r).p = l at *
  have r0 := hR0.c0
  have r1 := hR0.c1
  have HB0 := Lib.hid hb0
  have HX0 := Lib.hid hX0
  have HZ0 := Lib.hid hsz
  clear hb0 hR0 hX0 h0 h hr hc hsz
  go_enter Tryd.func96, Tryd.ntmps96
  go_wp2_with fail
  generalize ((w.alloc (.cells #[.int .i64 (r.w : Int), .int .i64 (r.h : Int), .slice A r.p.length c] 30)).alloc (.cells #[.int .i64 0, .int .i64 0, .slice none 0 0] 30)) = w0 at *
  refine CD.out.mono ?_
  rintro e w2 ⟨A2, c2, rfl, hc2, ho2, b2⟩
  have HXn := Lib.hid (HX0.out.below b2 HX0.out.lt)
  have HBn := Lib.hid (HB0.out.trans (b2.mono HB0.out.size))
  have HOn := Lib.hid (((ho2.set_low (b := w.heap.size + 1) (by have := HZ0.out; omega) 0 (.int .i64 (r.h : Int))).set_low (b := w.heap.size + 1) (by have := HZ0.out; omega) 1 (.int .i64 (r.w : Int))).set_low (b := w.heap.size + 1) (by have := HZ0.out; omega) 2 (.slice A2 l.length c2))
  have hz : w.heap.size ≤ w0.heap.size := HB0.out.size
  clear b2 ho2
  have q0 := HXn.out.c0
  have q1 := HXn.out.c1
  have q2 := HXn.out.c2
  have f0 := HXn.out.free 0
  have f1 := HXn.out.free 1
  have f2 := HXn.out.free 2
  go_wp2_with fail
  (try simp only [Exit.inBlock, Exit.then])
  refine bodyPost_ret (results_row_tmp rfl _ _ (w.heap.size + 1) 30 #[.int .i64 (r.h : Int), .int .i64 (r.w : Int), .slice A2 l.length c2] (0, 0) _ (.bool true) rfl rfl (fin_ras HXn.out _ _ _) Tryd.underlying30 rfl (by kernel_rfl)) rfl ?_
  exact HG.out _ _ _ hc2 (HOn.out.lower hz) (((HBn.out.setCell (by simp) _).setCell (by simp) _).setCell (by simp) _)
set_option maxHeartbeats 2000000 in
theorem sizeStep_any (r : Ra) (A : Option Addr) (c : Nat) (o : Op) (a b gO : Nat) (w : World) (hr : r.ok) (hc : r.p.length ≤ c) (h : HasP w w.heap.size A r.p) (hO : OpAtB w gO o) (ha : o.a = (a : Int)) (hb2 : o.b = (b : Int)) (ha6 : 1 ≤ a ∧ a ≤ 6) (hb6 : 1 ≤ b ∧ b ≤ 6) :
    Calls Tryd.prog 103 #[raV r A c, .pointer (some ⟨gO, 0, none⟩)] w (Did (some (sizeR r a b)) w) := by
  unfold raV rasV
  have hb0 : Below w.heap.size w ((w.alloc (.cells #[.int .i64 (r.w : Int), .int .i64 (r.h : Int), .slice A r.p.length c] 30)).alloc (.cells #[.int .i64 0, .int .i64 0, .slice none 0 0] 30)) := ((Below.refl _ w).alloc (Nat.le_refl _) _).alloc (by simp) _
  have hR0 : RasAtB ((w.alloc (.cells #[.int .i64 (r.w : Int), .int .i64 (r.h : Int), .slice A r.p.length c] 30)).alloc (.cells #[.int .i64 0, .int .i64 0, .slice none 0 0] 30)) w.heap.size (r.w : Int) (r.h : Int) A r.p.length c 30 := Box.alloc (Box.new w _ _) _
  have hX0 : RasAtB ((w.alloc (.cells #[.int .i64 (r.w : Int), .int .i64 (r.h : Int), .slice A r.p.length c] 30)).alloc (.cells #[.int .i64 0, .int .i64 0, .slice none 0 0] 30)) (w.heap.size + 1) 0 0 none 0 0 30 := by
    have := Box.new (w.alloc (.cells #[.int .i64 (r.w : Int), .int .i64 (r.h : Int), .slice A r.p.length c] 30)) #[.int .i64 0, .int .i64 0, .slice none 0 0] 30
    rw [show (w.alloc (.cells #[.int .i64 (r.w : Int), .int .i64 (r.h : Int), .slice A r.p.length c] 30)).heap.size = w.heap.size + 1 from by simp] at this
    exact this
  have h0 := h.carry hb0 (Nat.le_refl _) hb0.size
  have hsz : ((w.alloc (.cells #[.int .i64 (r.w : Int), .int .i64 (r.h : Int), .slice A r.p.length c] 30)).alloc (.cells #[.int .i64 0, .int .i64 0, .slice none 0 0] 30)).heap.size = w.heap.size + 2 := by simp
  have hO0 := Box.alloc (Box.alloc hO (.cells #[.int .i64 (r.w : Int), .int .i64 (r.h : Int), .slice A r.p.length c] 30)) (.cells #[.int .i64 0, .int .i64 0, .slice none 0 0] 30)
  have o1 := Box.cell hO0 (i := 1) rfl
  have o2 := Box.cell hO0 (i := 2) rfl
  rw [ha] at o1
  rw [hb2] at o2
  have CD0 := drawn_any 104 #[.pointer (some ⟨w.heap.size, 0, none⟩), .pointer (some ⟨gO, 0, none⟩)] a b (fun x y => r.at ((2 * x + 1) * r.w / (2 * a)) ((2 * y + 1) * r.h / (2 * b))) ((w.alloc (.cells #[.int .i64 (r.w : Int), .int .i64 (r.h : Int), .slice A r.p.length c] 30)).alloc (.cells #[.int .i64 0, .int .i64 0, .slice none 0 0] 30)) (ha6) (hb6) (run_enter Tryd.func104 (by kernel_rfl) rfl) (fun x y v hx hy hb => sizePx_any r A c o a b gO x y w.heap.size v hr hc (h0.carry hb (Nat.le_refl _) hb.size) (Box.below hR0 hb hR0.lt) (Box.below hO0 hb hO0.lt) ha hb2 ha6.2 hb6.2 hx hy)
  have CD : Hid (Calls Tryd.prog 89 #[.int .i64 (a : Int), .int .i64 (b : Int), .func (.func 104) #[] #[.pointer (some ⟨w.heap.size, 0, none⟩), .pointer (some ⟨gO, 0, none⟩)]] ((w.alloc (.cells #[.int .i64 (r.w : Int), .int .i64 (r.h : Int), .slice A r.p.length c] 30)).alloc (.cells #[.int .i64 0, .int .i64 0, .slice none 0 0] 30)) (fun e w' => ∃ A' c', e = .returned (.agg #[.int .i64 (a : Int), .int .i64 (b : Int), .slice A' (sizeR r a b).p.length c']) ∧ (sizeR r a b).p.length ≤ c' ∧ OwnP w' ((w.alloc (.cells #[.int .i64 (r.w : Int), .int .i64 (r.h : Int), .slice A r.p.length c] 30)).alloc (.cells #[.int .i64 0, .int .i64 0, .slice none 0 0] 30)).heap.size (.slice A' (sizeR r a b).p.length c') (sizeR r a b).p ∧ Below ((w.alloc (.cells #[.int .i64 (r.w : Int), .int .i64 (r.h : Int), .slice A r.p.length c] 30)).alloc (.cells #[.int .i64 0, .int .i64 0, .slice none 0 0] 30)).heap.size ((w.alloc (.cells #[.int .i64 (r.w : Int), .int .i64 (r.h : Int), .slice A r.p.length c] 30)).alloc (.cells #[.int .i64 0, .int .i64 0, .slice none 0 0] 30)) w')) := Lib.hid CD0
  clear CD0
  have HG : Hid (∀ A' c' w', (sizeR r a b).p.length ≤ c' → OwnP w' w.heap.size (.slice A' (sizeR r a b).p.length c') (sizeR r a b).p → Below w.heap.size w w' → Did (some (sizeR r a b)) w (.returned (.tuple #[.agg #[.int .i64 (a : Int), .int .i64 (b : Int), .slice A' (sizeR r a b).p.length c'], .bool true])) w') := Lib.hid fun A' c' w' k1 k2 k3 => ⟨A', c', rfl, k1, k2, k3⟩
  generalize Did (some (sizeR r a b)) w = D at *
  generalize (sizeR r a b).p = l at *
  have r0 := hR0.c0
  have r1 := hR0.c1
  have HB0 := Lib.hid hb0
  have HX0 := Lib.hid hX0
  have HZ0 := Lib.hid hsz
  clear hb0 hR0 hX0 h0 h hr hc hsz
  go_enter Tryd.func103, Tryd.ntmps103
  clear hO hO0 ha hb2 ha6 hb6
  go_wp2_with fail
  generalize ((w.alloc (.cells #[.int .i64 (r.w : Int), .int .i64 (r.h : Int), .slice A r.p.length c] 30)).alloc (.cells #[.int .i64 0, .int .i64 0, .slice none 0 0] 30)) = w0 at *
  refine CD.out.mono ?_
  rintro e w2 ⟨A2, c2, rfl, hc2, ho2, b2⟩
  have HXn := Lib.hid (HX0.out.below b2 HX0.out.lt)
  have HBn := Lib.hid (HB0.out.trans (b2.mono HB0.out.size))
  have HOn := Lib.hid (((ho2.set_low (b := w.heap.size + 1) (by have := HZ0.out; omega) 0 (.int .i64 (a : Int))).set_low (b := w.heap.size + 1) (by have := HZ0.out; omega) 1 (.int .i64 (b : Int))).set_low (b := w.heap.size + 1) (by have := HZ0.out; omega) 2 (.slice A2 l.length c2))
  have hz : w.heap.size ≤ w0.heap.size := HB0.out.size
  clear b2 ho2
  have q0 := HXn.out.c0
  have q1 := HXn.out.c1
  have q2 := HXn.out.c2
  have f0 := HXn.out.free 0
  have f1 := HXn.out.free 1
  have f2 := HXn.out.free 2
  go_wp2_with fail
  (try simp only [Exit.inBlock, Exit.then])
  refine bodyPost_ret (results_row_tmp rfl _ _ (w.heap.size + 1) 30 #[.int .i64 (a : Int), .int .i64 (b : Int), .slice A2 l.length c2] (0, 0) _ (.bool true) rfl rfl (fin_ras HXn.out _ _ _) Tryd.underlying30 rfl (by kernel_rfl)) rfl ?_
  exact HG.out _ _ _ hc2 (HOn.out.lower hz) (((HBn.out.setCell (by simp) _).setCell (by simp) _).setCell (by simp) _)
set_option maxHeartbeats 2000000 in
theorem pixelStep_any (r : Ra) (A : Option Addr) (c : Nat) (F : FuncId) (caps : Array Value) (g : Px → Px) (gC : Nat) (w : World) (hr : r.ok) (hc : r.p.length ≤ c) (h : HasP w w.heap.size A r.p) (hC : Box w gC #[.func (.func F) #[] caps] 103) (hF : ∀ args v, (callFunc F args).run Tryd.prog v = .ok (.enter F args) v)
    (hCH : ∀ p v, pixB p = true → Below w.heap.size w v → Calls Tryd.prog F (#[p.v] ++ caps) v fun e v' => e = .returned (g p).v ∧ Below v.heap.size v v') :
    Calls Tryd.prog 113 #[raV r A c, .pointer (some ⟨gC, 0, none⟩)] w (Did (some (eachR g r)) w) := by
  unfold raV rasV
  have hb0 : Below w.heap.size w ((w.alloc (.cells #[.int .i64 (r.w : Int), .int .i64 (r.h : Int), .slice A r.p.length c] 30)).alloc (.cells #[.int .i64 0, .int .i64 0, .slice none 0 0] 30)) := ((Below.refl _ w).alloc (Nat.le_refl _) _).alloc (by simp) _
  have hR0 : RasAtB ((w.alloc (.cells #[.int .i64 (r.w : Int), .int .i64 (r.h : Int), .slice A r.p.length c] 30)).alloc (.cells #[.int .i64 0, .int .i64 0, .slice none 0 0] 30)) w.heap.size (r.w : Int) (r.h : Int) A r.p.length c 30 := Box.alloc (Box.new w _ _) _
  have hX0 : RasAtB ((w.alloc (.cells #[.int .i64 (r.w : Int), .int .i64 (r.h : Int), .slice A r.p.length c] 30)).alloc (.cells #[.int .i64 0, .int .i64 0, .slice none 0 0] 30)) (w.heap.size + 1) 0 0 none 0 0 30 := by
    have := Box.new (w.alloc (.cells #[.int .i64 (r.w : Int), .int .i64 (r.h : Int), .slice A r.p.length c] 30)) #[.int .i64 0, .int .i64 0, .slice none 0 0] 30
    rw [show (w.alloc (.cells #[.int .i64 (r.w : Int), .int .i64 (r.h : Int), .slice A r.p.length c] 30)).heap.size = w.heap.size + 1 from by simp] at this
    exact this
  have h0 := h.carry hb0 (Nat.le_refl _) hb0.size
  have hsz : ((w.alloc (.cells #[.int .i64 (r.w : Int), .int .i64 (r.h : Int), .slice A r.p.length c] 30)).alloc (.cells #[.int .i64 0, .int .i64 0, .slice none 0 0] 30)).heap.size = w.heap.size + 2 := by simp
  have hC0 := Box.alloc (Box.alloc hC (.cells #[.int .i64 (r.w : Int), .int .i64 (r.h : Int), .slice A r.p.length c] 30)) (.cells #[.int .i64 0, .int .i64 0, .slice none 0 0] 30)
  have CD0 := drawn_any 114 #[.pointer (some ⟨gC, 0, none⟩), .pointer (some ⟨w.heap.size, 0, none⟩)] r.w r.h (fun x y => g (r.at x y)) ((w.alloc (.cells #[.int .i64 (r.w : Int), .int .i64 (r.h : Int), .slice A r.p.length c] 30)).alloc (.cells #[.int .i64 0, .int .i64 0, .slice none 0 0] 30)) (hr.parts.1) (hr.parts.2.1) (run_enter Tryd.func114 (by kernel_rfl) rfl) (fun x y v hx hy hb => pixelPx_any F caps g r A c w.heap.size gC x y v hr hc (h0.carry hb (Nat.le_refl _) hb.size) (Box.below hR0 hb hR0.lt) (Box.below hC0 hb hC0.lt) hF (fun p u hp hb2 => hCH p u hp (hb0.trans ((hb.trans (hb2.mono hb.size)).mono hb0.size))) hx hy)
  have CD : Hid (Calls Tryd.prog 89 #[.int .i64 (r.w : Int), .int .i64 (r.h : Int), .func (.func 114) #[] #[.pointer (some ⟨gC, 0, none⟩), .pointer (some ⟨w.heap.size, 0, none⟩)]] ((w.alloc (.cells #[.int .i64 (r.w : Int), .int .i64 (r.h : Int), .slice A r.p.length c] 30)).alloc (.cells #[.int .i64 0, .int .i64 0, .slice none 0 0] 30)) (fun e w' => ∃ A' c', e = .returned (.agg #[.int .i64 (r.w : Int), .int .i64 (r.h : Int), .slice A' (eachR g r).p.length c']) ∧ (eachR g r).p.length ≤ c' ∧ OwnP w' ((w.alloc (.cells #[.int .i64 (r.w : Int), .int .i64 (r.h : Int), .slice A r.p.length c] 30)).alloc (.cells #[.int .i64 0, .int .i64 0, .slice none 0 0] 30)).heap.size (.slice A' (eachR g r).p.length c') (eachR g r).p ∧ Below ((w.alloc (.cells #[.int .i64 (r.w : Int), .int .i64 (r.h : Int), .slice A r.p.length c] 30)).alloc (.cells #[.int .i64 0, .int .i64 0, .slice none 0 0] 30)).heap.size ((w.alloc (.cells #[.int .i64 (r.w : Int), .int .i64 (r.h : Int), .slice A r.p.length c] 30)).alloc (.cells #[.int .i64 0, .int .i64 0, .slice none 0 0] 30)) w')) := Lib.hid CD0
  clear CD0
  have HG : Hid (∀ A' c' w', (eachR g r).p.length ≤ c' → OwnP w' w.heap.size (.slice A' (eachR g r).p.length c') (eachR g r).p → Below w.heap.size w w' → Did (some (eachR g r)) w (.returned (.tuple #[.agg #[.int .i64 (r.w : Int), .int .i64 (r.h : Int), .slice A' (eachR g r).p.length c'], .bool true])) w') := Lib.hid fun A' c' w' k1 k2 k3 => ⟨A', c', rfl, k1, k2, k3⟩
  generalize Did (some (eachR g r)) w = D at *
  generalize (eachR g r).p = l at *
  have r0 := hR0.c0
  have r1 := hR0.c1
  have HB0 := Lib.hid hb0
  have HX0 := Lib.hid hX0
  have HZ0 := Lib.hid hsz
  clear hb0 hR0 hX0 h0 h hr hc hsz
  go_enter Tryd.func113, Tryd.ntmps113
  clear hC hC0 hF hCH
  go_wp2_with fail
  generalize ((w.alloc (.cells #[.int .i64 (r.w : Int), .int .i64 (r.h : Int), .slice A r.p.length c] 30)).alloc (.cells #[.int .i64 0, .int .i64 0, .slice none 0 0] 30)) = w0 at *
  refine CD.out.mono ?_
  rintro e w2 ⟨A2, c2, rfl, hc2, ho2, b2⟩
  have HXn := Lib.hid (HX0.out.below b2 HX0.out.lt)
  have HBn := Lib.hid (HB0.out.trans (b2.mono HB0.out.size))
  have HOn := Lib.hid (((ho2.set_low (b := w.heap.size + 1) (by have := HZ0.out; omega) 0 (.int .i64 (r.w : Int))).set_low (b := w.heap.size + 1) (by have := HZ0.out; omega) 1 (.int .i64 (r.h : Int))).set_low (b := w.heap.size + 1) (by have := HZ0.out; omega) 2 (.slice A2 l.length c2))
  have hz : w.heap.size ≤ w0.heap.size := HB0.out.size
  clear b2 ho2
  have q0 := HXn.out.c0
  have q1 := HXn.out.c1
  have q2 := HXn.out.c2
  have f0 := HXn.out.free 0
  have f1 := HXn.out.free 1
  have f2 := HXn.out.free 2
  go_wp2_with fail
  (try simp only [Exit.inBlock, Exit.then])
  refine bodyPost_ret (results_row_tmp rfl _ _ (w.heap.size + 1) 30 #[.int .i64 (r.w : Int), .int .i64 (r.h : Int), .slice A2 l.length c2] (0, 0) _ (.bool true) rfl rfl (fin_ras HXn.out _ _ _) Tryd.underlying30 rfl (by kernel_rfl)) rfl ?_
  exact HG.out _ _ _ hc2 (HOn.out.lower hz) (((HBn.out.setCell (by simp) _).setCell (by simp) _).setCell (by simp) _)
end Go.Proofs.YtiemlakjallphabDoor
namespace Go.Proofs.YtiemlakjallphabDoor
set_option maxRecDepth 4000
open Go.RowKit

set_option maxHeartbeats 2000000 in
theorem cropStep_good (r : Ra) (A : Option Addr) (c : Nat) (o : Op) (a b m n gO : Nat) (w : World) (hr : r.ok) (hc : r.p.length ≤ c) (h : HasP w w.heap.size A r.p) (hO : OpAtB w gO o) (h1 : o.a = (a : Int)) (h2 : o.b = (b : Int)) (h3 : o.c = (m : Int)) (h4 : o.d = (n : Int)) (hm : 1 ≤ m) (hn : 1 ≤ n) (ham : a + m ≤ r.w) (hbn : b + n ≤ r.h) :
    Calls Tryd.prog 88 #[raV r A c, .pointer (some ⟨gO, 0, none⟩)] w (Did (some (cropR r a b m n)) w) := by
  unfold raV rasV
  have hb0 : Below w.heap.size w ((w.alloc (.cells #[.int .i64 (r.w : Int), .int .i64 (r.h : Int), .slice A r.p.length c] 30)).alloc (.cells #[.int .i64 0, .int .i64 0, .slice none 0 0] 30)) := ((Below.refl _ w).alloc (Nat.le_refl _) _).alloc (by simp) _
  have hR0 : RasAtB ((w.alloc (.cells #[.int .i64 (r.w : Int), .int .i64 (r.h : Int), .slice A r.p.length c] 30)).alloc (.cells #[.int .i64 0, .int .i64 0, .slice none 0 0] 30)) w.heap.size (r.w : Int) (r.h : Int) A r.p.length c 30 := Box.alloc (Box.new w _ _) _
  have hX0 : RasAtB ((w.alloc (.cells #[.int .i64 (r.w : Int), .int .i64 (r.h : Int), .slice A r.p.length c] 30)).alloc (.cells #[.int .i64 0, .int .i64 0, .slice none 0 0] 30)) (w.heap.size + 1) 0 0 none 0 0 30 := by
    have := Box.new (w.alloc (.cells #[.int .i64 (r.w : Int), .int .i64 (r.h : Int), .slice A r.p.length c] 30)) #[.int .i64 0, .int .i64 0, .slice none 0 0] 30
    rw [show (w.alloc (.cells #[.int .i64 (r.w : Int), .int .i64 (r.h : Int), .slice A r.p.length c] 30)).heap.size = w.heap.size + 1 from by simp] at this
    exact this
  have h0 := h.carry hb0 (Nat.le_refl _) hb0.size
  have hsz : ((w.alloc (.cells #[.int .i64 (r.w : Int), .int .i64 (r.h : Int), .slice A r.p.length c] 30)).alloc (.cells #[.int .i64 0, .int .i64 0, .slice none 0 0] 30)).heap.size = w.heap.size + 2 := by simp
  have hO0 := Box.alloc (Box.alloc hO (.cells #[.int .i64 (r.w : Int), .int .i64 (r.h : Int), .slice A r.p.length c] 30)) (.cells #[.int .i64 0, .int .i64 0, .slice none 0 0] 30)
  have o1 := Box.cell hO0 (i := 1) rfl
  have o2 := Box.cell hO0 (i := 2) rfl
  have o3 := Box.cell hO0 (i := 3) rfl
  have o4 := Box.cell hO0 (i := 4) rfl
  rw [h1] at o1
  rw [h2] at o2
  rw [h3] at o3
  rw [h4] at o4
  have hw6 := hr.parts.1
  have hh6 := hr.parts.2.1
  have t1 : ¬ ((a : Int) + (m : Int) > (r.w : Int)) := by omega
  have t2 : ¬ ((b : Int) + (n : Int) > (r.h : Int)) := by omega
  have CD0 := drawn_any 90 #[.pointer (some ⟨w.heap.size, 0, none⟩), .pointer (some ⟨gO, 0, none⟩)] m n (fun x y => r.at (a + x) (b + y)) ((w.alloc (.cells #[.int .i64 (r.w : Int), .int .i64 (r.h : Int), .slice A r.p.length c] 30)).alloc (.cells #[.int .i64 0, .int .i64 0, .slice none 0 0] 30)) (⟨hm, by omega⟩) (⟨hn, by omega⟩) (run_enter Tryd.func90 (by kernel_rfl) rfl) (fun x y v hx hy hb => cropPx_any r A c o a b gO x y w.heap.size v hr hc (h0.carry hb (Nat.le_refl _) hb.size) (Box.below hR0 hb hR0.lt) (Box.below hO0 hb hO0.lt) h1 h2 (by omega) (by omega))
  have CD : Hid (Calls Tryd.prog 89 #[.int .i64 (m : Int), .int .i64 (n : Int), .func (.func 90) #[] #[.pointer (some ⟨w.heap.size, 0, none⟩), .pointer (some ⟨gO, 0, none⟩)]] ((w.alloc (.cells #[.int .i64 (r.w : Int), .int .i64 (r.h : Int), .slice A r.p.length c] 30)).alloc (.cells #[.int .i64 0, .int .i64 0, .slice none 0 0] 30)) (fun e w' => ∃ A' c', e = .returned (.agg #[.int .i64 (m : Int), .int .i64 (n : Int), .slice A' (cropR r a b m n).p.length c']) ∧ (cropR r a b m n).p.length ≤ c' ∧ OwnP w' ((w.alloc (.cells #[.int .i64 (r.w : Int), .int .i64 (r.h : Int), .slice A r.p.length c] 30)).alloc (.cells #[.int .i64 0, .int .i64 0, .slice none 0 0] 30)).heap.size (.slice A' (cropR r a b m n).p.length c') (cropR r a b m n).p ∧ Below ((w.alloc (.cells #[.int .i64 (r.w : Int), .int .i64 (r.h : Int), .slice A r.p.length c] 30)).alloc (.cells #[.int .i64 0, .int .i64 0, .slice none 0 0] 30)).heap.size ((w.alloc (.cells #[.int .i64 (r.w : Int), .int .i64 (r.h : Int), .slice A r.p.length c] 30)).alloc (.cells #[.int .i64 0, .int .i64 0, .slice none 0 0] 30)) w')) := Lib.hid CD0
  clear CD0
  have HG : Hid (∀ A' c' w', (cropR r a b m n).p.length ≤ c' → OwnP w' w.heap.size (.slice A' (cropR r a b m n).p.length c') (cropR r a b m n).p → Below w.heap.size w w' → Did (some (cropR r a b m n)) w (.returned (.tuple #[.agg #[.int .i64 (m : Int), .int .i64 (n : Int), .slice A' (cropR r a b m n).p.length c'], .bool true])) w') := Lib.hid fun A' c' w' k1 k2 k3 => ⟨A', c', rfl, k1, k2, k3⟩
  generalize Did (some (cropR r a b m n)) w = D at *
  generalize (cropR r a b m n).p = l at *
  have r0 := hR0.c0
  have r1 := hR0.c1
  have HB0 := Lib.hid hb0
  have HX0 := Lib.hid hX0
  have HZ0 := Lib.hid hsz
  clear hb0 hR0 hX0 h0 h hr hc hsz
  go_enter Tryd.func88, Tryd.ntmps88
  have b1 : a ≤ 6 ∧ b ≤ 6 ∧ m ≤ 6 ∧ n ≤ 6 := by omega
  clear hO hO0 h1 h2 h3 h4 hm hn ham hbn
  go_wp2_with fail
  generalize ((w.alloc (.cells #[.int .i64 (r.w : Int), .int .i64 (r.h : Int), .slice A r.p.length c] 30)).alloc (.cells #[.int .i64 0, .int .i64 0, .slice none 0 0] 30)) = w0 at *
  refine CD.out.mono ?_
  rintro e w2 ⟨A2, c2, rfl, hc2, ho2, b2⟩
  have HXn := Lib.hid (HX0.out.below b2 HX0.out.lt)
  have HBn := Lib.hid (HB0.out.trans (b2.mono HB0.out.size))
  have HOn := Lib.hid (((ho2.set_low (b := w.heap.size + 1) (by have := HZ0.out; omega) 0 (.int .i64 (m : Int))).set_low (b := w.heap.size + 1) (by have := HZ0.out; omega) 1 (.int .i64 (n : Int))).set_low (b := w.heap.size + 1) (by have := HZ0.out; omega) 2 (.slice A2 l.length c2))
  have hz : w.heap.size ≤ w0.heap.size := HB0.out.size
  clear b2 ho2
  have q0 := HXn.out.c0
  have q1 := HXn.out.c1
  have q2 := HXn.out.c2
  have f0 := HXn.out.free 0
  have f1 := HXn.out.free 1
  have f2 := HXn.out.free 2
  go_wp2_with fail
  (try simp only [Exit.inBlock, Exit.then])
  refine bodyPost_ret (results_row_tmp rfl _ _ (w.heap.size + 1) 30 #[.int .i64 (m : Int), .int .i64 (n : Int), .slice A2 l.length c2] (0, 0) _ (.bool true) rfl rfl (fin_ras HXn.out _ _ _) Tryd.underlying30 rfl (by kernel_rfl)) rfl ?_
  exact HG.out _ _ _ hc2 (HOn.out.lower hz) (((HBn.out.setCell (by simp) _).setCell (by simp) _).setCell (by simp) _)
theorem did_none (w : World) (A : Option Addr) {w' : World} (hb : Below w.heap.size w w') (hA : A = none) : Did none w (.returned (.tuple #[.agg #[.int .i64 0, .int .i64 0, .slice A 0 0], .bool false])) w' := by
  subst hA
  exact ⟨none, 0, rfl, Nat.le_refl _, ownP_nil _ _, hb⟩
set_option maxHeartbeats 2000000 in
theorem cropStep_bad (r : Ra) (A : Option Addr) (c : Nat) (o : Op) (a b m n gO : Nat) (w : World) (hr : r.ok) (hO : OpAtB w gO o) (h1 : o.a = (a : Int)) (h2 : o.b = (b : Int)) (h3 : o.c = (m : Int)) (h4 : o.d = (n : Int)) (b1 : a ≤ 6 ∧ b ≤ 6 ∧ m ≤ 6 ∧ n ≤ 6) (hbad : a + m > r.w ∨ b + n > r.h) :
    Calls Tryd.prog 88 #[raV r A c, .pointer (some ⟨gO, 0, none⟩)] w (Did none w) := by
  unfold raV rasV
  have hb0 : Below w.heap.size w ((w.alloc (.cells #[.int .i64 (r.w : Int), .int .i64 (r.h : Int), .slice A r.p.length c] 30)).alloc (.cells #[.int .i64 0, .int .i64 0, .slice none 0 0] 30)) := ((Below.refl _ w).alloc (Nat.le_refl _) _).alloc (by simp) _
  have hR0 : RasAtB ((w.alloc (.cells #[.int .i64 (r.w : Int), .int .i64 (r.h : Int), .slice A r.p.length c] 30)).alloc (.cells #[.int .i64 0, .int .i64 0, .slice none 0 0] 30)) w.heap.size (r.w : Int) (r.h : Int) A r.p.length c 30 := Box.alloc (Box.new w _ _) _
  have hX0 : RasAtB ((w.alloc (.cells #[.int .i64 (r.w : Int), .int .i64 (r.h : Int), .slice A r.p.length c] 30)).alloc (.cells #[.int .i64 0, .int .i64 0, .slice none 0 0] 30)) (w.heap.size + 1) 0 0 none 0 0 30 := by
    have := Box.new (w.alloc (.cells #[.int .i64 (r.w : Int), .int .i64 (r.h : Int), .slice A r.p.length c] 30)) #[.int .i64 0, .int .i64 0, .slice none 0 0] 30
    rw [show (w.alloc (.cells #[.int .i64 (r.w : Int), .int .i64 (r.h : Int), .slice A r.p.length c] 30)).heap.size = w.heap.size + 1 from by simp] at this
    exact this
  have hO0 := Box.alloc (Box.alloc hO (.cells #[.int .i64 (r.w : Int), .int .i64 (r.h : Int), .slice A r.p.length c] 30)) (.cells #[.int .i64 0, .int .i64 0, .slice none 0 0] 30)
  have o1 := Box.cell hO0 (i := 1) rfl
  have o2 := Box.cell hO0 (i := 2) rfl
  have o3 := Box.cell hO0 (i := 3) rfl
  have o4 := Box.cell hO0 (i := 4) rfl
  rw [h1] at o1
  rw [h2] at o2
  rw [h3] at o3
  rw [h4] at o4
  have hw6 := hr.parts.1
  have hh6 := hr.parts.2.1
  have HB0 := Lib.hid hb0
  have HX0 := Lib.hid hX0
  have r0 := hR0.c0
  have r1 := hR0.c1
  clear hO hO0 h1 h2 h3 h4 hb0 hR0 hX0 hr
  by_cases t1 : (a : Int) + (m : Int) > (r.w : Int)
  · go_enter Tryd.func88, Tryd.ntmps88
    go_wp2_with fail
    generalize ((w.alloc (.cells #[.int .i64 (r.w : Int), .int .i64 (r.h : Int), .slice A r.p.length c] 30)).alloc (.cells #[.int .i64 0, .int .i64 0, .slice none 0 0] 30)) = w0 at *
    (try simp only [Exit.inBlock, Exit.then])
    refine bodyPost_ret (results_row_tmp rfl _ _ (w.heap.size + 1) 30 #[.int .i64 0, .int .i64 0, .slice none 0 0] (0, 0) _ (.bool false) rfl rfl HX0.out Tryd.underlying30 rfl (by kernel_rfl)) rfl ?_
    exact did_none w none HB0.out rfl
  · have t2 : (b : Int) + (n : Int) > (r.h : Int) := by omega
    go_enter Tryd.func88, Tryd.ntmps88
    go_wp2_with fail
    generalize ((w.alloc (.cells #[.int .i64 (r.w : Int), .int .i64 (r.h : Int), .slice A r.p.length c] 30)).alloc (.cells #[.int .i64 0, .int .i64 0, .slice none 0 0] 30)) = w0 at *
    (try simp only [Exit.inBlock, Exit.then])
    refine bodyPost_ret (results_row_tmp rfl _ _ (w.heap.size + 1) 30 #[.int .i64 0, .int .i64 0, .slice none 0 0] (0, 0) _ (.bool false) rfl rfl HX0.out Tryd.underlying30 rfl (by kernel_rfl)) rfl ?_
    exact did_none w none HB0.out rfl
theorem tab_first (W m : Nat) (g : Nat → Nat → Px) (hW : 0 < W) : tab W (W + m) g = (List.range W).map (fun x => g x 0) ++ tab W m (fun x y => g x (y + 1)) := by
  refine List.ext_getElem? fun i => ?_
  by_cases h1 : i < W
  · rw [tab_at g (by omega), List.getElem?_append_left (by simpa using h1), List.getElem?_map, List.getElem?_range h1, Nat.mod_eq_of_lt h1, Nat.div_eq_of_lt h1]
    rfl
  · rw [List.getElem?_append_right (by simpa using h1), List.length_map, List.length_range]
    by_cases h2 : i < W + m
    · rw [tab_at g h2, tab_at _ (by omega)]
      obtain ⟨j, rfl⟩ : ∃ j, i = j + W := ⟨i - W, by omega⟩
      rw [Nat.add_mod_right, Nat.add_div_right _ hW, Nat.add_sub_cancel]
    · rw [List.getElem?_eq_none (by rw [tab_length]; omega), List.getElem?_eq_none (by rw [tab_length]; omega)]
theorem flipN_tab {r : Ra} (h : r.ok) : ∀ n, n ≤ r.h → flipN r.w r.p n = tab r.w (r.w * n) (fun x y => r.at x (n - 1 - y))
  | 0, _ => by rw [Nat.mul_zero, tab_zero]; rfl
  | n + 1, hn => by
    have h1 := h.parts.1
    rw [flipN, flipN_tab h n (by omega), Nat.mul_add, Nat.mul_one, Nat.add_comm, tab_first _ _ _ (by omega)]
    congr 1
    · refine List.ext_getElem? fun i => ?_
      by_cases hi : i < r.w
      · rw [List.getElem?_map, List.getElem?_range hi]
        unfold rowP
        rw [List.getElem?_take_of_lt hi, List.getElem?_drop, (h.at hi (show n < r.h by omega)).1]
        rfl
      · rw [List.getElem?_eq_none (by rw [rowP_length (by rw [h.parts.2.2.1]) (show n < r.h by omega)]; omega), List.getElem?_eq_none (by simp; omega)]
    · unfold tab
      refine List.map_congr_left fun i _ => ?_
      show r.at (i % r.w) (n - 1 - i / r.w) = r.at (i % r.w) (n + 1 - 1 - (i / r.w + 1))
      rw [show n + 1 - 1 - (i / r.w + 1) = n - 1 - i / r.w from by omega]
theorem flipR_is {r : Ra} (h : r.ok) : flipR r.w r.h r.p = (flipYR r).p := by
  unfold flipR
  rw [Int.toNat_natCast, Int.toNat_natCast, flipN_tab h r.h (Nat.le_refl _)]
  rfl
set_option maxHeartbeats 2000000 in
theorem flipYStep_any (r : Ra) (A : Option Addr) (c : Nat) (w : World) (hr : r.ok) (hc : r.p.length ≤ c) (h : HasP w w.heap.size A r.p) :
    Calls Tryd.prog 94 #[raV r A c] w (Did (some (flipYR r)) w) := by
  unfold raV
  have hb0 : Below w.heap.size w ((w.alloc (.cells #[.int .i64 (r.w : Int), .int .i64 (r.h : Int), .slice A r.p.length c] 30)).alloc (.cells #[.int .i64 0, .int .i64 0, .slice none 0 0] 30)) := ((Below.refl _ w).alloc (Nat.le_refl _) _).alloc (by simp) _
  have hX0 : RasAtB ((w.alloc (.cells #[.int .i64 (r.w : Int), .int .i64 (r.h : Int), .slice A r.p.length c] 30)).alloc (.cells #[.int .i64 0, .int .i64 0, .slice none 0 0] 30)) (w.heap.size + 1) 0 0 none 0 0 30 := by
    have := Box.new (w.alloc (.cells #[.int .i64 (r.w : Int), .int .i64 (r.h : Int), .slice A r.p.length c] 30)) #[.int .i64 0, .int .i64 0, .slice none 0 0] 30
    rw [show (w.alloc (.cells #[.int .i64 (r.w : Int), .int .i64 (r.h : Int), .slice A r.p.length c] 30)).heap.size = w.heap.size + 1 from by simp] at this
    exact this
  have hsz : ((w.alloc (.cells #[.int .i64 (r.w : Int), .int .i64 (r.h : Int), .slice A r.p.length c] 30)).alloc (.cells #[.int .i64 0, .int .i64 0, .slice none 0 0] 30)).heap.size = w.heap.size + 2 := by simp
  have hlen : (flipYR r).p.length = r.p.length := by rw [(flipYR_ok hr).parts.2.2.1, hr.parts.2.2.1]; rfl
  have CF := Lib.hid (rowsReversed_any r.w r.h A c r.p ((w.alloc (.cells #[.int .i64 (r.w : Int), .int .i64 (r.h : Int), .slice A r.p.length c] 30)).alloc (.cells #[.int .i64 0, .int .i64 0, .slice none 0 0] 30)) hr hc (h.carry hb0 (Nat.le_refl _) hb0.size))
  rw [flipR_is hr] at CF
  unfold Flipped rasV at CF
  unfold rasV
  have HG : Hid (∀ A' c' w', (flipYR r).p.length ≤ c' → OwnP w' w.heap.size (.slice A' (flipYR r).p.length c') (flipYR r).p → Below w.heap.size w w' → Did (some (flipYR r)) w (.returned (.tuple #[.agg #[.int .i64 (r.w : Int), .int .i64 (r.h : Int), .slice A' (flipYR r).p.length c'], .bool true])) w') := Lib.hid fun A' c' w' k1 k2 k3 => ⟨A', c', rfl, k1, k2, k3⟩
  generalize Did (some (flipYR r)) w = D at *
  generalize (flipYR r).p = l at *
  have HB0 := Lib.hid hb0
  have HX0 := Lib.hid hX0
  have HZ0 := Lib.hid hsz
  have HL := Lib.hid hlen
  clear hb0 hX0 h hr hc hsz hlen
  go_enter Tryd.func94, Tryd.ntmps94
  go_wp2_with fail
  generalize ((w.alloc (.cells #[.int .i64 (r.w : Int), .int .i64 (r.h : Int), .slice A r.p.length c] 30)).alloc (.cells #[.int .i64 0, .int .i64 0, .slice none 0 0] 30)) = w0 at *
  refine CF.out.mono ?_
  rintro e w2 ⟨A2, c2, rfl, hc2, ho2, b2⟩
  have HXn := Lib.hid (HX0.out.below b2 HX0.out.lt)
  have HBn := Lib.hid (HB0.out.trans (b2.mono HB0.out.size))
  have HOn := Lib.hid (((ho2.set_low (b := w.heap.size + 1) (by have := HZ0.out; omega) 0 (.int .i64 (r.w : Int))).set_low (b := w.heap.size + 1) (by have := HZ0.out; omega) 1 (.int .i64 (r.h : Int))).set_low (b := w.heap.size + 1) (by have := HZ0.out; omega) 2 (.slice A2 l.length c2))
  have hz : w.heap.size ≤ w0.heap.size := HB0.out.size
  clear b2 ho2
  have q0 := HXn.out.c0
  have q1 := HXn.out.c1
  have q2 := HXn.out.c2
  have f0 := HXn.out.free 0
  have f1 := HXn.out.free 1
  have f2 := HXn.out.free 2
  go_wp2_with fail
  (try simp only [Exit.inBlock, Exit.then])
  refine bodyPost_ret (results_row_tmp rfl _ _ (w.heap.size + 1) 30 #[.int .i64 (r.w : Int), .int .i64 (r.h : Int), .slice A2 l.length c2] (0, 0) _ (.bool true) rfl rfl (fin_ras HXn.out _ _ _) Tryd.underlying30 rfl (by kernel_rfl)) rfl ?_
  exact HG.out _ _ _ hc2 (HOn.out.lower hz) (((HBn.out.setCell (by simp) _).setCell (by simp) _).setCell (by simp) _)
end Go.Proofs.YtiemlakjallphabDoor
namespace Go.Proofs.YtiemlakjallphabDoor
set_option maxRecDepth 4000
open Go.RowKit

set_option maxHeartbeats 1000000 in
theorem blurPx_any (r : Ra) (A : Option Addr) (c : Nat)  (x y gR : Nat) (w : World) (hr : r.ok) (hc : r.p.length ≤ c) (h : HasP w w.heap.size A r.p) (hR : RasAtB w gR r.w r.h A r.p.length c 30) (hx : x < r.w) (hy : y < r.h) :
    Calls Tryd.prog 101 #[.int .i64 (x : Int), .int .i64 (y : Int), .pointer (some ⟨gR, 0, none⟩)] w fun e w' => e = .returned (meanP r x y).v ∧ Below w.heap.size w w' := by
  have hb0 : Below w.heap.size w (w.alloc (.cells #[.int .i64 0, .int .i64 0, .int .i64 0, .int .i64 0] 62)) := (Below.refl _ w).alloc (Nat.le_refl _) _
  have hx0 : Box (w.alloc (.cells #[.int .i64 0, .int .i64 0, .int .i64 0, .int .i64 0] 62)) w.heap.size #[.int .i64 0, .int .i64 0, .int .i64 0, .int .i64 0] 62 := Box.new w _ _
  have hR0 := Box.alloc hR (.cells #[.int .i64 0, .int .i64 0, .int .i64 0, .int .i64 0] 62)
  have CP := Lib.hid (meanAround_any r A c x y _ hr hx hy hc (h.carry hb0 (Nat.le_refl _) hb0.size))
  obtain ⟨p, hp⟩ : ∃ p, meanP r x y = p := ⟨_, rfl⟩
  rw [hp] at CP ⊢
  unfold raV rasV Px.v at CP
  unfold Px.v
  have c0 := Box.cell hR0 (i := 0) rfl
  have c1 := Box.cell hR0 (i := 1) rfl
  have c2 := Box.cell hR0 (i := 2) rfl
  have HB0 := Lib.hid hb0
  have HX0 := Lib.hid hx0
  clear hb0 hx0 hR0 hR h hp hr hc
  go_enter Tryd.func101, Tryd.ntmps101
  go_wp2_with fail
  refine CP.out.mono ?_
  rintro e w2 ⟨rfl, b2⟩
  have HXn := Lib.hid (HX0.out.below b2 HX0.out.lt)
  have HBn := Lib.hid (HB0.out.trans (b2.mono HB0.out.size))
  clear b2
  have q0 := HXn.out.cell (i := 0) rfl
  have q1 := HXn.out.cell (i := 1) rfl
  have q2 := HXn.out.cell (i := 2) rfl
  have q3 := HXn.out.cell (i := 3) rfl
  have f0 := HXn.out.free 0
  have f1 := HXn.out.free 1
  have f2 := HXn.out.free 2
  have f3 := HXn.out.free 3
  go_wp2_with fail
  (try simp only [Exit.inBlock, Exit.then])
  refine bodyPost_ret (results_cell_row rfl _ _ w.heap.size 62 #[.int .i64 p.r, .int .i64 p.g, .int .i64 p.b, .int .i64 p.a] (0, 0) _ rfl (fin_px HXn.out p) Tryd.underlying62 rfl (by kernel_rfl)) rfl ?_
  exact ⟨rfl, below_px HBn.out (Nat.le_refl _) _ _ _ _⟩
set_option maxHeartbeats 2000000 in
theorem blurStep_any (r : Ra) (A : Option Addr) (c : Nat)  (w : World) (hr : r.ok) (hc : r.p.length ≤ c) (h : HasP w w.heap.size A r.p)  :
    Calls Tryd.prog 100 #[raV r A c] w (Did (some (blurR r)) w) := by
  unfold raV rasV
  have hb0 : Below w.heap.size w ((w.alloc (.cells #[.int .i64 (r.w : Int), .int .i64 (r.h : Int), .slice A r.p.length c] 30)).alloc (.cells #[.int .i64 0, .int .i64 0, .slice none 0 0] 30)) := ((Below.refl _ w).alloc (Nat.le_refl _) _).alloc (by simp) _
  have hR0 : RasAtB ((w.alloc (.cells #[.int .i64 (r.w : Int), .int .i64 (r.h : Int), .slice A r.p.length c] 30)).alloc (.cells #[.int .i64 0, .int .i64 0, .slice none 0 0] 30)) w.heap.size (r.w : Int) (r.h : Int) A r.p.length c 30 := Box.alloc (Box.new w _ _) _
  have hX0 : RasAtB ((w.alloc (.cells #[.int .i64 (r.w : Int), .int .i64 (r.h : Int), .slice A r.p.length c] 30)).alloc (.cells #[.int .i64 0, .int .i64 0, .slice none 0 0] 30)) (w.heap.size + 1) 0 0 none 0 0 30 := by
    have := Box.new (w.alloc (.cells #[.int .i64 (r.w : Int), .int .i64 (r.h : Int), .slice A r.p.length c] 30)) #[.int .i64 0, .int .i64 0, .slice none 0 0] 30
    rw [show (w.alloc (.cells #[.int .i64 (r.w : Int), .int .i64 (r.h : Int), .slice A r.p.length c] 30)).heap.size = w.heap.size + 1 from by simp] at this
    exact this
  have h0 := h.carry hb0 (Nat.le_refl _) hb0.size
  have hsz : ((w.alloc (.cells #[.int .i64 (r.w : Int), .int .i64 (r.h : Int), .slice A r.p.length c] 30)).alloc (.cells #[.int .i64 0, .int .i64 0, .slice none 0 0] 30)).heap.size = w.heap.size + 2 := by simp
  have CD0 := drawn_any 101 #[.pointer (some ⟨w.heap.size, 0, none⟩)] r.w r.h (fun x y => meanP r x y) ((w.alloc (.cells #[.int .i64 (r.w : Int), .int .i64 (r.h : Int), .slice A r.p.length c] 30)).alloc (.cells #[.int .i64 0, .int .i64 0, .slice none 0 0] 30)) (hr.parts.1) (hr.parts.2.1) (run_enter Tryd.func101 (by kernel_rfl) rfl) (fun x y v hx hy hb => blurPx_any r A c x y w.heap.size v hr hc (h0.carry hb (Nat.le_refl _) hb.size) (Box.below hR0 hb hR0.lt) hx hy)
  have CD : Hid (Calls Tryd.prog 89 #[.int .i64 (r.w : Int), .int .i64 (r.h : Int), .func (.func 101) #[] #[.pointer (some ⟨w.heap.size, 0, none⟩)]] ((w.alloc (.cells #[.int .i64 (r.w : Int), .int .i64 (r.h : Int), .slice A r.p.length c] 30)).alloc (.cells #[.int .i64 0, .int .i64 0, .slice none 0 0] 30)) (fun e w' => ∃ A' c', e = .returned (.agg #[.int .i64 (r.w : Int), .int .i64 (r.h : Int), .slice A' (blurR r).p.length c']) ∧ (blurR r).p.length ≤ c' ∧ OwnP w' ((w.alloc (.cells #[.int .i64 (r.w : Int), .int .i64 (r.h : Int), .slice A r.p.length c] 30)).alloc (.cells #[.int .i64 0, .int .i64 0, .slice none 0 0] 30)).heap.size (.slice A' (blurR r).p.length c') (blurR r).p ∧ Below ((w.alloc (.cells #[.int .i64 (r.w : Int), .int .i64 (r.h : Int), .slice A r.p.length c] 30)).alloc (.cells #[.int .i64 0, .int .i64 0, .slice none 0 0] 30)).heap.size ((w.alloc (.cells #[.int .i64 (r.w : Int), .int .i64 (r.h : Int), .slice A r.p.length c] 30)).alloc (.cells #[.int .i64 0, .int .i64 0, .slice none 0 0] 30)) w')) := Lib.hid CD0
  clear CD0
  have HG : Hid (∀ A' c' w', (blurR r).p.length ≤ c' → OwnP w' w.heap.size (.slice A' (blurR r).p.length c') (blurR r).p → Below w.heap.size w w' → Did (some (blurR r)) w (.returned (.tuple #[.agg #[.int .i64 (r.w : Int), .int .i64 (r.h : Int), .slice A' (blurR r).p.length c'], .bool true])) w') := Lib.hid fun A' c' w' k1 k2 k3 => ⟨A', c', rfl, k1, k2, k3⟩
  generalize Did (some (blurR r)) w = D at *
  generalize (blurR r).p = l at *
  have r0 := hR0.c0
  have r1 := hR0.c1
  have HB0 := Lib.hid hb0
  have HX0 := Lib.hid hX0
  have HZ0 := Lib.hid hsz
  clear hb0 hR0 hX0 h0 h hr hc hsz
  go_enter Tryd.func100, Tryd.ntmps100
  go_wp2_with fail
  generalize ((w.alloc (.cells #[.int .i64 (r.w : Int), .int .i64 (r.h : Int), .slice A r.p.length c] 30)).alloc (.cells #[.int .i64 0, .int .i64 0, .slice none 0 0] 30)) = w0 at *
  refine CD.out.mono ?_
  rintro e w2 ⟨A2, c2, rfl, hc2, ho2, b2⟩
  have HXn := Lib.hid (HX0.out.below b2 HX0.out.lt)
  have HBn := Lib.hid (HB0.out.trans (b2.mono HB0.out.size))
  have HOn := Lib.hid (((ho2.set_low (b := w.heap.size + 1) (by have := HZ0.out; omega) 0 (.int .i64 (r.w : Int))).set_low (b := w.heap.size + 1) (by have := HZ0.out; omega) 1 (.int .i64 (r.h : Int))).set_low (b := w.heap.size + 1) (by have := HZ0.out; omega) 2 (.slice A2 l.length c2))
  have hz : w.heap.size ≤ w0.heap.size := HB0.out.size
  clear b2 ho2
  have q0 := HXn.out.c0
  have q1 := HXn.out.c1
  have q2 := HXn.out.c2
  have f0 := HXn.out.free 0
  have f1 := HXn.out.free 1
  have f2 := HXn.out.free 2
  go_wp2_with fail
  (try simp only [Exit.inBlock, Exit.then])
  refine bodyPost_ret (results_row_tmp rfl _ _ (w.heap.size + 1) 30 #[.int .i64 (r.w : Int), .int .i64 (r.h : Int), .slice A2 l.length c2] (0, 0) _ (.bool true) rfl rfl (fin_ras HXn.out _ _ _) Tryd.underlying30 rfl (by kernel_rfl)) rfl ?_
  exact HG.out _ _ _ hc2 (HOn.out.lower hz) (((HBn.out.setCell (by simp) _).setCell (by simp) _).setCell (by simp) _)
end Go.Proofs.YtiemlakjallphabDoor
