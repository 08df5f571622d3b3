/-
  The closure that does an operation, called. Conditions: the raster and the operation are ones; the raster's pixels lie in memory that was there.
-/
import Derived.Test.YtjfcgdjieohpiaaDoorStepO
import Derived.Test.YtjfcgdjieohpiaaDoorStepA
import Derived.Test.YtjfcgdjieohpiaaDoorOpsAll
namespace Go.Proofs.YtjfcgdjieohpiaaDoor
set_option maxRecDepth 4000
open Go.RowKit

/-- A closure that does an operation answers what that leaves. -/
theorem step_calls (r : Ra) (A : Option Addr) (c : Nat) (o : Op) (v : Value) (w : World) (hr : r.ok) (hc : r.p.length ≤ c) (h : HasP w w.heap.size A r.p) (ho : opB o = true) (hv : StepV w o v) :
    ∃ F caps, v = .func (.func F) #[] caps ∧ (∀ args u, (callFunc F args).run Tryd.prog u = .ok (.enter F args) u) ∧ Calls Tryd.prog F (#[raV r A c] ++ caps) w (Did (doR r o) w) := by
  rcases hv with ⟨k, g, rfl, hO⟩ | ⟨k, rfl⟩ | ⟨k, rfl⟩ | ⟨k, rfl⟩ | ⟨k, g, rfl, hC⟩ | ⟨k, rfl⟩ | ⟨k, g, rfl, hO⟩ | ⟨k, g, g', rfl, hC, hO⟩
  · have hb := opB_1 k ho
    have hw := hr.parts.1
    have hh := hr.parts.2.1
    refine ⟨_, _, rfl, run_enter Tryd.func63 (by kernel_rfl) rfl, ?_⟩
    have e1 : o.a = (o.a.toNat : Int) := by omega
    have e2 : o.b = (o.b.toNat : Int) := by omega
    have e3 : o.c = (o.c.toNat : Int) := by omega
    have e4 : o.d = (o.d.toNat : Int) := by omega
    by_cases hin : o.a + o.c > r.w ∨ o.b + o.d > r.h
    · have hd : doR r o = none := by unfold doR; rw [if_pos k, if_pos hin]
      rw [hd]
      exact cropStep_bad r A c o o.a.toNat o.b.toNat o.c.toNat o.d.toNat g w hr hO e1 e2 e3 e4 (by omega) (by omega)
    · have hd : doR r o = some (cropR r o.a.toNat o.b.toNat o.c.toNat o.d.toNat) := by unfold doR; rw [if_pos k, if_neg hin]
      rw [hd]
      exact cropStep_good r A c o o.a.toNat o.b.toNat o.c.toNat o.d.toNat g w hr hc h hO e1 e2 e3 e4 (by omega) (by omega) (by omega) (by omega)
  · refine ⟨_, _, rfl, run_enter Tryd.func67 (by kernel_rfl) rfl, ?_⟩
    rw [doR_2 r k]
    exact flipXStep_any r A c w hr hc h
  · refine ⟨_, _, rfl, run_enter Tryd.func69 (by kernel_rfl) rfl, ?_⟩
    rw [doR_3 r k]
    exact flipYStep_any r A c w hr hc h
  · refine ⟨_, _, rfl, run_enter Tryd.func71 (by kernel_rfl) rfl, ?_⟩
    rw [doR_4 r k]
    exact turnStep_any r A c w hr hc h
  · refine ⟨_, _, rfl, run_enter Tryd.func86 (by kernel_rfl) rfl, ?_⟩
    rw [doR_5 r k]
    exact pixelStep_any r A c 74 #[] grayP g w hr hc h hC (run_enter Tryd.func74 (by kernel_rfl) rfl) fun p u hp _ => grayOne_any p u hp
  · refine ⟨_, _, rfl, run_enter Tryd.func75 (by kernel_rfl) rfl, ?_⟩
    rw [doR_6 r k]
    exact blurStep_any r A c w hr hc h
  · have hb := opB_7 k ho
    refine ⟨_, _, rfl, run_enter Tryd.func78 (by kernel_rfl) rfl, ?_⟩
    rw [doR_7 r k]
    exact sizeStep_any r A c o o.a.toNat o.b.toNat g w hr hc h hO (by omega) (by omega) (by omega) (by omega)
  · have hb := opB_8 k ho
    refine ⟨_, _, rfl, run_enter Tryd.func86 (by kernel_rfl) rfl, ?_⟩
    rw [doR_8 r k]
    exact pixelStep_any r A c 80 #[.pointer (some ⟨g', 0, none⟩)] (flatP1 o) g w hr hc h hC (run_enter Tryd.func80 (by kernel_rfl) rfl) fun p u hp hu => flatOne_any p o g' u hp hb.1 hb.2.1 hb.2.2 (Box.next hO hu)
end Go.Proofs.YtjfcgdjieohpiaaDoor
