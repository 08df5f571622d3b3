/-
  opStepOf of the program: the closure that does an operation, told by what it captured. Condition: the operation is one.
-/
import Derived.Test.YtjfcgdjieohpiaaDoorOpO
import Derived.Test.YtjfcgdjieohpiaaDoorCloA
import Derived.Test.YtjfcgdjieohpiaaDoorRegT
namespace Go.Proofs.YtjfcgdjieohpiaaDoor
set_option maxRecDepth 4000
open Go.RowKit

/-- A closure that does an operation. -/
def StepV (w : World) (o : Op) (v : Value) : Prop :=
  (o.k = 1 ∧ ∃ g, v = .func (.func 63) #[] #[.pointer (some ⟨g, 0, none⟩)] ∧ OpAtB w g o) ∨
  (o.k = 2 ∧ v = .func (.func 67) #[] #[]) ∨
  (o.k = 3 ∧ v = .func (.func 69) #[] #[]) ∨
  (o.k = 4 ∧ v = .func (.func 71) #[] #[]) ∨
  (o.k = 5 ∧ ∃ g, v = .func (.func 86) #[] #[.pointer (some ⟨g, 0, none⟩)] ∧ Box w g #[.func (.func 74) #[] #[]] 87) ∨
  (o.k = 6 ∧ v = .func (.func 75) #[] #[]) ∨
  (o.k = 7 ∧ ∃ g, v = .func (.func 78) #[] #[.pointer (some ⟨g, 0, none⟩)] ∧ OpAtB w g o) ∨
  (o.k = 8 ∧ ∃ g g', v = .func (.func 86) #[] #[.pointer (some ⟨g, 0, none⟩)] ∧ Box w g #[.func (.func 80) #[] #[.pointer (some ⟨g', 0, none⟩)]] 87 ∧ OpAtB w g' o)
theorem StepV.next {w w' : World} {o : Op} {v : Value} (h : StepV w o v) (hb : Below w.heap.size w w') : StepV w' o v := by
  rcases h with ⟨h, g, e, k⟩ | h | h | h | ⟨h, g, e, k⟩ | h | ⟨h, g, e, k⟩ | ⟨h, g, g', e, k, k'⟩
  · exact .inl ⟨h, g, e, Box.next k hb⟩
  · exact .inr (.inl h)
  · exact .inr (.inr (.inl h))
  · exact .inr (.inr (.inr (.inl h)))
  · exact .inr (.inr (.inr (.inr (.inl ⟨h, g, e, Box.next k hb⟩))))
  · exact .inr (.inr (.inr (.inr (.inr (.inl h)))))
  · exact .inr (.inr (.inr (.inr (.inr (.inr (.inl ⟨h, g, e, Box.next k hb⟩))))))
  · exact .inr (.inr (.inr (.inr (.inr (.inr (.inr ⟨h, g, g', e, Box.next k hb, Box.next k' hb⟩))))))
/-- What a maker of steps answers. -/
def Stepped (o : Op) (w : World) (e : Ending) (w' : World) : Prop := ∃ v, e = .returned v ∧ StepV w' o v ∧ Below w.heap.size w w'
section
variable (o : Op) (w : World)
theorem pixelStep_made (F : FuncId) (caps : Array Value) : Calls Tryd.prog 73 #[.func (.func F) #[] caps] w fun e w' => e = .returned (.func (.func 86) #[] #[.pointer (some ⟨w.heap.size, 0, none⟩)]) ∧ w' = w.alloc (.cells #[.func (.func F) #[] caps] 87) := by
  go_enter Tryd.func73, Tryd.ntmps73
  go_wp2_with fail
  go_ret
  exact ⟨rfl, rfl⟩
theorem cropStep_made (hk : o.k = 1) : Calls Tryd.prog 46 #[o.v] w (Stepped o w) := by
  have HG : Hid (Stepped o w (.returned (.func (.func 63) #[] #[.pointer (some ⟨w.heap.size, 0, none⟩)])) (w.alloc (.cells #[.int .i64 o.k, .int .i64 o.a, .int .i64 o.b, .int .i64 o.c, .int .i64 o.d] 27))) := Lib.hid ⟨_, rfl, .inl ⟨hk, _, rfl, Box.new w _ _⟩, (Below.refl _ w).alloc (Nat.le_refl _) _⟩
  generalize Stepped o w = D at *
  clear hk
  unfold Op.v
  go_enter Tryd.func46, Tryd.ntmps46
  go_wp2_with fail
  exact HG.out
theorem sizeStep_made (hk : o.k = 7) : Calls Tryd.prog 52 #[o.v] w (Stepped o w) := by
  have HG : Hid (Stepped o w (.returned (.func (.func 78) #[] #[.pointer (some ⟨w.heap.size, 0, none⟩)])) (w.alloc (.cells #[.int .i64 o.k, .int .i64 o.a, .int .i64 o.b, .int .i64 o.c, .int .i64 o.d] 27))) := Lib.hid ⟨_, rfl, .inr (.inr (.inr (.inr (.inr (.inr (.inl ⟨hk, _, rfl, Box.new w _ _⟩)))))), (Below.refl _ w).alloc (Nat.le_refl _) _⟩
  generalize Stepped o w = D at *
  clear hk
  unfold Op.v
  go_enter Tryd.func52, Tryd.ntmps52
  go_wp2_with fail
  exact HG.out
theorem flipXStep_made (hk : o.k = 2) : Calls Tryd.prog 47 #[o.v] w (Stepped o w) := by
  have HG : Hid (Stepped o w (.returned (.func (.func 67) #[] #[])) (w.alloc (.cells #[.int .i64 o.k, .int .i64 o.a, .int .i64 o.b, .int .i64 o.c, .int .i64 o.d] 27))) := Lib.hid ⟨_, rfl, .inr (.inl ⟨hk, rfl⟩), (Below.refl _ w).alloc (Nat.le_refl _) _⟩
  generalize Stepped o w = D at *
  clear hk
  unfold Op.v
  go_enter Tryd.func47, Tryd.ntmps47
  go_wp2_with fail
  exact HG.out
theorem flipYStep_made (hk : o.k = 3) : Calls Tryd.prog 48 #[o.v] w (Stepped o w) := by
  have HG : Hid (Stepped o w (.returned (.func (.func 69) #[] #[])) (w.alloc (.cells #[.int .i64 o.k, .int .i64 o.a, .int .i64 o.b, .int .i64 o.c, .int .i64 o.d] 27))) := Lib.hid ⟨_, rfl, .inr (.inr (.inl ⟨hk, rfl⟩)), (Below.refl _ w).alloc (Nat.le_refl _) _⟩
  generalize Stepped o w = D at *
  clear hk
  unfold Op.v
  go_enter Tryd.func48, Tryd.ntmps48
  go_wp2_with fail
  exact HG.out
theorem turnStep_made (hk : o.k = 4) : Calls Tryd.prog 49 #[o.v] w (Stepped o w) := by
  have HG : Hid (Stepped o w (.returned (.func (.func 71) #[] #[])) (w.alloc (.cells #[.int .i64 o.k, .int .i64 o.a, .int .i64 o.b, .int .i64 o.c, .int .i64 o.d] 27))) := Lib.hid ⟨_, rfl, .inr (.inr (.inr (.inl ⟨hk, rfl⟩))), (Below.refl _ w).alloc (Nat.le_refl _) _⟩
  generalize Stepped o w = D at *
  clear hk
  unfold Op.v
  go_enter Tryd.func49, Tryd.ntmps49
  go_wp2_with fail
  exact HG.out
theorem blurStep_made (hk : o.k = 6) : Calls Tryd.prog 51 #[o.v] w (Stepped o w) := by
  have HG : Hid (Stepped o w (.returned (.func (.func 75) #[] #[])) (w.alloc (.cells #[.int .i64 o.k, .int .i64 o.a, .int .i64 o.b, .int .i64 o.c, .int .i64 o.d] 27))) := Lib.hid ⟨_, rfl, .inr (.inr (.inr (.inr (.inr (.inl ⟨hk, rfl⟩))))), (Below.refl _ w).alloc (Nat.le_refl _) _⟩
  generalize Stepped o w = D at *
  clear hk
  unfold Op.v
  go_enter Tryd.func51, Tryd.ntmps51
  go_wp2_with fail
  exact HG.out
theorem grayStep_made (hk : o.k = 5) : Calls Tryd.prog 50 #[o.v] w (Stepped o w) := by
  have hb0 : Below w.heap.size w (w.alloc (.cells #[.int .i64 o.k, .int .i64 o.a, .int .i64 o.b, .int .i64 o.c, .int .i64 o.d] 27)) := (Below.refl _ w).alloc (Nat.le_refl _) _
  have HG : Hid (∀ w0 : World, Below w.heap.size w w0 → Stepped o w (.returned (.func (.func 86) #[] #[.pointer (some ⟨w0.heap.size, 0, none⟩)])) (w0.alloc (.cells #[.func (.func 74) #[] #[]] 87))) := Lib.hid fun w0 hb => ⟨_, rfl, .inr (.inr (.inr (.inr (.inl ⟨hk, _, rfl, Box.new w0 _ _⟩)))), hb.alloc hb.size _⟩
  have hsz : (w.alloc (.cells #[.int .i64 o.k, .int .i64 o.a, .int .i64 o.b, .int .i64 o.c, .int .i64 o.d] 27)).heap.size = w.heap.size + 1 := by simp
  have hE := HG.out _ hb0
  rw [hsz] at hE
  have HE := Lib.hid hE
  have CP := Lib.hid (pixelStep_made (w.alloc (.cells #[.int .i64 o.k, .int .i64 o.a, .int .i64 o.b, .int .i64 o.c, .int .i64 o.d] 27)) 74 #[])
  generalize Stepped o w = D at *
  clear hk hb0 HG hE
  rw [hsz] at CP
  unfold Op.v
  go_enter Tryd.func50, Tryd.ntmps50
  go_wp2_with fail
  refine CP.out.mono ?_
  rintro e w2 ⟨rfl, rfl⟩
  go_wp2_with fail
  exact HE.out
theorem flatStep_made (hk : o.k = 8) : Calls Tryd.prog 53 #[o.v] w (Stepped o w) := by
  have hb0 : Below w.heap.size w (w.alloc (.cells #[.int .i64 o.k, .int .i64 o.a, .int .i64 o.b, .int .i64 o.c, .int .i64 o.d] 27)) := (Below.refl _ w).alloc (Nat.le_refl _) _
  have hO : OpAtB (w.alloc (.cells #[.int .i64 o.k, .int .i64 o.a, .int .i64 o.b, .int .i64 o.c, .int .i64 o.d] 27)) w.heap.size o := Box.new w _ _
  have hsz : (w.alloc (.cells #[.int .i64 o.k, .int .i64 o.a, .int .i64 o.b, .int .i64 o.c, .int .i64 o.d] 27)).heap.size = w.heap.size + 1 := by simp
  have hE : Stepped o w (.returned (.func (.func 86) #[] #[.pointer (some ⟨(w.alloc (.cells #[.int .i64 o.k, .int .i64 o.a, .int .i64 o.b, .int .i64 o.c, .int .i64 o.d] 27)).heap.size, 0, none⟩)])) ((w.alloc (.cells #[.int .i64 o.k, .int .i64 o.a, .int .i64 o.b, .int .i64 o.c, .int .i64 o.d] 27)).alloc (.cells #[.func (.func 80) #[] #[.pointer (some ⟨w.heap.size, 0, none⟩)]] 87)) := ⟨_, rfl, .inr (.inr (.inr (.inr (.inr (.inr (.inr ⟨hk, _, _, rfl, Box.new _ _ _, Box.alloc hO _⟩)))))), hb0.alloc hb0.size _⟩
  rw [hsz] at hE
  have HE := Lib.hid hE
  have CP := Lib.hid (pixelStep_made (w.alloc (.cells #[.int .i64 o.k, .int .i64 o.a, .int .i64 o.b, .int .i64 o.c, .int .i64 o.d] 27)) 80 #[.pointer (some ⟨w.heap.size, 0, none⟩)])
  generalize Stepped o w = D at *
  clear hk hb0 hO hE
  rw [hsz] at CP
  unfold Op.v
  go_enter Tryd.func53, Tryd.ntmps53
  go_wp2_with fail
  refine CP.out.mono ?_
  rintro e w2 ⟨rfl, rfl⟩
  go_wp2_with fail
  exact HE.out
end
end Go.Proofs.YtjfcgdjieohpiaaDoor
