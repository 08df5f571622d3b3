/-
  The closure that does an operation, called. Conditions: the raster and the operation are ones; the raster's pixels lie in memory that was there.
-/
import Derived.Test.YtiemlakjallphabDoorOpO
import Derived.Test.YtiemlakjallphabDoorCloA
import Derived.Test.YtiemlakjallphabDoorRegT
import Derived.Laws.EntriesVeiled
import Derived.Test.YtiemlakjallphabDoorStepA
import Derived.Test.YtiemlakjallphabDoorOpsAll
namespace Go.Proofs.YtiemlakjallphabDoor
set_option maxRecDepth 4000
open Go.RowKit

/-- A closure that does an operation. -/
def StepV (w : World) (o : Op) (v : Value) : Prop :=
  (o.k = 1 ∧ ∃ g, v = .func (.func 88) #[] #[.pointer (some ⟨g, 0, none⟩)] ∧ OpAtB w g o) ∨
  (o.k = 2 ∧ v = .func (.func 92) #[] #[]) ∨
  (o.k = 3 ∧ v = .func (.func 94) #[] #[]) ∨
  (o.k = 4 ∧ v = .func (.func 96) #[] #[]) ∨
  (o.k = 5 ∧ ∃ g, v = .func (.func 113) #[] #[.pointer (some ⟨g, 0, none⟩)] ∧ Box w g #[.func (.func 99) #[] #[]] 103) ∨
  (o.k = 6 ∧ v = .func (.func 100) #[] #[]) ∨
  (o.k = 7 ∧ ∃ g, v = .func (.func 103) #[] #[.pointer (some ⟨g, 0, none⟩)] ∧ OpAtB w g o) ∨
  (o.k = 8 ∧ ∃ g g', v = .func (.func 113) #[] #[.pointer (some ⟨g, 0, none⟩)] ∧ Box w g #[.func (.func 105) #[] #[.pointer (some ⟨g', 0, none⟩)]] 103 ∧ OpAtB w g' o)
theorem StepV.next {w w' : World} {o : Op} {v : Value} (h : StepV w o v) (hb : Below w.heap.size w w') : StepV w' o v := by
  rcases h with ⟨h, g, e, k⟩ | h | h | h | ⟨h, g, e, k⟩ | h | ⟨h, g, e, k⟩ | ⟨h, g, g', e, k, k'⟩
  · exact .inl ⟨h, g, e, Box.next k hb⟩
  · exact .inr (.inl h)
  · exact .inr (.inr (.inl h))
  · exact .inr (.inr (.inr (.inl h)))
  · exact .inr (.inr (.inr (.inr (.inl ⟨h, g, e, Box.next k hb⟩))))
  · exact .inr (.inr (.inr (.inr (.inr (.inl h)))))
  · exact .inr (.inr (.inr (.inr (.inr (.inr (.inl ⟨h, g, e, Box.next k hb⟩))))))
  · exact .inr (.inr (.inr (.inr (.inr (.inr (.inr ⟨h, g, g', e, Box.next k hb, Box.next k' hb⟩))))))
/-- What a maker of steps answers. -/
def Stepped (o : Op) (w : World) (e : Ending) (w' : World) : Prop := ∃ v, e = .returned v ∧ StepV w' o v ∧ Below w.heap.size w w'
section
variable (o : Op) (w : World)
theorem pixelStep_made (F : FuncId) (caps : Array Value) : Calls Tryd.prog 98 #[.func (.func F) #[] caps] w fun e w' => e = .returned (.func (.func 113) #[] #[.pointer (some ⟨w.heap.size, 0, none⟩)]) ∧ w' = w.alloc (.cells #[.func (.func F) #[] caps] 103) := by
  go_enter Tryd.func98, Tryd.ntmps98
  go_wp2_with fail
  go_ret
  exact ⟨rfl, rfl⟩
theorem cropStep_made (hk : o.k = 1) : Calls Tryd.prog 68 #[o.v] w (Stepped o w) := by
  have HG : Hid (Stepped o w (.returned (.func (.func 88) #[] #[.pointer (some ⟨w.heap.size, 0, none⟩)])) (w.alloc (.cells #[.int .i64 o.k, .int .i64 o.a, .int .i64 o.b, .int .i64 o.c, .int .i64 o.d] 49))) := Lib.hid ⟨_, rfl, .inl ⟨hk, _, rfl, Box.new w _ _⟩, (Below.refl _ w).alloc (Nat.le_refl _) _⟩
  generalize Stepped o w = D at *
  clear hk
  unfold Op.v
  go_enter Tryd.func68, Tryd.ntmps68
  go_wp2_with fail
  exact HG.out
theorem sizeStep_made (hk : o.k = 7) : Calls Tryd.prog 74 #[o.v] w (Stepped o w) := by
  have HG : Hid (Stepped o w (.returned (.func (.func 103) #[] #[.pointer (some ⟨w.heap.size, 0, none⟩)])) (w.alloc (.cells #[.int .i64 o.k, .int .i64 o.a, .int .i64 o.b, .int .i64 o.c, .int .i64 o.d] 49))) := Lib.hid ⟨_, rfl, .inr (.inr (.inr (.inr (.inr (.inr (.inl ⟨hk, _, rfl, Box.new w _ _⟩)))))), (Below.refl _ w).alloc (Nat.le_refl _) _⟩
  generalize Stepped o w = D at *
  clear hk
  unfold Op.v
  go_enter Tryd.func74, Tryd.ntmps74
  go_wp2_with fail
  exact HG.out
theorem flipXStep_made (hk : o.k = 2) : Calls Tryd.prog 69 #[o.v] w (Stepped o w) := by
  have HG : Hid (Stepped o w (.returned (.func (.func 92) #[] #[])) (w.alloc (.cells #[.int .i64 o.k, .int .i64 o.a, .int .i64 o.b, .int .i64 o.c, .int .i64 o.d] 49))) := Lib.hid ⟨_, rfl, .inr (.inl ⟨hk, rfl⟩), (Below.refl _ w).alloc (Nat.le_refl _) _⟩
  generalize Stepped o w = D at *
  clear hk
  unfold Op.v
  go_enter Tryd.func69, Tryd.ntmps69
  go_wp2_with fail
  exact HG.out
theorem flipYStep_made (hk : o.k = 3) : Calls Tryd.prog 70 #[o.v] w (Stepped o w) := by
  have HG : Hid (Stepped o w (.returned (.func (.func 94) #[] #[])) (w.alloc (.cells #[.int .i64 o.k, .int .i64 o.a, .int .i64 o.b, .int .i64 o.c, .int .i64 o.d] 49))) := Lib.hid ⟨_, rfl, .inr (.inr (.inl ⟨hk, rfl⟩)), (Below.refl _ w).alloc (Nat.le_refl _) _⟩
  generalize Stepped o w = D at *
  clear hk
  unfold Op.v
  go_enter Tryd.func70, Tryd.ntmps70
  go_wp2_with fail
  exact HG.out
theorem turnStep_made (hk : o.k = 4) : Calls Tryd.prog 71 #[o.v] w (Stepped o w) := by
  have HG : Hid (Stepped o w (.returned (.func (.func 96) #[] #[])) (w.alloc (.cells #[.int .i64 o.k, .int .i64 o.a, .int .i64 o.b, .int .i64 o.c, .int .i64 o.d] 49))) := Lib.hid ⟨_, rfl, .inr (.inr (.inr (.inl ⟨hk, rfl⟩))), (Below.refl _ w).alloc (Nat.le_refl _) _⟩
  generalize Stepped o w = D at *
  clear hk
  unfold Op.v
  go_enter Tryd.func71, Tryd.ntmps71
  go_wp2_with fail
  exact HG.out
theorem blurStep_made (hk : o.k = 6) : Calls Tryd.prog 73 #[o.v] w (Stepped o w) := by
  have HG : Hid (Stepped o w (.returned (.func (.func 100) #[] #[])) (w.alloc (.cells #[.int .i64 o.k, .int .i64 o.a, .int .i64 o.b, .int .i64 o.c, .int .i64 o.d] 49))) := Lib.hid ⟨_, rfl, .inr (.inr (.inr (.inr (.inr (.inl ⟨hk, rfl⟩))))), (Below.refl _ w).alloc (Nat.le_refl _) _⟩
  generalize Stepped o w = D at *
  clear hk
  unfold Op.v
  go_enter Tryd.func73, Tryd.ntmps73
  go_wp2_with fail
  exact HG.out
theorem grayStep_made (hk : o.k = 5) : Calls Tryd.prog 72 #[o.v] w (Stepped o w) := by
  have hb0 : Below w.heap.size w (w.alloc (.cells #[.int .i64 o.k, .int .i64 o.a, .int .i64 o.b, .int .i64 o.c, .int .i64 o.d] 49)) := (Below.refl _ w).alloc (Nat.le_refl _) _
  have HG : Hid (∀ w0 : World, Below w.heap.size w w0 → Stepped o w (.returned (.func (.func 113) #[] #[.pointer (some ⟨w0.heap.size, 0, none⟩)])) (w0.alloc (.cells #[.func (.func 99) #[] #[]] 103))) := Lib.hid fun w0 hb => ⟨_, rfl, .inr (.inr (.inr (.inr (.inl ⟨hk, _, rfl, Box.new w0 _ _⟩)))), hb.alloc hb.size _⟩
  have hsz : (w.alloc (.cells #[.int .i64 o.k, .int .i64 o.a, .int .i64 o.b, .int .i64 o.c, .int .i64 o.d] 49)).heap.size = w.heap.size + 1 := by simp
  have hE := HG.out _ hb0
  rw [hsz] at hE
  have HE := Lib.hid hE
  have CP := Lib.hid (pixelStep_made (w.alloc (.cells #[.int .i64 o.k, .int .i64 o.a, .int .i64 o.b, .int .i64 o.c, .int .i64 o.d] 49)) 99 #[])
  generalize Stepped o w = D at *
  clear hk hb0 HG hE
  rw [hsz] at CP
  unfold Op.v
  go_enter Tryd.func72, Tryd.ntmps72
  go_wp2_with fail
  refine CP.out.mono ?_
  rintro e w2 ⟨rfl, rfl⟩
  go_wp2_with fail
  exact HE.out
theorem flatStep_made (hk : o.k = 8) : Calls Tryd.prog 75 #[o.v] w (Stepped o w) := by
  have hb0 : Below w.heap.size w (w.alloc (.cells #[.int .i64 o.k, .int .i64 o.a, .int .i64 o.b, .int .i64 o.c, .int .i64 o.d] 49)) := (Below.refl _ w).alloc (Nat.le_refl _) _
  have hO : OpAtB (w.alloc (.cells #[.int .i64 o.k, .int .i64 o.a, .int .i64 o.b, .int .i64 o.c, .int .i64 o.d] 49)) w.heap.size o := Box.new w _ _
  have hsz : (w.alloc (.cells #[.int .i64 o.k, .int .i64 o.a, .int .i64 o.b, .int .i64 o.c, .int .i64 o.d] 49)).heap.size = w.heap.size + 1 := by simp
  have hE : Stepped o w (.returned (.func (.func 113) #[] #[.pointer (some ⟨(w.alloc (.cells #[.int .i64 o.k, .int .i64 o.a, .int .i64 o.b, .int .i64 o.c, .int .i64 o.d] 49)).heap.size, 0, none⟩)])) ((w.alloc (.cells #[.int .i64 o.k, .int .i64 o.a, .int .i64 o.b, .int .i64 o.c, .int .i64 o.d] 49)).alloc (.cells #[.func (.func 105) #[] #[.pointer (some ⟨w.heap.size, 0, none⟩)]] 103)) := ⟨_, rfl, .inr (.inr (.inr (.inr (.inr (.inr (.inr ⟨hk, _, _, rfl, Box.new _ _ _, Box.alloc hO _⟩)))))), hb0.alloc hb0.size _⟩
  rw [hsz] at hE
  have HE := Lib.hid hE
  have CP := Lib.hid (pixelStep_made (w.alloc (.cells #[.int .i64 o.k, .int .i64 o.a, .int .i64 o.b, .int .i64 o.c, .int .i64 o.d] 49)) 105 #[.pointer (some ⟨w.heap.size, 0, none⟩)])
  generalize Stepped o w = D at *
  clear hk hb0 hO hE
  rw [hsz] at CP
  unfold Op.v
  go_enter Tryd.func75, Tryd.ntmps75
  go_wp2_with fail
  refine CP.out.mono ?_
  rintro e w2 ⟨rfl, rfl⟩
  go_wp2_with fail
  exact HE.out
end
end Go.Proofs.YtiemlakjallphabDoor
namespace Go.Proofs.YtiemlakjallphabDoor
set_option maxRecDepth 4000
open Go.RowKit

set_option maxHeartbeats 2000000 in
theorem opStepOf_1 (o : Op) (w : World) (hk : o.k = 1) : Calls Tryd.prog 42 #[o.v] w (Stepped o w) := by
  have hb0 : Below w.heap.size w ((w.alloc (.cells #[.int .i64 o.k, .int .i64 o.a, .int .i64 o.b, .int .i64 o.c, .int .i64 o.d] 49)).alloc (.cells #[.nilFunc, .func (.func 68) #[] #[], .func (.func 69) #[] #[], .func (.func 70) #[] #[], .func (.func 71) #[] #[], .func (.func 72) #[] #[], .func (.func 73) #[] #[], .func (.func 74) #[] #[], .func (.func 75) #[] #[]] 89)) := ((Below.refl _ w).alloc (Nat.le_refl _) _).alloc (by simp) _
  have hO0 : OpAtB ((w.alloc (.cells #[.int .i64 o.k, .int .i64 o.a, .int .i64 o.b, .int .i64 o.c, .int .i64 o.d] 49)).alloc (.cells #[.nilFunc, .func (.func 68) #[] #[], .func (.func 69) #[] #[], .func (.func 70) #[] #[], .func (.func 71) #[] #[], .func (.func 72) #[] #[], .func (.func 73) #[] #[], .func (.func 74) #[] #[], .func (.func 75) #[] #[]] 89)) w.heap.size o := Box.alloc (Box.new w _ _) _
  have hM0 : Box ((w.alloc (.cells #[.int .i64 o.k, .int .i64 o.a, .int .i64 o.b, .int .i64 o.c, .int .i64 o.d] 49)).alloc (.cells #[.nilFunc, .func (.func 68) #[] #[], .func (.func 69) #[] #[], .func (.func 70) #[] #[], .func (.func 71) #[] #[], .func (.func 72) #[] #[], .func (.func 73) #[] #[], .func (.func 74) #[] #[], .func (.func 75) #[] #[]] 89)) (w.heap.size + 1) #[.nilFunc, .func (.func 68) #[] #[], .func (.func 69) #[] #[], .func (.func 70) #[] #[], .func (.func 71) #[] #[], .func (.func 72) #[] #[], .func (.func 73) #[] #[], .func (.func 74) #[] #[], .func (.func 75) #[] #[]] 89 := by
    have := Box.new (w.alloc (.cells #[.int .i64 o.k, .int .i64 o.a, .int .i64 o.b, .int .i64 o.c, .int .i64 o.d] 49)) #[.nilFunc, .func (.func 68) #[] #[], .func (.func 69) #[] #[], .func (.func 70) #[] #[], .func (.func 71) #[] #[], .func (.func 72) #[] #[], .func (.func 73) #[] #[], .func (.func 74) #[] #[], .func (.func 75) #[] #[]] 89
    rw [show (w.alloc (.cells #[.int .i64 o.k, .int .i64 o.a, .int .i64 o.b, .int .i64 o.c, .int .i64 o.d] 49)).heap.size = w.heap.size + 1 from by simp] at this
    exact this
  have CS := Lib.hid (cropStep_made o ((w.alloc (.cells #[.int .i64 o.k, .int .i64 o.a, .int .i64 o.b, .int .i64 o.c, .int .i64 o.d] 49)).alloc (.cells #[.nilFunc, .func (.func 68) #[] #[], .func (.func 69) #[] #[], .func (.func 70) #[] #[], .func (.func 71) #[] #[], .func (.func 72) #[] #[], .func (.func 73) #[] #[], .func (.func 74) #[] #[], .func (.func 75) #[] #[]] 89)).drew hk)
  have HG : Hid (∀ v w2, StepV w2 o v → Below ((w.alloc (.cells #[.int .i64 o.k, .int .i64 o.a, .int .i64 o.b, .int .i64 o.c, .int .i64 o.d] 49)).alloc (.cells #[.nilFunc, .func (.func 68) #[] #[], .func (.func 69) #[] #[], .func (.func 70) #[] #[], .func (.func 71) #[] #[], .func (.func 72) #[] #[], .func (.func 73) #[] #[], .func (.func 74) #[] #[], .func (.func 75) #[] #[]] 89)).drew.heap.size ((w.alloc (.cells #[.int .i64 o.k, .int .i64 o.a, .int .i64 o.b, .int .i64 o.c, .int .i64 o.d] 49)).alloc (.cells #[.nilFunc, .func (.func 68) #[] #[], .func (.func 69) #[] #[], .func (.func 70) #[] #[], .func (.func 71) #[] #[], .func (.func 72) #[] #[], .func (.func 73) #[] #[], .func (.func 74) #[] #[], .func (.func 75) #[] #[]] 89)).drew w2 → Stepped o w (.returned v) w2) := Lib.hid fun v w2 hv hb => ⟨v, rfl, hv, (below_draws hb0 1).trans (hb.mono (below_draws hb0 1).size)⟩
  generalize hD : Stepped o w = D at *
  clear hD
  unfold Stepped at CS
  unfold Op.v at CS ⊢
  rw [hk] at CS ⊢
  rw [hk] at hb0 hO0 hM0 HG
  unfold OpAtB at hO0
  rw [hk] at hO0
  have HSb : Hid (∀ w', Below ((w.alloc (.cells #[.int .i64 1, .int .i64 o.a, .int .i64 o.b, .int .i64 o.c, .int .i64 o.d] 49)).alloc (.cells #[.nilFunc, .func (.func 68) #[] #[], .func (.func 69) #[] #[], .func (.func 70) #[] #[], .func (.func 71) #[] #[], .func (.func 72) #[] #[], .func (.func 73) #[] #[], .func (.func 74) #[] #[], .func (.func 75) #[] #[]] 89)).drew.heap.size ((w.alloc (.cells #[.int .i64 1, .int .i64 o.a, .int .i64 o.b, .int .i64 o.c, .int .i64 o.d] 49)).alloc (.cells #[.nilFunc, .func (.func 68) #[] #[], .func (.func 69) #[] #[], .func (.func 70) #[] #[], .func (.func 71) #[] #[], .func (.func 72) #[] #[], .func (.func 73) #[] #[], .func (.func 74) #[] #[], .func (.func 75) #[] #[]] 89)).drew w' → (w'.cell? ⟨w.heap.size, 0, none⟩ = some (.int .i64 1) ∧ w'.cell? ⟨w.heap.size, 1, none⟩ = some (.int .i64 o.a) ∧ w'.cell? ⟨w.heap.size, 2, none⟩ = some (.int .i64 o.b) ∧ w'.cell? ⟨w.heap.size, 3, none⟩ = some (.int .i64 o.c) ∧ w'.cell? ⟨w.heap.size, 4, none⟩ = some (.int .i64 o.d)) ∧ w'.cell? ⟨w.heap.size + 1, 1, none⟩ = some (.func (.func 68) #[] #[])) := Lib.hid fun w' hb =>
    have k1 := Box.below (Box.drew hO0) hb hO0.lt
    have k2 := Box.below (Box.drew hM0) hb hM0.lt
    ⟨⟨k1.cell rfl, k1.cell rfl, k1.cell rfl, k1.cell rfl, k1.cell rfl⟩, k2.cell rfl⟩
  have HS0 := Lib.hid (HSb.out _ (Below.refl _ _))
  clear hb0 hO0 hM0 hk
  go_enter Tryd.func42, Tryd.ntmps42
  go_wp2_with fail
  generalize ((w.alloc (.cells #[.int .i64 1, .int .i64 o.a, .int .i64 o.b, .int .i64 o.c, .int .i64 o.d] 49)).alloc (.cells #[.nilFunc, .func (.func 68) #[] #[], .func (.func 69) #[] #[], .func (.func 70) #[] #[], .func (.func 71) #[] #[], .func (.func 72) #[] #[], .func (.func 73) #[] #[], .func (.func 74) #[] #[], .func (.func 75) #[] #[]] 89)) = w0 at *
  refine wp_region_T (fun w' => (w'.cell? ⟨w.heap.size, 0, none⟩ = some (.int .i64 1) ∧ w'.cell? ⟨w.heap.size, 1, none⟩ = some (.int .i64 o.a) ∧ w'.cell? ⟨w.heap.size, 2, none⟩ = some (.int .i64 o.b) ∧ w'.cell? ⟨w.heap.size, 3, none⟩ = some (.int .i64 o.c) ∧ w'.cell? ⟨w.heap.size, 4, none⟩ = some (.int .i64 o.d)) ∧ w'.cell? ⟨w.heap.size + 1, 1, none⟩ = some (.func (.func 68) #[] #[])) 6 (by kernel_rfl) ?_
  refine wpAnyT_take (i := 0) (d := 5) (v := .pointer (some ⟨w.heap.size, 0, none⟩)) rfl rfl (by kernel_rfl) (by kernel_rfl) (by kernel_rfl) (by kernel_rfl) (by kernel_rfl) (fun _ _ _ h => h) HS0.out (Or.inl ⟨by rfl, fun w' hS' => ?_⟩) ?_
  · obtain ⟨⟨s0, s1, s2, s3, s4⟩, s5⟩ := hS'
    go_simp
  simp only [Act.put, List.setIfInBounds_toArray, List.set_cons_zero, List.set_cons_succ]
  refine wpAnyT_take (i := 1) (d := 6) (v := .int .i64 1) rfl rfl (by kernel_rfl) (by kernel_rfl) (by kernel_rfl) (by kernel_rfl) (by kernel_rfl) (fun _ _ _ h => h) HS0.out (Or.inl ⟨by rfl, fun w' hS' => ?_⟩) ?_
  · obtain ⟨⟨s0, s1, s2, s3, s4⟩, s5⟩ := hS'
    go_simp
  simp only [Act.put, List.setIfInBounds_toArray, List.set_cons_zero, List.set_cons_succ]
  refine wpAnyT_take (i := 2) (d := 7) (v := .pointer (some ⟨w.heap.size + 1, 1, none⟩)) rfl rfl (by kernel_rfl) (by kernel_rfl) (by kernel_rfl) (by kernel_rfl) (by kernel_rfl) (fun _ _ _ h => h) HS0.out (Or.inl ⟨by rfl, fun w' hS' => ?_⟩) ?_
  · obtain ⟨⟨s0, s1, s2, s3, s4⟩, s5⟩ := hS'
    go_simp
  simp only [Act.put, List.setIfInBounds_toArray, List.set_cons_zero, List.set_cons_succ]
  refine wpAnyT_take (i := 3) (d := 8) (v := .func (.func 68) #[] #[]) rfl rfl (by kernel_rfl) (by kernel_rfl) (by kernel_rfl) (by kernel_rfl) (by kernel_rfl) (fun _ _ _ h => h) HS0.out (Or.inl ⟨by rfl, fun w' hS' => ?_⟩) ?_
  · obtain ⟨⟨s0, s1, s2, s3, s4⟩, s5⟩ := hS'
    go_simp
  simp only [Act.put, List.setIfInBounds_toArray, List.set_cons_zero, List.set_cons_succ]
  refine wpAnyT_take (i := 4) (d := 9) (v := .agg #[.int .i64 1, .int .i64 o.a, .int .i64 o.b, .int .i64 o.c, .int .i64 o.d]) rfl rfl (by kernel_rfl) (by kernel_rfl) (by kernel_rfl) (by kernel_rfl) (by kernel_rfl) (fun _ _ _ h => h) HS0.out (Or.inl ⟨by rfl, fun w' hS' => ?_⟩) ?_
  · obtain ⟨⟨s0, s1, s2, s3, s4⟩, s5⟩ := hS'
    go_simp
  simp only [Act.put, List.setIfInBounds_toArray, List.set_cons_zero, List.set_cons_succ]
  refine wpAnyT_one (i := 5) (by kernel_rfl) rfl (fun K hK => ?_)
  go_simp
  refine CS.out.mono ?_
  rintro e w2 ⟨v, rfl, hv, b2⟩
  refine hK.out _ _ (fun _ => HSb.out _ b2) ?_
  clear hK
  try simp only [Act.put, List.setIfInBounds_toArray, List.set_cons_zero, List.set_cons_succ]
  refine wpAnyT_one (i := 6) (by kernel_rfl) rfl (fun K hK => ?_)
  go_simp
  refine hK.out _ _ last_out ?_
  clear hK
  refine wpAnyT_done (by kernel_rfl) ?_ _
  have HE := Lib.hid (HG.out v w2 hv b2)
  clear HG hv b2
  go_wp2_with fail
  exact HE.out
set_option maxHeartbeats 2000000 in
theorem opStepOf_2 (o : Op) (w : World) (hk : o.k = 2) : Calls Tryd.prog 42 #[o.v] w (Stepped o w) := by
  have hb0 : Below w.heap.size w ((w.alloc (.cells #[.int .i64 o.k, .int .i64 o.a, .int .i64 o.b, .int .i64 o.c, .int .i64 o.d] 49)).alloc (.cells #[.nilFunc, .func (.func 68) #[] #[], .func (.func 69) #[] #[], .func (.func 70) #[] #[], .func (.func 71) #[] #[], .func (.func 72) #[] #[], .func (.func 73) #[] #[], .func (.func 74) #[] #[], .func (.func 75) #[] #[]] 89)) := ((Below.refl _ w).alloc (Nat.le_refl _) _).alloc (by simp) _
  have hO0 : OpAtB ((w.alloc (.cells #[.int .i64 o.k, .int .i64 o.a, .int .i64 o.b, .int .i64 o.c, .int .i64 o.d] 49)).alloc (.cells #[.nilFunc, .func (.func 68) #[] #[], .func (.func 69) #[] #[], .func (.func 70) #[] #[], .func (.func 71) #[] #[], .func (.func 72) #[] #[], .func (.func 73) #[] #[], .func (.func 74) #[] #[], .func (.func 75) #[] #[]] 89)) w.heap.size o := Box.alloc (Box.new w _ _) _
  have hM0 : Box ((w.alloc (.cells #[.int .i64 o.k, .int .i64 o.a, .int .i64 o.b, .int .i64 o.c, .int .i64 o.d] 49)).alloc (.cells #[.nilFunc, .func (.func 68) #[] #[], .func (.func 69) #[] #[], .func (.func 70) #[] #[], .func (.func 71) #[] #[], .func (.func 72) #[] #[], .func (.func 73) #[] #[], .func (.func 74) #[] #[], .func (.func 75) #[] #[]] 89)) (w.heap.size + 1) #[.nilFunc, .func (.func 68) #[] #[], .func (.func 69) #[] #[], .func (.func 70) #[] #[], .func (.func 71) #[] #[], .func (.func 72) #[] #[], .func (.func 73) #[] #[], .func (.func 74) #[] #[], .func (.func 75) #[] #[]] 89 := by
    have := Box.new (w.alloc (.cells #[.int .i64 o.k, .int .i64 o.a, .int .i64 o.b, .int .i64 o.c, .int .i64 o.d] 49)) #[.nilFunc, .func (.func 68) #[] #[], .func (.func 69) #[] #[], .func (.func 70) #[] #[], .func (.func 71) #[] #[], .func (.func 72) #[] #[], .func (.func 73) #[] #[], .func (.func 74) #[] #[], .func (.func 75) #[] #[]] 89
    rw [show (w.alloc (.cells #[.int .i64 o.k, .int .i64 o.a, .int .i64 o.b, .int .i64 o.c, .int .i64 o.d] 49)).heap.size = w.heap.size + 1 from by simp] at this
    exact this
  have CS := Lib.hid (flipXStep_made o ((w.alloc (.cells #[.int .i64 o.k, .int .i64 o.a, .int .i64 o.b, .int .i64 o.c, .int .i64 o.d] 49)).alloc (.cells #[.nilFunc, .func (.func 68) #[] #[], .func (.func 69) #[] #[], .func (.func 70) #[] #[], .func (.func 71) #[] #[], .func (.func 72) #[] #[], .func (.func 73) #[] #[], .func (.func 74) #[] #[], .func (.func 75) #[] #[]] 89)).drew hk)
  have HG : Hid (∀ v w2, StepV w2 o v → Below ((w.alloc (.cells #[.int .i64 o.k, .int .i64 o.a, .int .i64 o.b, .int .i64 o.c, .int .i64 o.d] 49)).alloc (.cells #[.nilFunc, .func (.func 68) #[] #[], .func (.func 69) #[] #[], .func (.func 70) #[] #[], .func (.func 71) #[] #[], .func (.func 72) #[] #[], .func (.func 73) #[] #[], .func (.func 74) #[] #[], .func (.func 75) #[] #[]] 89)).drew.heap.size ((w.alloc (.cells #[.int .i64 o.k, .int .i64 o.a, .int .i64 o.b, .int .i64 o.c, .int .i64 o.d] 49)).alloc (.cells #[.nilFunc, .func (.func 68) #[] #[], .func (.func 69) #[] #[], .func (.func 70) #[] #[], .func (.func 71) #[] #[], .func (.func 72) #[] #[], .func (.func 73) #[] #[], .func (.func 74) #[] #[], .func (.func 75) #[] #[]] 89)).drew w2 → Stepped o w (.returned v) w2) := Lib.hid fun v w2 hv hb => ⟨v, rfl, hv, (below_draws hb0 1).trans (hb.mono (below_draws hb0 1).size)⟩
  generalize hD : Stepped o w = D at *
  clear hD
  unfold Stepped at CS
  unfold Op.v at CS ⊢
  rw [hk] at CS ⊢
  rw [hk] at hb0 hO0 hM0 HG
  unfold OpAtB at hO0
  rw [hk] at hO0
  have HSb : Hid (∀ w', Below ((w.alloc (.cells #[.int .i64 2, .int .i64 o.a, .int .i64 o.b, .int .i64 o.c, .int .i64 o.d] 49)).alloc (.cells #[.nilFunc, .func (.func 68) #[] #[], .func (.func 69) #[] #[], .func (.func 70) #[] #[], .func (.func 71) #[] #[], .func (.func 72) #[] #[], .func (.func 73) #[] #[], .func (.func 74) #[] #[], .func (.func 75) #[] #[]] 89)).drew.heap.size ((w.alloc (.cells #[.int .i64 2, .int .i64 o.a, .int .i64 o.b, .int .i64 o.c, .int .i64 o.d] 49)).alloc (.cells #[.nilFunc, .func (.func 68) #[] #[], .func (.func 69) #[] #[], .func (.func 70) #[] #[], .func (.func 71) #[] #[], .func (.func 72) #[] #[], .func (.func 73) #[] #[], .func (.func 74) #[] #[], .func (.func 75) #[] #[]] 89)).drew w' → (w'.cell? ⟨w.heap.size, 0, none⟩ = some (.int .i64 2) ∧ w'.cell? ⟨w.heap.size, 1, none⟩ = some (.int .i64 o.a) ∧ w'.cell? ⟨w.heap.size, 2, none⟩ = some (.int .i64 o.b) ∧ w'.cell? ⟨w.heap.size, 3, none⟩ = some (.int .i64 o.c) ∧ w'.cell? ⟨w.heap.size, 4, none⟩ = some (.int .i64 o.d)) ∧ w'.cell? ⟨w.heap.size + 1, 2, none⟩ = some (.func (.func 69) #[] #[])) := Lib.hid fun w' hb =>
    have k1 := Box.below (Box.drew hO0) hb hO0.lt
    have k2 := Box.below (Box.drew hM0) hb hM0.lt
    ⟨⟨k1.cell rfl, k1.cell rfl, k1.cell rfl, k1.cell rfl, k1.cell rfl⟩, k2.cell rfl⟩
  have HS0 := Lib.hid (HSb.out _ (Below.refl _ _))
  clear hb0 hO0 hM0 hk
  go_enter Tryd.func42, Tryd.ntmps42
  go_wp2_with fail
  generalize ((w.alloc (.cells #[.int .i64 2, .int .i64 o.a, .int .i64 o.b, .int .i64 o.c, .int .i64 o.d] 49)).alloc (.cells #[.nilFunc, .func (.func 68) #[] #[], .func (.func 69) #[] #[], .func (.func 70) #[] #[], .func (.func 71) #[] #[], .func (.func 72) #[] #[], .func (.func 73) #[] #[], .func (.func 74) #[] #[], .func (.func 75) #[] #[]] 89)) = w0 at *
  refine wp_region_T (fun w' => (w'.cell? ⟨w.heap.size, 0, none⟩ = some (.int .i64 2) ∧ w'.cell? ⟨w.heap.size, 1, none⟩ = some (.int .i64 o.a) ∧ w'.cell? ⟨w.heap.size, 2, none⟩ = some (.int .i64 o.b) ∧ w'.cell? ⟨w.heap.size, 3, none⟩ = some (.int .i64 o.c) ∧ w'.cell? ⟨w.heap.size, 4, none⟩ = some (.int .i64 o.d)) ∧ w'.cell? ⟨w.heap.size + 1, 2, none⟩ = some (.func (.func 69) #[] #[])) 6 (by kernel_rfl) ?_
  refine wpAnyT_take (i := 0) (d := 5) (v := .pointer (some ⟨w.heap.size, 0, none⟩)) rfl rfl (by kernel_rfl) (by kernel_rfl) (by kernel_rfl) (by kernel_rfl) (by kernel_rfl) (fun _ _ _ h => h) HS0.out (Or.inl ⟨by rfl, fun w' hS' => ?_⟩) ?_
  · obtain ⟨⟨s0, s1, s2, s3, s4⟩, s5⟩ := hS'
    go_simp
  simp only [Act.put, List.setIfInBounds_toArray, List.set_cons_zero, List.set_cons_succ]
  refine wpAnyT_take (i := 1) (d := 6) (v := .int .i64 2) rfl rfl (by kernel_rfl) (by kernel_rfl) (by kernel_rfl) (by kernel_rfl) (by kernel_rfl) (fun _ _ _ h => h) HS0.out (Or.inl ⟨by rfl, fun w' hS' => ?_⟩) ?_
  · obtain ⟨⟨s0, s1, s2, s3, s4⟩, s5⟩ := hS'
    go_simp
  simp only [Act.put, List.setIfInBounds_toArray, List.set_cons_zero, List.set_cons_succ]
  refine wpAnyT_take (i := 2) (d := 7) (v := .pointer (some ⟨w.heap.size + 1, 2, none⟩)) rfl rfl (by kernel_rfl) (by kernel_rfl) (by kernel_rfl) (by kernel_rfl) (by kernel_rfl) (fun _ _ _ h => h) HS0.out (Or.inl ⟨by rfl, fun w' hS' => ?_⟩) ?_
  · obtain ⟨⟨s0, s1, s2, s3, s4⟩, s5⟩ := hS'
    go_simp
  simp only [Act.put, List.setIfInBounds_toArray, List.set_cons_zero, List.set_cons_succ]
  refine wpAnyT_take (i := 3) (d := 8) (v := .func (.func 69) #[] #[]) rfl rfl (by kernel_rfl) (by kernel_rfl) (by kernel_rfl) (by kernel_rfl) (by kernel_rfl) (fun _ _ _ h => h) HS0.out (Or.inl ⟨by rfl, fun w' hS' => ?_⟩) ?_
  · obtain ⟨⟨s0, s1, s2, s3, s4⟩, s5⟩ := hS'
    go_simp
  simp only [Act.put, List.setIfInBounds_toArray, List.set_cons_zero, List.set_cons_succ]
  refine wpAnyT_take (i := 4) (d := 9) (v := .agg #[.int .i64 2, .int .i64 o.a, .int .i64 o.b, .int .i64 o.c, .int .i64 o.d]) rfl rfl (by kernel_rfl) (by kernel_rfl) (by kernel_rfl) (by kernel_rfl) (by kernel_rfl) (fun _ _ _ h => h) HS0.out (Or.inl ⟨by rfl, fun w' hS' => ?_⟩) ?_
  · obtain ⟨⟨s0, s1, s2, s3, s4⟩, s5⟩ := hS'
    go_simp
  simp only [Act.put, List.setIfInBounds_toArray, List.set_cons_zero, List.set_cons_succ]
  refine wpAnyT_one (i := 5) (by kernel_rfl) rfl (fun K hK => ?_)
  go_simp
  refine CS.out.mono ?_
  rintro e w2 ⟨v, rfl, hv, b2⟩
  refine hK.out _ _ (fun _ => HSb.out _ b2) ?_
  clear hK
  try simp only [Act.put, List.setIfInBounds_toArray, List.set_cons_zero, List.set_cons_succ]
  refine wpAnyT_one (i := 6) (by kernel_rfl) rfl (fun K hK => ?_)
  go_simp
  refine hK.out _ _ last_out ?_
  clear hK
  refine wpAnyT_done (by kernel_rfl) ?_ _
  have HE := Lib.hid (HG.out v w2 hv b2)
  clear HG hv b2
  go_wp2_with fail
  exact HE.out
set_option maxHeartbeats 2000000 in
theorem opStepOf_3 (o : Op) (w : World) (hk : o.k = 3) : Calls Tryd.prog 42 #[o.v] w (Stepped o w) := by
  have hb0 : Below w.heap.size w ((w.alloc (.cells #[.int .i64 o.k, .int .i64 o.a, .int .i64 o.b, .int .i64 o.c, .int .i64 o.d] 49)).alloc (.cells #[.nilFunc, .func (.func 68) #[] #[], .func (.func 69) #[] #[], .func (.func 70) #[] #[], .func (.func 71) #[] #[], .func (.func 72) #[] #[], .func (.func 73) #[] #[], .func (.func 74) #[] #[], .func (.func 75) #[] #[]] 89)) := ((Below.refl _ w).alloc (Nat.le_refl _) _).alloc (by simp) _
  have hO0 : OpAtB ((w.alloc (.cells #[.int .i64 o.k, .int .i64 o.a, .int .i64 o.b, .int .i64 o.c, .int .i64 o.d] 49)).alloc (.cells #[.nilFunc, .func (.func 68) #[] #[], .func (.func 69) #[] #[], .func (.func 70) #[] #[], .func (.func 71) #[] #[], .func (.func 72) #[] #[], .func (.func 73) #[] #[], .func (.func 74) #[] #[], .func (.func 75) #[] #[]] 89)) w.heap.size o := Box.alloc (Box.new w _ _) _
  have hM0 : Box ((w.alloc (.cells #[.int .i64 o.k, .int .i64 o.a, .int .i64 o.b, .int .i64 o.c, .int .i64 o.d] 49)).alloc (.cells #[.nilFunc, .func (.func 68) #[] #[], .func (.func 69) #[] #[], .func (.func 70) #[] #[], .func (.func 71) #[] #[], .func (.func 72) #[] #[], .func (.func 73) #[] #[], .func (.func 74) #[] #[], .func (.func 75) #[] #[]] 89)) (w.heap.size + 1) #[.nilFunc, .func (.func 68) #[] #[], .func (.func 69) #[] #[], .func (.func 70) #[] #[], .func (.func 71) #[] #[], .func (.func 72) #[] #[], .func (.func 73) #[] #[], .func (.func 74) #[] #[], .func (.func 75) #[] #[]] 89 := by
    have := Box.new (w.alloc (.cells #[.int .i64 o.k, .int .i64 o.a, .int .i64 o.b, .int .i64 o.c, .int .i64 o.d] 49)) #[.nilFunc, .func (.func 68) #[] #[], .func (.func 69) #[] #[], .func (.func 70) #[] #[], .func (.func 71) #[] #[], .func (.func 72) #[] #[], .func (.func 73) #[] #[], .func (.func 74) #[] #[], .func (.func 75) #[] #[]] 89
    rw [show (w.alloc (.cells #[.int .i64 o.k, .int .i64 o.a, .int .i64 o.b, .int .i64 o.c, .int .i64 o.d] 49)).heap.size = w.heap.size + 1 from by simp] at this
    exact this
  have CS := Lib.hid (flipYStep_made o ((w.alloc (.cells #[.int .i64 o.k, .int .i64 o.a, .int .i64 o.b, .int .i64 o.c, .int .i64 o.d] 49)).alloc (.cells #[.nilFunc, .func (.func 68) #[] #[], .func (.func 69) #[] #[], .func (.func 70) #[] #[], .func (.func 71) #[] #[], .func (.func 72) #[] #[], .func (.func 73) #[] #[], .func (.func 74) #[] #[], .func (.func 75) #[] #[]] 89)).drew hk)
  have HG : Hid (∀ v w2, StepV w2 o v → Below ((w.alloc (.cells #[.int .i64 o.k, .int .i64 o.a, .int .i64 o.b, .int .i64 o.c, .int .i64 o.d] 49)).alloc (.cells #[.nilFunc, .func (.func 68) #[] #[], .func (.func 69) #[] #[], .func (.func 70) #[] #[], .func (.func 71) #[] #[], .func (.func 72) #[] #[], .func (.func 73) #[] #[], .func (.func 74) #[] #[], .func (.func 75) #[] #[]] 89)).drew.heap.size ((w.alloc (.cells #[.int .i64 o.k, .int .i64 o.a, .int .i64 o.b, .int .i64 o.c, .int .i64 o.d] 49)).alloc (.cells #[.nilFunc, .func (.func 68) #[] #[], .func (.func 69) #[] #[], .func (.func 70) #[] #[], .func (.func 71) #[] #[], .func (.func 72) #[] #[], .func (.func 73) #[] #[], .func (.func 74) #[] #[], .func (.func 75) #[] #[]] 89)).drew w2 → Stepped o w (.returned v) w2) := Lib.hid fun v w2 hv hb => ⟨v, rfl, hv, (below_draws hb0 1).trans (hb.mono (below_draws hb0 1).size)⟩
  generalize hD : Stepped o w = D at *
  clear hD
  unfold Stepped at CS
  unfold Op.v at CS ⊢
  rw [hk] at CS ⊢
  rw [hk] at hb0 hO0 hM0 HG
  unfold OpAtB at hO0
  rw [hk] at hO0
  have HSb : Hid (∀ w', Below ((w.alloc (.cells #[.int .i64 3, .int .i64 o.a, .int .i64 o.b, .int .i64 o.c, .int .i64 o.d] 49)).alloc (.cells #[.nilFunc, .func (.func 68) #[] #[], .func (.func 69) #[] #[], .func (.func 70) #[] #[], .func (.func 71) #[] #[], .func (.func 72) #[] #[], .func (.func 73) #[] #[], .func (.func 74) #[] #[], .func (.func 75) #[] #[]] 89)).drew.heap.size ((w.alloc (.cells #[.int .i64 3, .int .i64 o.a, .int .i64 o.b, .int .i64 o.c, .int .i64 o.d] 49)).alloc (.cells #[.nilFunc, .func (.func 68) #[] #[], .func (.func 69) #[] #[], .func (.func 70) #[] #[], .func (.func 71) #[] #[], .func (.func 72) #[] #[], .func (.func 73) #[] #[], .func (.func 74) #[] #[], .func (.func 75) #[] #[]] 89)).drew w' → (w'.cell? ⟨w.heap.size, 0, none⟩ = some (.int .i64 3) ∧ w'.cell? ⟨w.heap.size, 1, none⟩ = some (.int .i64 o.a) ∧ w'.cell? ⟨w.heap.size, 2, none⟩ = some (.int .i64 o.b) ∧ w'.cell? ⟨w.heap.size, 3, none⟩ = some (.int .i64 o.c) ∧ w'.cell? ⟨w.heap.size, 4, none⟩ = some (.int .i64 o.d)) ∧ w'.cell? ⟨w.heap.size + 1, 3, none⟩ = some (.func (.func 70) #[] #[])) := Lib.hid fun w' hb =>
    have k1 := Box.below (Box.drew hO0) hb hO0.lt
    have k2 := Box.below (Box.drew hM0) hb hM0.lt
    ⟨⟨k1.cell rfl, k1.cell rfl, k1.cell rfl, k1.cell rfl, k1.cell rfl⟩, k2.cell rfl⟩
  have HS0 := Lib.hid (HSb.out _ (Below.refl _ _))
  clear hb0 hO0 hM0 hk
  go_enter Tryd.func42, Tryd.ntmps42
  go_wp2_with fail
  generalize ((w.alloc (.cells #[.int .i64 3, .int .i64 o.a, .int .i64 o.b, .int .i64 o.c, .int .i64 o.d] 49)).alloc (.cells #[.nilFunc, .func (.func 68) #[] #[], .func (.func 69) #[] #[], .func (.func 70) #[] #[], .func (.func 71) #[] #[], .func (.func 72) #[] #[], .func (.func 73) #[] #[], .func (.func 74) #[] #[], .func (.func 75) #[] #[]] 89)) = w0 at *
  refine wp_region_T (fun w' => (w'.cell? ⟨w.heap.size, 0, none⟩ = some (.int .i64 3) ∧ w'.cell? ⟨w.heap.size, 1, none⟩ = some (.int .i64 o.a) ∧ w'.cell? ⟨w.heap.size, 2, none⟩ = some (.int .i64 o.b) ∧ w'.cell? ⟨w.heap.size, 3, none⟩ = some (.int .i64 o.c) ∧ w'.cell? ⟨w.heap.size, 4, none⟩ = some (.int .i64 o.d)) ∧ w'.cell? ⟨w.heap.size + 1, 3, none⟩ = some (.func (.func 70) #[] #[])) 6 (by kernel_rfl) ?_
  refine wpAnyT_take (i := 0) (d := 5) (v := .pointer (some ⟨w.heap.size, 0, none⟩)) rfl rfl (by kernel_rfl) (by kernel_rfl) (by kernel_rfl) (by kernel_rfl) (by kernel_rfl) (fun _ _ _ h => h) HS0.out (Or.inl ⟨by rfl, fun w' hS' => ?_⟩) ?_
  · obtain ⟨⟨s0, s1, s2, s3, s4⟩, s5⟩ := hS'
    go_simp
  simp only [Act.put, List.setIfInBounds_toArray, List.set_cons_zero, List.set_cons_succ]
  refine wpAnyT_take (i := 1) (d := 6) (v := .int .i64 3) rfl rfl (by kernel_rfl) (by kernel_rfl) (by kernel_rfl) (by kernel_rfl) (by kernel_rfl) (fun _ _ _ h => h) HS0.out (Or.inl ⟨by rfl, fun w' hS' => ?_⟩) ?_
  · obtain ⟨⟨s0, s1, s2, s3, s4⟩, s5⟩ := hS'
    go_simp
  simp only [Act.put, List.setIfInBounds_toArray, List.set_cons_zero, List.set_cons_succ]
  refine wpAnyT_take (i := 2) (d := 7) (v := .pointer (some ⟨w.heap.size + 1, 3, none⟩)) rfl rfl (by kernel_rfl) (by kernel_rfl) (by kernel_rfl) (by kernel_rfl) (by kernel_rfl) (fun _ _ _ h => h) HS0.out (Or.inl ⟨by rfl, fun w' hS' => ?_⟩) ?_
  · obtain ⟨⟨s0, s1, s2, s3, s4⟩, s5⟩ := hS'
    go_simp
  simp only [Act.put, List.setIfInBounds_toArray, List.set_cons_zero, List.set_cons_succ]
  refine wpAnyT_take (i := 3) (d := 8) (v := .func (.func 70) #[] #[]) rfl rfl (by kernel_rfl) (by kernel_rfl) (by kernel_rfl) (by kernel_rfl) (by kernel_rfl) (fun _ _ _ h => h) HS0.out (Or.inl ⟨by rfl, fun w' hS' => ?_⟩) ?_
  · obtain ⟨⟨s0, s1, s2, s3, s4⟩, s5⟩ := hS'
    go_simp
  simp only [Act.put, List.setIfInBounds_toArray, List.set_cons_zero, List.set_cons_succ]
  refine wpAnyT_take (i := 4) (d := 9) (v := .agg #[.int .i64 3, .int .i64 o.a, .int .i64 o.b, .int .i64 o.c, .int .i64 o.d]) rfl rfl (by kernel_rfl) (by kernel_rfl) (by kernel_rfl) (by kernel_rfl) (by kernel_rfl) (fun _ _ _ h => h) HS0.out (Or.inl ⟨by rfl, fun w' hS' => ?_⟩) ?_
  · obtain ⟨⟨s0, s1, s2, s3, s4⟩, s5⟩ := hS'
    go_simp
  simp only [Act.put, List.setIfInBounds_toArray, List.set_cons_zero, List.set_cons_succ]
  refine wpAnyT_one (i := 5) (by kernel_rfl) rfl (fun K hK => ?_)
  go_simp
  refine CS.out.mono ?_
  rintro e w2 ⟨v, rfl, hv, b2⟩
  refine hK.out _ _ (fun _ => HSb.out _ b2) ?_
  clear hK
  try simp only [Act.put, List.setIfInBounds_toArray, List.set_cons_zero, List.set_cons_succ]
  refine wpAnyT_one (i := 6) (by kernel_rfl) rfl (fun K hK => ?_)
  go_simp
  refine hK.out _ _ last_out ?_
  clear hK
  refine wpAnyT_done (by kernel_rfl) ?_ _
  have HE := Lib.hid (HG.out v w2 hv b2)
  clear HG hv b2
  go_wp2_with fail
  exact HE.out
set_option maxHeartbeats 2000000 in
theorem opStepOf_4 (o : Op) (w : World) (hk : o.k = 4) : Calls Tryd.prog 42 #[o.v] w (Stepped o w) := by
  have hb0 : Below w.heap.size w ((w.alloc (.cells #[.int .i64 o.k, .int .i64 o.a, .int .i64 o.b, .int .i64 o.c, .int .i64 o.d] 49)).alloc (.cells #[.nilFunc, .func (.func 68) #[] #[], .func (.func 69) #[] #[], .func (.func 70) #[] #[], .func (.func 71) #[] #[], .func (.func 72) #[] #[], .func (.func 73) #[] #[], .func (.func 74) #[] #[], .func (.func 75) #[] #[]] 89)) := ((Below.refl _ w).alloc (Nat.le_refl _) _).alloc (by simp) _
  have hO0 : OpAtB ((w.alloc (.cells #[.int .i64 o.k, .int .i64 o.a, .int .i64 o.b, .int .i64 o.c, .int .i64 o.d] 49)).alloc (.cells #[.nilFunc, .func (.func 68) #[] #[], .func (.func 69) #[] #[], .func (.func 70) #[] #[], .func (.func 71) #[] #[], .func (.func 72) #[] #[], .func (.func 73) #[] #[], .func (.func 74) #[] #[], .func (.func 75) #[] #[]] 89)) w.heap.size o := Box.alloc (Box.new w _ _) _
  have hM0 : Box ((w.alloc (.cells #[.int .i64 o.k, .int .i64 o.a, .int .i64 o.b, .int .i64 o.c, .int .i64 o.d] 49)).alloc (.cells #[.nilFunc, .func (.func 68) #[] #[], .func (.func 69) #[] #[], .func (.func 70) #[] #[], .func (.func 71) #[] #[], .func (.func 72) #[] #[], .func (.func 73) #[] #[], .func (.func 74) #[] #[], .func (.func 75) #[] #[]] 89)) (w.heap.size + 1) #[.nilFunc, .func (.func 68) #[] #[], .func (.func 69) #[] #[], .func (.func 70) #[] #[], .func (.func 71) #[] #[], .func (.func 72) #[] #[], .func (.func 73) #[] #[], .func (.func 74) #[] #[], .func (.func 75) #[] #[]] 89 := by
    have := Box.new (w.alloc (.cells #[.int .i64 o.k, .int .i64 o.a, .int .i64 o.b, .int .i64 o.c, .int .i64 o.d] 49)) #[.nilFunc, .func (.func 68) #[] #[], .func (.func 69) #[] #[], .func (.func 70) #[] #[], .func (.func 71) #[] #[], .func (.func 72) #[] #[], .func (.func 73) #[] #[], .func (.func 74) #[] #[], .func (.func 75) #[] #[]] 89
    rw [show (w.alloc (.cells #[.int .i64 o.k, .int .i64 o.a, .int .i64 o.b, .int .i64 o.c, .int .i64 o.d] 49)).heap.size = w.heap.size + 1 from by simp] at this
    exact this
  have CS := Lib.hid (turnStep_made o ((w.alloc (.cells #[.int .i64 o.k, .int .i64 o.a, .int .i64 o.b, .int .i64 o.c, .int .i64 o.d] 49)).alloc (.cells #[.nilFunc, .func (.func 68) #[] #[], .func (.func 69) #[] #[], .func (.func 70) #[] #[], .func (.func 71) #[] #[], .func (.func 72) #[] #[], .func (.func 73) #[] #[], .func (.func 74) #[] #[], .func (.func 75) #[] #[]] 89)).drew hk)
  have HG : Hid (∀ v w2, StepV w2 o v → Below ((w.alloc (.cells #[.int .i64 o.k, .int .i64 o.a, .int .i64 o.b, .int .i64 o.c, .int .i64 o.d] 49)).alloc (.cells #[.nilFunc, .func (.func 68) #[] #[], .func (.func 69) #[] #[], .func (.func 70) #[] #[], .func (.func 71) #[] #[], .func (.func 72) #[] #[], .func (.func 73) #[] #[], .func (.func 74) #[] #[], .func (.func 75) #[] #[]] 89)).drew.heap.size ((w.alloc (.cells #[.int .i64 o.k, .int .i64 o.a, .int .i64 o.b, .int .i64 o.c, .int .i64 o.d] 49)).alloc (.cells #[.nilFunc, .func (.func 68) #[] #[], .func (.func 69) #[] #[], .func (.func 70) #[] #[], .func (.func 71) #[] #[], .func (.func 72) #[] #[], .func (.func 73) #[] #[], .func (.func 74) #[] #[], .func (.func 75) #[] #[]] 89)).drew w2 → Stepped o w (.returned v) w2) := Lib.hid fun v w2 hv hb => ⟨v, rfl, hv, (below_draws hb0 1).trans (hb.mono (below_draws hb0 1).size)⟩
  generalize hD : Stepped o w = D at *
  clear hD
  unfold Stepped at CS
  unfold Op.v at CS ⊢
  rw [hk] at CS ⊢
  rw [hk] at hb0 hO0 hM0 HG
  unfold OpAtB at hO0
  rw [hk] at hO0
  have HSb : Hid (∀ w', Below ((w.alloc (.cells #[.int .i64 4, .int .i64 o.a, .int .i64 o.b, .int .i64 o.c, .int .i64 o.d] 49)).alloc (.cells #[.nilFunc, .func (.func 68) #[] #[], .func (.func 69) #[] #[], .func (.func 70) #[] #[], .func (.func 71) #[] #[], .func (.func 72) #[] #[], .func (.func 73) #[] #[], .func (.func 74) #[] #[], .func (.func 75) #[] #[]] 89)).drew.heap.size ((w.alloc (.cells #[.int .i64 4, .int .i64 o.a, .int .i64 o.b, .int .i64 o.c, .int .i64 o.d] 49)).alloc (.cells #[.nilFunc, .func (.func 68) #[] #[], .func (.func 69) #[] #[], .func (.func 70) #[] #[], .func (.func 71) #[] #[], .func (.func 72) #[] #[], .func (.func 73) #[] #[], .func (.func 74) #[] #[], .func (.func 75) #[] #[]] 89)).drew w' → (w'.cell? ⟨w.heap.size, 0, none⟩ = some (.int .i64 4) ∧ w'.cell? ⟨w.heap.size, 1, none⟩ = some (.int .i64 o.a) ∧ w'.cell? ⟨w.heap.size, 2, none⟩ = some (.int .i64 o.b) ∧ w'.cell? ⟨w.heap.size, 3, none⟩ = some (.int .i64 o.c) ∧ w'.cell? ⟨w.heap.size, 4, none⟩ = some (.int .i64 o.d)) ∧ w'.cell? ⟨w.heap.size + 1, 4, none⟩ = some (.func (.func 71) #[] #[])) := Lib.hid fun w' hb =>
    have k1 := Box.below (Box.drew hO0) hb hO0.lt
    have k2 := Box.below (Box.drew hM0) hb hM0.lt
    ⟨⟨k1.cell rfl, k1.cell rfl, k1.cell rfl, k1.cell rfl, k1.cell rfl⟩, k2.cell rfl⟩
  have HS0 := Lib.hid (HSb.out _ (Below.refl _ _))
  clear hb0 hO0 hM0 hk
  go_enter Tryd.func42, Tryd.ntmps42
  go_wp2_with fail
  generalize ((w.alloc (.cells #[.int .i64 4, .int .i64 o.a, .int .i64 o.b, .int .i64 o.c, .int .i64 o.d] 49)).alloc (.cells #[.nilFunc, .func (.func 68) #[] #[], .func (.func 69) #[] #[], .func (.func 70) #[] #[], .func (.func 71) #[] #[], .func (.func 72) #[] #[], .func (.func 73) #[] #[], .func (.func 74) #[] #[], .func (.func 75) #[] #[]] 89)) = w0 at *
  refine wp_region_T (fun w' => (w'.cell? ⟨w.heap.size, 0, none⟩ = some (.int .i64 4) ∧ w'.cell? ⟨w.heap.size, 1, none⟩ = some (.int .i64 o.a) ∧ w'.cell? ⟨w.heap.size, 2, none⟩ = some (.int .i64 o.b) ∧ w'.cell? ⟨w.heap.size, 3, none⟩ = some (.int .i64 o.c) ∧ w'.cell? ⟨w.heap.size, 4, none⟩ = some (.int .i64 o.d)) ∧ w'.cell? ⟨w.heap.size + 1, 4, none⟩ = some (.func (.func 71) #[] #[])) 6 (by kernel_rfl) ?_
  refine wpAnyT_take (i := 0) (d := 5) (v := .pointer (some ⟨w.heap.size, 0, none⟩)) rfl rfl (by kernel_rfl) (by kernel_rfl) (by kernel_rfl) (by kernel_rfl) (by kernel_rfl) (fun _ _ _ h => h) HS0.out (Or.inl ⟨by rfl, fun w' hS' => ?_⟩) ?_
  · obtain ⟨⟨s0, s1, s2, s3, s4⟩, s5⟩ := hS'
    go_simp
  simp only [Act.put, List.setIfInBounds_toArray, List.set_cons_zero, List.set_cons_succ]
  refine wpAnyT_take (i := 1) (d := 6) (v := .int .i64 4) rfl rfl (by kernel_rfl) (by kernel_rfl) (by kernel_rfl) (by kernel_rfl) (by kernel_rfl) (fun _ _ _ h => h) HS0.out (Or.inl ⟨by rfl, fun w' hS' => ?_⟩) ?_
  · obtain ⟨⟨s0, s1, s2, s3, s4⟩, s5⟩ := hS'
    go_simp
  simp only [Act.put, List.setIfInBounds_toArray, List.set_cons_zero, List.set_cons_succ]
  refine wpAnyT_take (i := 2) (d := 7) (v := .pointer (some ⟨w.heap.size + 1, 4, none⟩)) rfl rfl (by kernel_rfl) (by kernel_rfl) (by kernel_rfl) (by kernel_rfl) (by kernel_rfl) (fun _ _ _ h => h) HS0.out (Or.inl ⟨by rfl, fun w' hS' => ?_⟩) ?_
  · obtain ⟨⟨s0, s1, s2, s3, s4⟩, s5⟩ := hS'
    go_simp
  simp only [Act.put, List.setIfInBounds_toArray, List.set_cons_zero, List.set_cons_succ]
  refine wpAnyT_take (i := 3) (d := 8) (v := .func (.func 71) #[] #[]) rfl rfl (by kernel_rfl) (by kernel_rfl) (by kernel_rfl) (by kernel_rfl) (by kernel_rfl) (fun _ _ _ h => h) HS0.out (Or.inl ⟨by rfl, fun w' hS' => ?_⟩) ?_
  · obtain ⟨⟨s0, s1, s2, s3, s4⟩, s5⟩ := hS'
    go_simp
  simp only [Act.put, List.setIfInBounds_toArray, List.set_cons_zero, List.set_cons_succ]
  refine wpAnyT_take (i := 4) (d := 9) (v := .agg #[.int .i64 4, .int .i64 o.a, .int .i64 o.b, .int .i64 o.c, .int .i64 o.d]) rfl rfl (by kernel_rfl) (by kernel_rfl) (by kernel_rfl) (by kernel_rfl) (by kernel_rfl) (fun _ _ _ h => h) HS0.out (Or.inl ⟨by rfl, fun w' hS' => ?_⟩) ?_
  · obtain ⟨⟨s0, s1, s2, s3, s4⟩, s5⟩ := hS'
    go_simp
  simp only [Act.put, List.setIfInBounds_toArray, List.set_cons_zero, List.set_cons_succ]
  refine wpAnyT_one (i := 5) (by kernel_rfl) rfl (fun K hK => ?_)
  go_simp
  refine CS.out.mono ?_
  rintro e w2 ⟨v, rfl, hv, b2⟩
  refine hK.out _ _ (fun _ => HSb.out _ b2) ?_
  clear hK
  try simp only [Act.put, List.setIfInBounds_toArray, List.set_cons_zero, List.set_cons_succ]
  refine wpAnyT_one (i := 6) (by kernel_rfl) rfl (fun K hK => ?_)
  go_simp
  refine hK.out _ _ last_out ?_
  clear hK
  refine wpAnyT_done (by kernel_rfl) ?_ _
  have HE := Lib.hid (HG.out v w2 hv b2)
  clear HG hv b2
  go_wp2_with fail
  exact HE.out
set_option maxHeartbeats 2000000 in
theorem opStepOf_5 (o : Op) (w : World) (hk : o.k = 5) : Calls Tryd.prog 42 #[o.v] w (Stepped o w) := by
  have hb0 : Below w.heap.size w ((w.alloc (.cells #[.int .i64 o.k, .int .i64 o.a, .int .i64 o.b, .int .i64 o.c, .int .i64 o.d] 49)).alloc (.cells #[.nilFunc, .func (.func 68) #[] #[], .func (.func 69) #[] #[], .func (.func 70) #[] #[], .func (.func 71) #[] #[], .func (.func 72) #[] #[], .func (.func 73) #[] #[], .func (.func 74) #[] #[], .func (.func 75) #[] #[]] 89)) := ((Below.refl _ w).alloc (Nat.le_refl _) _).alloc (by simp) _
  have hO0 : OpAtB ((w.alloc (.cells #[.int .i64 o.k, .int .i64 o.a, .int .i64 o.b, .int .i64 o.c, .int .i64 o.d] 49)).alloc (.cells #[.nilFunc, .func (.func 68) #[] #[], .func (.func 69) #[] #[], .func (.func 70) #[] #[], .func (.func 71) #[] #[], .func (.func 72) #[] #[], .func (.func 73) #[] #[], .func (.func 74) #[] #[], .func (.func 75) #[] #[]] 89)) w.heap.size o := Box.alloc (Box.new w _ _) _
  have hM0 : Box ((w.alloc (.cells #[.int .i64 o.k, .int .i64 o.a, .int .i64 o.b, .int .i64 o.c, .int .i64 o.d] 49)).alloc (.cells #[.nilFunc, .func (.func 68) #[] #[], .func (.func 69) #[] #[], .func (.func 70) #[] #[], .func (.func 71) #[] #[], .func (.func 72) #[] #[], .func (.func 73) #[] #[], .func (.func 74) #[] #[], .func (.func 75) #[] #[]] 89)) (w.heap.size + 1) #[.nilFunc, .func (.func 68) #[] #[], .func (.func 69) #[] #[], .func (.func 70) #[] #[], .func (.func 71) #[] #[], .func (.func 72) #[] #[], .func (.func 73) #[] #[], .func (.func 74) #[] #[], .func (.func 75) #[] #[]] 89 := by
    have := Box.new (w.alloc (.cells #[.int .i64 o.k, .int .i64 o.a, .int .i64 o.b, .int .i64 o.c, .int .i64 o.d] 49)) #[.nilFunc, .func (.func 68) #[] #[], .func (.func 69) #[] #[], .func (.func 70) #[] #[], .func (.func 71) #[] #[], .func (.func 72) #[] #[], .func (.func 73) #[] #[], .func (.func 74) #[] #[], .func (.func 75) #[] #[]] 89
    rw [show (w.alloc (.cells #[.int .i64 o.k, .int .i64 o.a, .int .i64 o.b, .int .i64 o.c, .int .i64 o.d] 49)).heap.size = w.heap.size + 1 from by simp] at this
    exact this
  have CS := Lib.hid (grayStep_made o ((w.alloc (.cells #[.int .i64 o.k, .int .i64 o.a, .int .i64 o.b, .int .i64 o.c, .int .i64 o.d] 49)).alloc (.cells #[.nilFunc, .func (.func 68) #[] #[], .func (.func 69) #[] #[], .func (.func 70) #[] #[], .func (.func 71) #[] #[], .func (.func 72) #[] #[], .func (.func 73) #[] #[], .func (.func 74) #[] #[], .func (.func 75) #[] #[]] 89)).drew hk)
  have HG : Hid (∀ v w2, StepV w2 o v → Below ((w.alloc (.cells #[.int .i64 o.k, .int .i64 o.a, .int .i64 o.b, .int .i64 o.c, .int .i64 o.d] 49)).alloc (.cells #[.nilFunc, .func (.func 68) #[] #[], .func (.func 69) #[] #[], .func (.func 70) #[] #[], .func (.func 71) #[] #[], .func (.func 72) #[] #[], .func (.func 73) #[] #[], .func (.func 74) #[] #[], .func (.func 75) #[] #[]] 89)).drew.heap.size ((w.alloc (.cells #[.int .i64 o.k, .int .i64 o.a, .int .i64 o.b, .int .i64 o.c, .int .i64 o.d] 49)).alloc (.cells #[.nilFunc, .func (.func 68) #[] #[], .func (.func 69) #[] #[], .func (.func 70) #[] #[], .func (.func 71) #[] #[], .func (.func 72) #[] #[], .func (.func 73) #[] #[], .func (.func 74) #[] #[], .func (.func 75) #[] #[]] 89)).drew w2 → Stepped o w (.returned v) w2) := Lib.hid fun v w2 hv hb => ⟨v, rfl, hv, (below_draws hb0 1).trans (hb.mono (below_draws hb0 1).size)⟩
  generalize hD : Stepped o w = D at *
  clear hD
  unfold Stepped at CS
  unfold Op.v at CS ⊢
  rw [hk] at CS ⊢
  rw [hk] at hb0 hO0 hM0 HG
  unfold OpAtB at hO0
  rw [hk] at hO0
  have HSb : Hid (∀ w', Below ((w.alloc (.cells #[.int .i64 5, .int .i64 o.a, .int .i64 o.b, .int .i64 o.c, .int .i64 o.d] 49)).alloc (.cells #[.nilFunc, .func (.func 68) #[] #[], .func (.func 69) #[] #[], .func (.func 70) #[] #[], .func (.func 71) #[] #[], .func (.func 72) #[] #[], .func (.func 73) #[] #[], .func (.func 74) #[] #[], .func (.func 75) #[] #[]] 89)).drew.heap.size ((w.alloc (.cells #[.int .i64 5, .int .i64 o.a, .int .i64 o.b, .int .i64 o.c, .int .i64 o.d] 49)).alloc (.cells #[.nilFunc, .func (.func 68) #[] #[], .func (.func 69) #[] #[], .func (.func 70) #[] #[], .func (.func 71) #[] #[], .func (.func 72) #[] #[], .func (.func 73) #[] #[], .func (.func 74) #[] #[], .func (.func 75) #[] #[]] 89)).drew w' → (w'.cell? ⟨w.heap.size, 0, none⟩ = some (.int .i64 5) ∧ w'.cell? ⟨w.heap.size, 1, none⟩ = some (.int .i64 o.a) ∧ w'.cell? ⟨w.heap.size, 2, none⟩ = some (.int .i64 o.b) ∧ w'.cell? ⟨w.heap.size, 3, none⟩ = some (.int .i64 o.c) ∧ w'.cell? ⟨w.heap.size, 4, none⟩ = some (.int .i64 o.d)) ∧ w'.cell? ⟨w.heap.size + 1, 5, none⟩ = some (.func (.func 72) #[] #[])) := Lib.hid fun w' hb =>
    have k1 := Box.below (Box.drew hO0) hb hO0.lt
    have k2 := Box.below (Box.drew hM0) hb hM0.lt
    ⟨⟨k1.cell rfl, k1.cell rfl, k1.cell rfl, k1.cell rfl, k1.cell rfl⟩, k2.cell rfl⟩
  have HS0 := Lib.hid (HSb.out _ (Below.refl _ _))
  clear hb0 hO0 hM0 hk
  go_enter Tryd.func42, Tryd.ntmps42
  go_wp2_with fail
  generalize ((w.alloc (.cells #[.int .i64 5, .int .i64 o.a, .int .i64 o.b, .int .i64 o.c, .int .i64 o.d] 49)).alloc (.cells #[.nilFunc, .func (.func 68) #[] #[], .func (.func 69) #[] #[], .func (.func 70) #[] #[], .func (.func 71) #[] #[], .func (.func 72) #[] #[], .func (.func 73) #[] #[], .func (.func 74) #[] #[], .func (.func 75) #[] #[]] 89)) = w0 at *
  refine wp_region_T (fun w' => (w'.cell? ⟨w.heap.size, 0, none⟩ = some (.int .i64 5) ∧ w'.cell? ⟨w.heap.size, 1, none⟩ = some (.int .i64 o.a) ∧ w'.cell? ⟨w.heap.size, 2, none⟩ = some (.int .i64 o.b) ∧ w'.cell? ⟨w.heap.size, 3, none⟩ = some (.int .i64 o.c) ∧ w'.cell? ⟨w.heap.size, 4, none⟩ = some (.int .i64 o.d)) ∧ w'.cell? ⟨w.heap.size + 1, 5, none⟩ = some (.func (.func 72) #[] #[])) 6 (by kernel_rfl) ?_
  refine wpAnyT_take (i := 0) (d := 5) (v := .pointer (some ⟨w.heap.size, 0, none⟩)) rfl rfl (by kernel_rfl) (by kernel_rfl) (by kernel_rfl) (by kernel_rfl) (by kernel_rfl) (fun _ _ _ h => h) HS0.out (Or.inl ⟨by rfl, fun w' hS' => ?_⟩) ?_
  · obtain ⟨⟨s0, s1, s2, s3, s4⟩, s5⟩ := hS'
    go_simp
  simp only [Act.put, List.setIfInBounds_toArray, List.set_cons_zero, List.set_cons_succ]
  refine wpAnyT_take (i := 1) (d := 6) (v := .int .i64 5) rfl rfl (by kernel_rfl) (by kernel_rfl) (by kernel_rfl) (by kernel_rfl) (by kernel_rfl) (fun _ _ _ h => h) HS0.out (Or.inl ⟨by rfl, fun w' hS' => ?_⟩) ?_
  · obtain ⟨⟨s0, s1, s2, s3, s4⟩, s5⟩ := hS'
    go_simp
  simp only [Act.put, List.setIfInBounds_toArray, List.set_cons_zero, List.set_cons_succ]
  refine wpAnyT_take (i := 2) (d := 7) (v := .pointer (some ⟨w.heap.size + 1, 5, none⟩)) rfl rfl (by kernel_rfl) (by kernel_rfl) (by kernel_rfl) (by kernel_rfl) (by kernel_rfl) (fun _ _ _ h => h) HS0.out (Or.inl ⟨by rfl, fun w' hS' => ?_⟩) ?_
  · obtain ⟨⟨s0, s1, s2, s3, s4⟩, s5⟩ := hS'
    go_simp
  simp only [Act.put, List.setIfInBounds_toArray, List.set_cons_zero, List.set_cons_succ]
  refine wpAnyT_take (i := 3) (d := 8) (v := .func (.func 72) #[] #[]) rfl rfl (by kernel_rfl) (by kernel_rfl) (by kernel_rfl) (by kernel_rfl) (by kernel_rfl) (fun _ _ _ h => h) HS0.out (Or.inl ⟨by rfl, fun w' hS' => ?_⟩) ?_
  · obtain ⟨⟨s0, s1, s2, s3, s4⟩, s5⟩ := hS'
    go_simp
  simp only [Act.put, List.setIfInBounds_toArray, List.set_cons_zero, List.set_cons_succ]
  refine wpAnyT_take (i := 4) (d := 9) (v := .agg #[.int .i64 5, .int .i64 o.a, .int .i64 o.b, .int .i64 o.c, .int .i64 o.d]) rfl rfl (by kernel_rfl) (by kernel_rfl) (by kernel_rfl) (by kernel_rfl) (by kernel_rfl) (fun _ _ _ h => h) HS0.out (Or.inl ⟨by rfl, fun w' hS' => ?_⟩) ?_
  · obtain ⟨⟨s0, s1, s2, s3, s4⟩, s5⟩ := hS'
    go_simp
  simp only [Act.put, List.setIfInBounds_toArray, List.set_cons_zero, List.set_cons_succ]
  refine wpAnyT_one (i := 5) (by kernel_rfl) rfl (fun K hK => ?_)
  go_simp
  refine CS.out.mono ?_
  rintro e w2 ⟨v, rfl, hv, b2⟩
  refine hK.out _ _ (fun _ => HSb.out _ b2) ?_
  clear hK
  try simp only [Act.put, List.setIfInBounds_toArray, List.set_cons_zero, List.set_cons_succ]
  refine wpAnyT_one (i := 6) (by kernel_rfl) rfl (fun K hK => ?_)
  go_simp
  refine hK.out _ _ last_out ?_
  clear hK
  refine wpAnyT_done (by kernel_rfl) ?_ _
  have HE := Lib.hid (HG.out v w2 hv b2)
  clear HG hv b2
  go_wp2_with fail
  exact HE.out
set_option maxHeartbeats 2000000 in
theorem opStepOf_6 (o : Op) (w : World) (hk : o.k = 6) : Calls Tryd.prog 42 #[o.v] w (Stepped o w) := by
  have hb0 : Below w.heap.size w ((w.alloc (.cells #[.int .i64 o.k, .int .i64 o.a, .int .i64 o.b, .int .i64 o.c, .int .i64 o.d] 49)).alloc (.cells #[.nilFunc, .func (.func 68) #[] #[], .func (.func 69) #[] #[], .func (.func 70) #[] #[], .func (.func 71) #[] #[], .func (.func 72) #[] #[], .func (.func 73) #[] #[], .func (.func 74) #[] #[], .func (.func 75) #[] #[]] 89)) := ((Below.refl _ w).alloc (Nat.le_refl _) _).alloc (by simp) _
  have hO0 : OpAtB ((w.alloc (.cells #[.int .i64 o.k, .int .i64 o.a, .int .i64 o.b, .int .i64 o.c, .int .i64 o.d] 49)).alloc (.cells #[.nilFunc, .func (.func 68) #[] #[], .func (.func 69) #[] #[], .func (.func 70) #[] #[], .func (.func 71) #[] #[], .func (.func 72) #[] #[], .func (.func 73) #[] #[], .func (.func 74) #[] #[], .func (.func 75) #[] #[]] 89)) w.heap.size o := Box.alloc (Box.new w _ _) _
  have hM0 : Box ((w.alloc (.cells #[.int .i64 o.k, .int .i64 o.a, .int .i64 o.b, .int .i64 o.c, .int .i64 o.d] 49)).alloc (.cells #[.nilFunc, .func (.func 68) #[] #[], .func (.func 69) #[] #[], .func (.func 70) #[] #[], .func (.func 71) #[] #[], .func (.func 72) #[] #[], .func (.func 73) #[] #[], .func (.func 74) #[] #[], .func (.func 75) #[] #[]] 89)) (w.heap.size + 1) #[.nilFunc, .func (.func 68) #[] #[], .func (.func 69) #[] #[], .func (.func 70) #[] #[], .func (.func 71) #[] #[], .func (.func 72) #[] #[], .func (.func 73) #[] #[], .func (.func 74) #[] #[], .func (.func 75) #[] #[]] 89 := by
    have := Box.new (w.alloc (.cells #[.int .i64 o.k, .int .i64 o.a, .int .i64 o.b, .int .i64 o.c, .int .i64 o.d] 49)) #[.nilFunc, .func (.func 68) #[] #[], .func (.func 69) #[] #[], .func (.func 70) #[] #[], .func (.func 71) #[] #[], .func (.func 72) #[] #[], .func (.func 73) #[] #[], .func (.func 74) #[] #[], .func (.func 75) #[] #[]] 89
    rw [show (w.alloc (.cells #[.int .i64 o.k, .int .i64 o.a, .int .i64 o.b, .int .i64 o.c, .int .i64 o.d] 49)).heap.size = w.heap.size + 1 from by simp] at this
    exact this
  have CS := Lib.hid (blurStep_made o ((w.alloc (.cells #[.int .i64 o.k, .int .i64 o.a, .int .i64 o.b, .int .i64 o.c, .int .i64 o.d] 49)).alloc (.cells #[.nilFunc, .func (.func 68) #[] #[], .func (.func 69) #[] #[], .func (.func 70) #[] #[], .func (.func 71) #[] #[], .func (.func 72) #[] #[], .func (.func 73) #[] #[], .func (.func 74) #[] #[], .func (.func 75) #[] #[]] 89)).drew hk)
  have HG : Hid (∀ v w2, StepV w2 o v → Below ((w.alloc (.cells #[.int .i64 o.k, .int .i64 o.a, .int .i64 o.b, .int .i64 o.c, .int .i64 o.d] 49)).alloc (.cells #[.nilFunc, .func (.func 68) #[] #[], .func (.func 69) #[] #[], .func (.func 70) #[] #[], .func (.func 71) #[] #[], .func (.func 72) #[] #[], .func (.func 73) #[] #[], .func (.func 74) #[] #[], .func (.func 75) #[] #[]] 89)).drew.heap.size ((w.alloc (.cells #[.int .i64 o.k, .int .i64 o.a, .int .i64 o.b, .int .i64 o.c, .int .i64 o.d] 49)).alloc (.cells #[.nilFunc, .func (.func 68) #[] #[], .func (.func 69) #[] #[], .func (.func 70) #[] #[], .func (.func 71) #[] #[], .func (.func 72) #[] #[], .func (.func 73) #[] #[], .func (.func 74) #[] #[], .func (.func 75) #[] #[]] 89)).drew w2 → Stepped o w (.returned v) w2) := Lib.hid fun v w2 hv hb => ⟨v, rfl, hv, (below_draws hb0 1).trans (hb.mono (below_draws hb0 1).size)⟩
  generalize hD : Stepped o w = D at *
  clear hD
  unfold Stepped at CS
  unfold Op.v at CS ⊢
  rw [hk] at CS ⊢
  rw [hk] at hb0 hO0 hM0 HG
  unfold OpAtB at hO0
  rw [hk] at hO0
  have HSb : Hid (∀ w', Below ((w.alloc (.cells #[.int .i64 6, .int .i64 o.a, .int .i64 o.b, .int .i64 o.c, .int .i64 o.d] 49)).alloc (.cells #[.nilFunc, .func (.func 68) #[] #[], .func (.func 69) #[] #[], .func (.func 70) #[] #[], .func (.func 71) #[] #[], .func (.func 72) #[] #[], .func (.func 73) #[] #[], .func (.func 74) #[] #[], .func (.func 75) #[] #[]] 89)).drew.heap.size ((w.alloc (.cells #[.int .i64 6, .int .i64 o.a, .int .i64 o.b, .int .i64 o.c, .int .i64 o.d] 49)).alloc (.cells #[.nilFunc, .func (.func 68) #[] #[], .func (.func 69) #[] #[], .func (.func 70) #[] #[], .func (.func 71) #[] #[], .func (.func 72) #[] #[], .func (.func 73) #[] #[], .func (.func 74) #[] #[], .func (.func 75) #[] #[]] 89)).drew w' → (w'.cell? ⟨w.heap.size, 0, none⟩ = some (.int .i64 6) ∧ w'.cell? ⟨w.heap.size, 1, none⟩ = some (.int .i64 o.a) ∧ w'.cell? ⟨w.heap.size, 2, none⟩ = some (.int .i64 o.b) ∧ w'.cell? ⟨w.heap.size, 3, none⟩ = some (.int .i64 o.c) ∧ w'.cell? ⟨w.heap.size, 4, none⟩ = some (.int .i64 o.d)) ∧ w'.cell? ⟨w.heap.size + 1, 6, none⟩ = some (.func (.func 73) #[] #[])) := Lib.hid fun w' hb =>
    have k1 := Box.below (Box.drew hO0) hb hO0.lt
    have k2 := Box.below (Box.drew hM0) hb hM0.lt
    ⟨⟨k1.cell rfl, k1.cell rfl, k1.cell rfl, k1.cell rfl, k1.cell rfl⟩, k2.cell rfl⟩
  have HS0 := Lib.hid (HSb.out _ (Below.refl _ _))
  clear hb0 hO0 hM0 hk
  go_enter Tryd.func42, Tryd.ntmps42
  go_wp2_with fail
  generalize ((w.alloc (.cells #[.int .i64 6, .int .i64 o.a, .int .i64 o.b, .int .i64 o.c, .int .i64 o.d] 49)).alloc (.cells #[.nilFunc, .func (.func 68) #[] #[], .func (.func 69) #[] #[], .func (.func 70) #[] #[], .func (.func 71) #[] #[], .func (.func 72) #[] #[], .func (.func 73) #[] #[], .func (.func 74) #[] #[], .func (.func 75) #[] #[]] 89)) = w0 at *
  refine wp_region_T (fun w' => (w'.cell? ⟨w.heap.size, 0, none⟩ = some (.int .i64 6) ∧ w'.cell? ⟨w.heap.size, 1, none⟩ = some (.int .i64 o.a) ∧ w'.cell? ⟨w.heap.size, 2, none⟩ = some (.int .i64 o.b) ∧ w'.cell? ⟨w.heap.size, 3, none⟩ = some (.int .i64 o.c) ∧ w'.cell? ⟨w.heap.size, 4, none⟩ = some (.int .i64 o.d)) ∧ w'.cell? ⟨w.heap.size + 1, 6, none⟩ = some (.func (.func 73) #[] #[])) 6 (by kernel_rfl) ?_
  refine wpAnyT_take (i := 0) (d := 5) (v := .pointer (some ⟨w.heap.size, 0, none⟩)) rfl rfl (by kernel_rfl) (by kernel_rfl) (by kernel_rfl) (by kernel_rfl) (by kernel_rfl) (fun _ _ _ h => h) HS0.out (Or.inl ⟨by rfl, fun w' hS' => ?_⟩) ?_
  · obtain ⟨⟨s0, s1, s2, s3, s4⟩, s5⟩ := hS'
    go_simp
  simp only [Act.put, List.setIfInBounds_toArray, List.set_cons_zero, List.set_cons_succ]
  refine wpAnyT_take (i := 1) (d := 6) (v := .int .i64 6) rfl rfl (by kernel_rfl) (by kernel_rfl) (by kernel_rfl) (by kernel_rfl) (by kernel_rfl) (fun _ _ _ h => h) HS0.out (Or.inl ⟨by rfl, fun w' hS' => ?_⟩) ?_
  · obtain ⟨⟨s0, s1, s2, s3, s4⟩, s5⟩ := hS'
    go_simp
  simp only [Act.put, List.setIfInBounds_toArray, List.set_cons_zero, List.set_cons_succ]
  refine wpAnyT_take (i := 2) (d := 7) (v := .pointer (some ⟨w.heap.size + 1, 6, none⟩)) rfl rfl (by kernel_rfl) (by kernel_rfl) (by kernel_rfl) (by kernel_rfl) (by kernel_rfl) (fun _ _ _ h => h) HS0.out (Or.inl ⟨by rfl, fun w' hS' => ?_⟩) ?_
  · obtain ⟨⟨s0, s1, s2, s3, s4⟩, s5⟩ := hS'
    go_simp
  simp only [Act.put, List.setIfInBounds_toArray, List.set_cons_zero, List.set_cons_succ]
  refine wpAnyT_take (i := 3) (d := 8) (v := .func (.func 73) #[] #[]) rfl rfl (by kernel_rfl) (by kernel_rfl) (by kernel_rfl) (by kernel_rfl) (by kernel_rfl) (fun _ _ _ h => h) HS0.out (Or.inl ⟨by rfl, fun w' hS' => ?_⟩) ?_
  · obtain ⟨⟨s0, s1, s2, s3, s4⟩, s5⟩ := hS'
    go_simp
  simp only [Act.put, List.setIfInBounds_toArray, List.set_cons_zero, List.set_cons_succ]
  refine wpAnyT_take (i := 4) (d := 9) (v := .agg #[.int .i64 6, .int .i64 o.a, .int .i64 o.b, .int .i64 o.c, .int .i64 o.d]) rfl rfl (by kernel_rfl) (by kernel_rfl) (by kernel_rfl) (by kernel_rfl) (by kernel_rfl) (fun _ _ _ h => h) HS0.out (Or.inl ⟨by rfl, fun w' hS' => ?_⟩) ?_
  · obtain ⟨⟨s0, s1, s2, s3, s4⟩, s5⟩ := hS'
    go_simp
  simp only [Act.put, List.setIfInBounds_toArray, List.set_cons_zero, List.set_cons_succ]
  refine wpAnyT_one (i := 5) (by kernel_rfl) rfl (fun K hK => ?_)
  go_simp
  refine CS.out.mono ?_
  rintro e w2 ⟨v, rfl, hv, b2⟩
  refine hK.out _ _ (fun _ => HSb.out _ b2) ?_
  clear hK
  try simp only [Act.put, List.setIfInBounds_toArray, List.set_cons_zero, List.set_cons_succ]
  refine wpAnyT_one (i := 6) (by kernel_rfl) rfl (fun K hK => ?_)
  go_simp
  refine hK.out _ _ last_out ?_
  clear hK
  refine wpAnyT_done (by kernel_rfl) ?_ _
  have HE := Lib.hid (HG.out v w2 hv b2)
  clear HG hv b2
  go_wp2_with fail
  exact HE.out
set_option maxHeartbeats 2000000 in
theorem opStepOf_7 (o : Op) (w : World) (hk : o.k = 7) : Calls Tryd.prog 42 #[o.v] w (Stepped o w) := by
  have hb0 : Below w.heap.size w ((w.alloc (.cells #[.int .i64 o.k, .int .i64 o.a, .int .i64 o.b, .int .i64 o.c, .int .i64 o.d] 49)).alloc (.cells #[.nilFunc, .func (.func 68) #[] #[], .func (.func 69) #[] #[], .func (.func 70) #[] #[], .func (.func 71) #[] #[], .func (.func 72) #[] #[], .func (.func 73) #[] #[], .func (.func 74) #[] #[], .func (.func 75) #[] #[]] 89)) := ((Below.refl _ w).alloc (Nat.le_refl _) _).alloc (by simp) _
  have hO0 : OpAtB ((w.alloc (.cells #[.int .i64 o.k, .int .i64 o.a, .int .i64 o.b, .int .i64 o.c, .int .i64 o.d] 49)).alloc (.cells #[.nilFunc, .func (.func 68) #[] #[], .func (.func 69) #[] #[], .func (.func 70) #[] #[], .func (.func 71) #[] #[], .func (.func 72) #[] #[], .func (.func 73) #[] #[], .func (.func 74) #[] #[], .func (.func 75) #[] #[]] 89)) w.heap.size o := Box.alloc (Box.new w _ _) _
  have hM0 : Box ((w.alloc (.cells #[.int .i64 o.k, .int .i64 o.a, .int .i64 o.b, .int .i64 o.c, .int .i64 o.d] 49)).alloc (.cells #[.nilFunc, .func (.func 68) #[] #[], .func (.func 69) #[] #[], .func (.func 70) #[] #[], .func (.func 71) #[] #[], .func (.func 72) #[] #[], .func (.func 73) #[] #[], .func (.func 74) #[] #[], .func (.func 75) #[] #[]] 89)) (w.heap.size + 1) #[.nilFunc, .func (.func 68) #[] #[], .func (.func 69) #[] #[], .func (.func 70) #[] #[], .func (.func 71) #[] #[], .func (.func 72) #[] #[], .func (.func 73) #[] #[], .func (.func 74) #[] #[], .func (.func 75) #[] #[]] 89 := by
    have := Box.new (w.alloc (.cells #[.int .i64 o.k, .int .i64 o.a, .int .i64 o.b, .int .i64 o.c, .int .i64 o.d] 49)) #[.nilFunc, .func (.func 68) #[] #[], .func (.func 69) #[] #[], .func (.func 70) #[] #[], .func (.func 71) #[] #[], .func (.func 72) #[] #[], .func (.func 73) #[] #[], .func (.func 74) #[] #[], .func (.func 75) #[] #[]] 89
    rw [show (w.alloc (.cells #[.int .i64 o.k, .int .i64 o.a, .int .i64 o.b, .int .i64 o.c, .int .i64 o.d] 49)).heap.size = w.heap.size + 1 from by simp] at this
    exact this
  have CS := Lib.hid (sizeStep_made o ((w.alloc (.cells #[.int .i64 o.k, .int .i64 o.a, .int .i64 o.b, .int .i64 o.c, .int .i64 o.d] 49)).alloc (.cells #[.nilFunc, .func (.func 68) #[] #[], .func (.func 69) #[] #[], .func (.func 70) #[] #[], .func (.func 71) #[] #[], .func (.func 72) #[] #[], .func (.func 73) #[] #[], .func (.func 74) #[] #[], .func (.func 75) #[] #[]] 89)).drew hk)
  have HG : Hid (∀ v w2, StepV w2 o v → Below ((w.alloc (.cells #[.int .i64 o.k, .int .i64 o.a, .int .i64 o.b, .int .i64 o.c, .int .i64 o.d] 49)).alloc (.cells #[.nilFunc, .func (.func 68) #[] #[], .func (.func 69) #[] #[], .func (.func 70) #[] #[], .func (.func 71) #[] #[], .func (.func 72) #[] #[], .func (.func 73) #[] #[], .func (.func 74) #[] #[], .func (.func 75) #[] #[]] 89)).drew.heap.size ((w.alloc (.cells #[.int .i64 o.k, .int .i64 o.a, .int .i64 o.b, .int .i64 o.c, .int .i64 o.d] 49)).alloc (.cells #[.nilFunc, .func (.func 68) #[] #[], .func (.func 69) #[] #[], .func (.func 70) #[] #[], .func (.func 71) #[] #[], .func (.func 72) #[] #[], .func (.func 73) #[] #[], .func (.func 74) #[] #[], .func (.func 75) #[] #[]] 89)).drew w2 → Stepped o w (.returned v) w2) := Lib.hid fun v w2 hv hb => ⟨v, rfl, hv, (below_draws hb0 1).trans (hb.mono (below_draws hb0 1).size)⟩
  generalize hD : Stepped o w = D at *
  clear hD
  unfold Stepped at CS
  unfold Op.v at CS ⊢
  rw [hk] at CS ⊢
  rw [hk] at hb0 hO0 hM0 HG
  unfold OpAtB at hO0
  rw [hk] at hO0
  have HSb : Hid (∀ w', Below ((w.alloc (.cells #[.int .i64 7, .int .i64 o.a, .int .i64 o.b, .int .i64 o.c, .int .i64 o.d] 49)).alloc (.cells #[.nilFunc, .func (.func 68) #[] #[], .func (.func 69) #[] #[], .func (.func 70) #[] #[], .func (.func 71) #[] #[], .func (.func 72) #[] #[], .func (.func 73) #[] #[], .func (.func 74) #[] #[], .func (.func 75) #[] #[]] 89)).drew.heap.size ((w.alloc (.cells #[.int .i64 7, .int .i64 o.a, .int .i64 o.b, .int .i64 o.c, .int .i64 o.d] 49)).alloc (.cells #[.nilFunc, .func (.func 68) #[] #[], .func (.func 69) #[] #[], .func (.func 70) #[] #[], .func (.func 71) #[] #[], .func (.func 72) #[] #[], .func (.func 73) #[] #[], .func (.func 74) #[] #[], .func (.func 75) #[] #[]] 89)).drew w' → (w'.cell? ⟨w.heap.size, 0, none⟩ = some (.int .i64 7) ∧ w'.cell? ⟨w.heap.size, 1, none⟩ = some (.int .i64 o.a) ∧ w'.cell? ⟨w.heap.size, 2, none⟩ = some (.int .i64 o.b) ∧ w'.cell? ⟨w.heap.size, 3, none⟩ = some (.int .i64 o.c) ∧ w'.cell? ⟨w.heap.size, 4, none⟩ = some (.int .i64 o.d)) ∧ w'.cell? ⟨w.heap.size + 1, 7, none⟩ = some (.func (.func 74) #[] #[])) := Lib.hid fun w' hb =>
    have k1 := Box.below (Box.drew hO0) hb hO0.lt
    have k2 := Box.below (Box.drew hM0) hb hM0.lt
    ⟨⟨k1.cell rfl, k1.cell rfl, k1.cell rfl, k1.cell rfl, k1.cell rfl⟩, k2.cell rfl⟩
  have HS0 := Lib.hid (HSb.out _ (Below.refl _ _))
  clear hb0 hO0 hM0 hk
  go_enter Tryd.func42, Tryd.ntmps42
  go_wp2_with fail
  generalize ((w.alloc (.cells #[.int .i64 7, .int .i64 o.a, .int .i64 o.b, .int .i64 o.c, .int .i64 o.d] 49)).alloc (.cells #[.nilFunc, .func (.func 68) #[] #[], .func (.func 69) #[] #[], .func (.func 70) #[] #[], .func (.func 71) #[] #[], .func (.func 72) #[] #[], .func (.func 73) #[] #[], .func (.func 74) #[] #[], .func (.func 75) #[] #[]] 89)) = w0 at *
  refine wp_region_T (fun w' => (w'.cell? ⟨w.heap.size, 0, none⟩ = some (.int .i64 7) ∧ w'.cell? ⟨w.heap.size, 1, none⟩ = some (.int .i64 o.a) ∧ w'.cell? ⟨w.heap.size, 2, none⟩ = some (.int .i64 o.b) ∧ w'.cell? ⟨w.heap.size, 3, none⟩ = some (.int .i64 o.c) ∧ w'.cell? ⟨w.heap.size, 4, none⟩ = some (.int .i64 o.d)) ∧ w'.cell? ⟨w.heap.size + 1, 7, none⟩ = some (.func (.func 74) #[] #[])) 6 (by kernel_rfl) ?_
  refine wpAnyT_take (i := 0) (d := 5) (v := .pointer (some ⟨w.heap.size, 0, none⟩)) rfl rfl (by kernel_rfl) (by kernel_rfl) (by kernel_rfl) (by kernel_rfl) (by kernel_rfl) (fun _ _ _ h => h) HS0.out (Or.inl ⟨by rfl, fun w' hS' => ?_⟩) ?_
  · obtain ⟨⟨s0, s1, s2, s3, s4⟩, s5⟩ := hS'
    go_simp
  simp only [Act.put, List.setIfInBounds_toArray, List.set_cons_zero, List.set_cons_succ]
  refine wpAnyT_take (i := 1) (d := 6) (v := .int .i64 7) rfl rfl (by kernel_rfl) (by kernel_rfl) (by kernel_rfl) (by kernel_rfl) (by kernel_rfl) (fun _ _ _ h => h) HS0.out (Or.inl ⟨by rfl, fun w' hS' => ?_⟩) ?_
  · obtain ⟨⟨s0, s1, s2, s3, s4⟩, s5⟩ := hS'
    go_simp
  simp only [Act.put, List.setIfInBounds_toArray, List.set_cons_zero, List.set_cons_succ]
  refine wpAnyT_take (i := 2) (d := 7) (v := .pointer (some ⟨w.heap.size + 1, 7, none⟩)) rfl rfl (by kernel_rfl) (by kernel_rfl) (by kernel_rfl) (by kernel_rfl) (by kernel_rfl) (fun _ _ _ h => h) HS0.out (Or.inl ⟨by rfl, fun w' hS' => ?_⟩) ?_
  · obtain ⟨⟨s0, s1, s2, s3, s4⟩, s5⟩ := hS'
    go_simp
  simp only [Act.put, List.setIfInBounds_toArray, List.set_cons_zero, List.set_cons_succ]
  refine wpAnyT_take (i := 3) (d := 8) (v := .func (.func 74) #[] #[]) rfl rfl (by kernel_rfl) (by kernel_rfl) (by kernel_rfl) (by kernel_rfl) (by kernel_rfl) (fun _ _ _ h => h) HS0.out (Or.inl ⟨by rfl, fun w' hS' => ?_⟩) ?_
  · obtain ⟨⟨s0, s1, s2, s3, s4⟩, s5⟩ := hS'
    go_simp
  simp only [Act.put, List.setIfInBounds_toArray, List.set_cons_zero, List.set_cons_succ]
  refine wpAnyT_take (i := 4) (d := 9) (v := .agg #[.int .i64 7, .int .i64 o.a, .int .i64 o.b, .int .i64 o.c, .int .i64 o.d]) rfl rfl (by kernel_rfl) (by kernel_rfl) (by kernel_rfl) (by kernel_rfl) (by kernel_rfl) (fun _ _ _ h => h) HS0.out (Or.inl ⟨by rfl, fun w' hS' => ?_⟩) ?_
  · obtain ⟨⟨s0, s1, s2, s3, s4⟩, s5⟩ := hS'
    go_simp
  simp only [Act.put, List.setIfInBounds_toArray, List.set_cons_zero, List.set_cons_succ]
  refine wpAnyT_one (i := 5) (by kernel_rfl) rfl (fun K hK => ?_)
  go_simp
  refine CS.out.mono ?_
  rintro e w2 ⟨v, rfl, hv, b2⟩
  refine hK.out _ _ (fun _ => HSb.out _ b2) ?_
  clear hK
  try simp only [Act.put, List.setIfInBounds_toArray, List.set_cons_zero, List.set_cons_succ]
  refine wpAnyT_one (i := 6) (by kernel_rfl) rfl (fun K hK => ?_)
  go_simp
  refine hK.out _ _ last_out ?_
  clear hK
  refine wpAnyT_done (by kernel_rfl) ?_ _
  have HE := Lib.hid (HG.out v w2 hv b2)
  clear HG hv b2
  go_wp2_with fail
  exact HE.out
set_option maxHeartbeats 2000000 in
theorem opStepOf_8 (o : Op) (w : World) (hk : o.k = 8) : Calls Tryd.prog 42 #[o.v] w (Stepped o w) := by
  have hb0 : Below w.heap.size w ((w.alloc (.cells #[.int .i64 o.k, .int .i64 o.a, .int .i64 o.b, .int .i64 o.c, .int .i64 o.d] 49)).alloc (.cells #[.nilFunc, .func (.func 68) #[] #[], .func (.func 69) #[] #[], .func (.func 70) #[] #[], .func (.func 71) #[] #[], .func (.func 72) #[] #[], .func (.func 73) #[] #[], .func (.func 74) #[] #[], .func (.func 75) #[] #[]] 89)) := ((Below.refl _ w).alloc (Nat.le_refl _) _).alloc (by simp) _
  have hO0 : OpAtB ((w.alloc (.cells #[.int .i64 o.k, .int .i64 o.a, .int .i64 o.b, .int .i64 o.c, .int .i64 o.d] 49)).alloc (.cells #[.nilFunc, .func (.func 68) #[] #[], .func (.func 69) #[] #[], .func (.func 70) #[] #[], .func (.func 71) #[] #[], .func (.func 72) #[] #[], .func (.func 73) #[] #[], .func (.func 74) #[] #[], .func (.func 75) #[] #[]] 89)) w.heap.size o := Box.alloc (Box.new w _ _) _
  have hM0 : Box ((w.alloc (.cells #[.int .i64 o.k, .int .i64 o.a, .int .i64 o.b, .int .i64 o.c, .int .i64 o.d] 49)).alloc (.cells #[.nilFunc, .func (.func 68) #[] #[], .func (.func 69) #[] #[], .func (.func 70) #[] #[], .func (.func 71) #[] #[], .func (.func 72) #[] #[], .func (.func 73) #[] #[], .func (.func 74) #[] #[], .func (.func 75) #[] #[]] 89)) (w.heap.size + 1) #[.nilFunc, .func (.func 68) #[] #[], .func (.func 69) #[] #[], .func (.func 70) #[] #[], .func (.func 71) #[] #[], .func (.func 72) #[] #[], .func (.func 73) #[] #[], .func (.func 74) #[] #[], .func (.func 75) #[] #[]] 89 := by
    have := Box.new (w.alloc (.cells #[.int .i64 o.k, .int .i64 o.a, .int .i64 o.b, .int .i64 o.c, .int .i64 o.d] 49)) #[.nilFunc, .func (.func 68) #[] #[], .func (.func 69) #[] #[], .func (.func 70) #[] #[], .func (.func 71) #[] #[], .func (.func 72) #[] #[], .func (.func 73) #[] #[], .func (.func 74) #[] #[], .func (.func 75) #[] #[]] 89
    rw [show (w.alloc (.cells #[.int .i64 o.k, .int .i64 o.a, .int .i64 o.b, .int .i64 o.c, .int .i64 o.d] 49)).heap.size = w.heap.size + 1 from by simp] at this
    exact this
  have CS := Lib.hid (flatStep_made o ((w.alloc (.cells #[.int .i64 o.k, .int .i64 o.a, .int .i64 o.b, .int .i64 o.c, .int .i64 o.d] 49)).alloc (.cells #[.nilFunc, .func (.func 68) #[] #[], .func (.func 69) #[] #[], .func (.func 70) #[] #[], .func (.func 71) #[] #[], .func (.func 72) #[] #[], .func (.func 73) #[] #[], .func (.func 74) #[] #[], .func (.func 75) #[] #[]] 89)).drew hk)
  have HG : Hid (∀ v w2, StepV w2 o v → Below ((w.alloc (.cells #[.int .i64 o.k, .int .i64 o.a, .int .i64 o.b, .int .i64 o.c, .int .i64 o.d] 49)).alloc (.cells #[.nilFunc, .func (.func 68) #[] #[], .func (.func 69) #[] #[], .func (.func 70) #[] #[], .func (.func 71) #[] #[], .func (.func 72) #[] #[], .func (.func 73) #[] #[], .func (.func 74) #[] #[], .func (.func 75) #[] #[]] 89)).drew.heap.size ((w.alloc (.cells #[.int .i64 o.k, .int .i64 o.a, .int .i64 o.b, .int .i64 o.c, .int .i64 o.d] 49)).alloc (.cells #[.nilFunc, .func (.func 68) #[] #[], .func (.func 69) #[] #[], .func (.func 70) #[] #[], .func (.func 71) #[] #[], .func (.func 72) #[] #[], .func (.func 73) #[] #[], .func (.func 74) #[] #[], .func (.func 75) #[] #[]] 89)).drew w2 → Stepped o w (.returned v) w2) := Lib.hid fun v w2 hv hb => ⟨v, rfl, hv, (below_draws hb0 1).trans (hb.mono (below_draws hb0 1).size)⟩
  generalize hD : Stepped o w = D at *
  clear hD
  unfold Stepped at CS
  unfold Op.v at CS ⊢
  rw [hk] at CS ⊢
  rw [hk] at hb0 hO0 hM0 HG
  unfold OpAtB at hO0
  rw [hk] at hO0
  have HSb : Hid (∀ w', Below ((w.alloc (.cells #[.int .i64 8, .int .i64 o.a, .int .i64 o.b, .int .i64 o.c, .int .i64 o.d] 49)).alloc (.cells #[.nilFunc, .func (.func 68) #[] #[], .func (.func 69) #[] #[], .func (.func 70) #[] #[], .func (.func 71) #[] #[], .func (.func 72) #[] #[], .func (.func 73) #[] #[], .func (.func 74) #[] #[], .func (.func 75) #[] #[]] 89)).drew.heap.size ((w.alloc (.cells #[.int .i64 8, .int .i64 o.a, .int .i64 o.b, .int .i64 o.c, .int .i64 o.d] 49)).alloc (.cells #[.nilFunc, .func (.func 68) #[] #[], .func (.func 69) #[] #[], .func (.func 70) #[] #[], .func (.func 71) #[] #[], .func (.func 72) #[] #[], .func (.func 73) #[] #[], .func (.func 74) #[] #[], .func (.func 75) #[] #[]] 89)).drew w' → (w'.cell? ⟨w.heap.size, 0, none⟩ = some (.int .i64 8) ∧ w'.cell? ⟨w.heap.size, 1, none⟩ = some (.int .i64 o.a) ∧ w'.cell? ⟨w.heap.size, 2, none⟩ = some (.int .i64 o.b) ∧ w'.cell? ⟨w.heap.size, 3, none⟩ = some (.int .i64 o.c) ∧ w'.cell? ⟨w.heap.size, 4, none⟩ = some (.int .i64 o.d)) ∧ w'.cell? ⟨w.heap.size + 1, 8, none⟩ = some (.func (.func 75) #[] #[])) := Lib.hid fun w' hb =>
    have k1 := Box.below (Box.drew hO0) hb hO0.lt
    have k2 := Box.below (Box.drew hM0) hb hM0.lt
    ⟨⟨k1.cell rfl, k1.cell rfl, k1.cell rfl, k1.cell rfl, k1.cell rfl⟩, k2.cell rfl⟩
  have HS0 := Lib.hid (HSb.out _ (Below.refl _ _))
  clear hb0 hO0 hM0 hk
  go_enter Tryd.func42, Tryd.ntmps42
  go_wp2_with fail
  generalize ((w.alloc (.cells #[.int .i64 8, .int .i64 o.a, .int .i64 o.b, .int .i64 o.c, .int .i64 o.d] 49)).alloc (.cells #[.nilFunc, .func (.func 68) #[] #[], .func (.func 69) #[] #[], .func (.func 70) #[] #[], .func (.func 71) #[] #[], .func (.func 72) #[] #[], .func (.func 73) #[] #[], .func (.func 74) #[] #[], .func (.func 75) #[] #[]] 89)) = w0 at *
  refine wp_region_T (fun w' => (w'.cell? ⟨w.heap.size, 0, none⟩ = some (.int .i64 8) ∧ w'.cell? ⟨w.heap.size, 1, none⟩ = some (.int .i64 o.a) ∧ w'.cell? ⟨w.heap.size, 2, none⟩ = some (.int .i64 o.b) ∧ w'.cell? ⟨w.heap.size, 3, none⟩ = some (.int .i64 o.c) ∧ w'.cell? ⟨w.heap.size, 4, none⟩ = some (.int .i64 o.d)) ∧ w'.cell? ⟨w.heap.size + 1, 8, none⟩ = some (.func (.func 75) #[] #[])) 6 (by kernel_rfl) ?_
  refine wpAnyT_take (i := 0) (d := 5) (v := .pointer (some ⟨w.heap.size, 0, none⟩)) rfl rfl (by kernel_rfl) (by kernel_rfl) (by kernel_rfl) (by kernel_rfl) (by kernel_rfl) (fun _ _ _ h => h) HS0.out (Or.inl ⟨by rfl, fun w' hS' => ?_⟩) ?_
  · obtain ⟨⟨s0, s1, s2, s3, s4⟩, s5⟩ := hS'
    go_simp
  simp only [Act.put, List.setIfInBounds_toArray, List.set_cons_zero, List.set_cons_succ]
  refine wpAnyT_take (i := 1) (d := 6) (v := .int .i64 8) rfl rfl (by kernel_rfl) (by kernel_rfl) (by kernel_rfl) (by kernel_rfl) (by kernel_rfl) (fun _ _ _ h => h) HS0.out (Or.inl ⟨by rfl, fun w' hS' => ?_⟩) ?_
  · obtain ⟨⟨s0, s1, s2, s3, s4⟩, s5⟩ := hS'
    go_simp
  simp only [Act.put, List.setIfInBounds_toArray, List.set_cons_zero, List.set_cons_succ]
  refine wpAnyT_take (i := 2) (d := 7) (v := .pointer (some ⟨w.heap.size + 1, 8, none⟩)) rfl rfl (by kernel_rfl) (by kernel_rfl) (by kernel_rfl) (by kernel_rfl) (by kernel_rfl) (fun _ _ _ h => h) HS0.out (Or.inl ⟨by rfl, fun w' hS' => ?_⟩) ?_
  · obtain ⟨⟨s0, s1, s2, s3, s4⟩, s5⟩ := hS'
    go_simp
  simp only [Act.put, List.setIfInBounds_toArray, List.set_cons_zero, List.set_cons_succ]
  refine wpAnyT_take (i := 3) (d := 8) (v := .func (.func 75) #[] #[]) rfl rfl (by kernel_rfl) (by kernel_rfl) (by kernel_rfl) (by kernel_rfl) (by kernel_rfl) (fun _ _ _ h => h) HS0.out (Or.inl ⟨by rfl, fun w' hS' => ?_⟩) ?_
  · obtain ⟨⟨s0, s1, s2, s3, s4⟩, s5⟩ := hS'
    go_simp
  simp only [Act.put, List.setIfInBounds_toArray, List.set_cons_zero, List.set_cons_succ]
  refine wpAnyT_take (i := 4) (d := 9) (v := .agg #[.int .i64 8, .int .i64 o.a, .int .i64 o.b, .int .i64 o.c, .int .i64 o.d]) rfl rfl (by kernel_rfl) (by kernel_rfl) (by kernel_rfl) (by kernel_rfl) (by kernel_rfl) (fun _ _ _ h => h) HS0.out (Or.inl ⟨by rfl, fun w' hS' => ?_⟩) ?_
  · obtain ⟨⟨s0, s1, s2, s3, s4⟩, s5⟩ := hS'
    go_simp
  simp only [Act.put, List.setIfInBounds_toArray, List.set_cons_zero, List.set_cons_succ]
  refine wpAnyT_one (i := 5) (by kernel_rfl) rfl (fun K hK => ?_)
  go_simp
  refine CS.out.mono ?_
  rintro e w2 ⟨v, rfl, hv, b2⟩
  refine hK.out _ _ (fun _ => HSb.out _ b2) ?_
  clear hK
  try simp only [Act.put, List.setIfInBounds_toArray, List.set_cons_zero, List.set_cons_succ]
  refine wpAnyT_one (i := 6) (by kernel_rfl) rfl (fun K hK => ?_)
  go_simp
  refine hK.out _ _ last_out ?_
  clear hK
  refine wpAnyT_done (by kernel_rfl) ?_ _
  have HE := Lib.hid (HG.out v w2 hv b2)
  clear HG hv b2
  go_wp2_with fail
  exact HE.out
theorem opB_kind {o : Op} (ho : opB o = true) : o.k = 1 ∨ o.k = 2 ∨ o.k = 3 ∨ o.k = 4 ∨ o.k = 5 ∨ o.k = 6 ∨ o.k = 7 ∨ o.k = 8 := by
  by_cases h1 : o.k = 1
  · exact .inl h1
  by_cases h7 : o.k = 7
  · omega
  by_cases h8 : o.k = 8
  · omega
  unfold opB inR at ho
  rw [if_neg h1, if_neg h7, if_neg h8] at ho
  simp only [Bool.and_eq_true, decide_eq_true_eq] at ho
  omega
theorem opStepOf_any (o : Op) (w : World) (ho : opB o = true) : Calls Tryd.prog 42 #[o.v] w (Stepped o w) := by
  rcases opB_kind ho with h | h | h | h | h | h | h | h
  · exact opStepOf_1 o w h
  · exact opStepOf_2 o w h
  · exact opStepOf_3 o w h
  · exact opStepOf_4 o w h
  · exact opStepOf_5 o w h
  · exact opStepOf_6 o w h
  · exact opStepOf_7 o w h
  · exact opStepOf_8 o w h
end Go.Proofs.YtiemlakjallphabDoor
namespace Go.Proofs.YtiemlakjallphabDoor
set_option maxRecDepth 4000
open Go.RowKit

/-- A closure that does an operation answers what that leaves. -/
theorem step_calls (r : Ra) (A : Option Addr) (c : Nat) (o : Op) (v : Value) (w : World) (hr : r.ok) (hc : r.p.length ≤ c) (h : HasP w w.heap.size A r.p) (ho : opB o = true) (hv : StepV w o v) :
    ∃ F caps, v = .func (.func F) #[] caps ∧ (∀ args u, (callFunc F args).run Tryd.prog u = .ok (.enter F args) u) ∧ Calls Tryd.prog F (#[raV r A c] ++ caps) w (Did (doR r o) w) := by
  rcases hv with ⟨k, g, rfl, hO⟩ | ⟨k, rfl⟩ | ⟨k, rfl⟩ | ⟨k, rfl⟩ | ⟨k, g, rfl, hC⟩ | ⟨k, rfl⟩ | ⟨k, g, rfl, hO⟩ | ⟨k, g, g', rfl, hC, hO⟩
  · have hb := opB_1 k ho
    have hw := hr.parts.1
    have hh := hr.parts.2.1
    refine ⟨_, _, rfl, run_enter Tryd.func88 (by kernel_rfl) rfl, ?_⟩
    have e1 : o.a = (o.a.toNat : Int) := by omega
    have e2 : o.b = (o.b.toNat : Int) := by omega
    have e3 : o.c = (o.c.toNat : Int) := by omega
    have e4 : o.d = (o.d.toNat : Int) := by omega
    by_cases hin : o.a + o.c > r.w ∨ o.b + o.d > r.h
    · have hd : doR r o = none := by unfold doR; rw [if_pos k, if_pos hin]
      rw [hd]
      exact cropStep_bad r A c o o.a.toNat o.b.toNat o.c.toNat o.d.toNat g w hr hO e1 e2 e3 e4 (by omega) (by omega)
    · have hd : doR r o = some (cropR r o.a.toNat o.b.toNat o.c.toNat o.d.toNat) := by unfold doR; rw [if_pos k, if_neg hin]
      rw [hd]
      exact cropStep_good r A c o o.a.toNat o.b.toNat o.c.toNat o.d.toNat g w hr hc h hO e1 e2 e3 e4 (by omega) (by omega) (by omega) (by omega)
  · refine ⟨_, _, rfl, run_enter Tryd.func92 (by kernel_rfl) rfl, ?_⟩
    rw [doR_2 r k]
    exact flipXStep_any r A c w hr hc h
  · refine ⟨_, _, rfl, run_enter Tryd.func94 (by kernel_rfl) rfl, ?_⟩
    rw [doR_3 r k]
    exact flipYStep_any r A c w hr hc h
  · refine ⟨_, _, rfl, run_enter Tryd.func96 (by kernel_rfl) rfl, ?_⟩
    rw [doR_4 r k]
    exact turnStep_any r A c w hr hc h
  · refine ⟨_, _, rfl, run_enter Tryd.func113 (by kernel_rfl) rfl, ?_⟩
    rw [doR_5 r k]
    exact pixelStep_any r A c 99 #[] grayP g w hr hc h hC (run_enter Tryd.func99 (by kernel_rfl) rfl) fun p u hp _ => grayOne_any p u hp
  · refine ⟨_, _, rfl, run_enter Tryd.func100 (by kernel_rfl) rfl, ?_⟩
    rw [doR_6 r k]
    exact blurStep_any r A c w hr hc h
  · have hb := opB_7 k ho
    refine ⟨_, _, rfl, run_enter Tryd.func103 (by kernel_rfl) rfl, ?_⟩
    rw [doR_7 r k]
    exact sizeStep_any r A c o o.a.toNat o.b.toNat g w hr hc h hO (by omega) (by omega) (by omega) (by omega)
  · have hb := opB_8 k ho
    refine ⟨_, _, rfl, run_enter Tryd.func113 (by kernel_rfl) rfl, ?_⟩
    rw [doR_8 r k]
    exact pixelStep_any r A c 105 #[.pointer (some ⟨g', 0, none⟩)] (flatP1 o) g w hr hc h hC (run_enter Tryd.func105 (by kernel_rfl) rfl) fun p u hp hu => flatOne_any p o g' u hp hb.1 hb.2.1 hb.2.2 (Box.next hO hu)
end Go.Proofs.YtiemlakjallphabDoor
