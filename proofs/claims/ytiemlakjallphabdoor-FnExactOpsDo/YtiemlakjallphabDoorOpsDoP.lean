/-
  What OpsDo of both does on its way: a copy of the raster, and one operation. Conditions as they stand.
-/
import Derived.Test.YtiemlakjallphabDoorLaidT
import Derived.Test.YtiemlakjallphabDoorRefB
import Derived.Test.YtiemlakjallphabDoorStepW
import Derived.Test.YtiemlakjallphabDoorPushP
namespace Go.Proofs.YtiemlakjallphabDoor
set_option maxRecDepth 4000
open Go.RowKit

set_option maxHeartbeats 1000000 in
theorem clonePx_any (b0 o0 c : Nat) (l : List Px) (w : World) (hl : l.length ≤ 36) (h : HasP w w.heap.size (some ⟨b0, o0, none⟩) l) :
    Calls Tryd.prog 41 #[.slice (some ⟨b0, o0, none⟩) l.length c] w fun e w' => ∃ A0 c0, e = .returned (.slice A0 l.length c0) ∧ l.length ≤ c0 ∧ OwnP w' w.heap.size (.slice A0 l.length c0) l ∧ Below w.heap.size w w' := by
  have ho : OwnP (w.alloc (.cells #[] 62)) w.heap.size (.slice (some ⟨w.heap.size, 0, none⟩) 0 0) [] := ownP_empty (Nat.le_refl _)
  have hb : Below w.heap.size w (w.alloc (.cells #[] 62)) := (Below.refl _ w).alloc (Nat.le_refl _) _
  have HO := Lib.hid ho
  have HB := Lib.hid hb
  have HH := Lib.hid (h.below hb)
  have HL := Lib.hid hl
  have hnil : ∀ u, (binOp .eql 28 (.slice (some ⟨b0, o0, none⟩) l.length c) (.slice none 0 0)).run Tryd.prog u = .ok (.bool false) u := fun u => rfl
  clear ho hb h hl
  go_enter Tryd.func41, Tryd.ntmps41
  go_wp2_with (at_builtin; refine wpList_pushAllP rfl (.tmp 5) (.tmp 6) rfl w.heap.size (.slice (some ⟨w.heap.size, 0, none⟩) 0 0) [] rfl HO.out w.heap.size (some ⟨b0, o0, none⟩) c l rfl HH.out (by have := HL.out; simp; omega) HB.out.size ?_; intro v1 w1 hown hgr)
  obtain ⟨A0, c0, e0, hc0, -⟩ := hown.has
  rw [List.nil_append] at e0 hc0 hown
  subst e0
  have b1 := HB.out.grown hgr HB.out.size (fun q e => (World.ownsRow.lt HO.out q e).1)
  have HE := Lib.hid (And.intro hc0 (And.intro hown b1))
  clear hown hgr hc0 b1
  go_wp2_with fail
  go_ret
  exact ⟨A0, c0, rfl, HE.out.1, HE.out.2.1, HE.out.2.2⟩
set_option maxHeartbeats 8000000 in
set_option maxRecDepth 10000 in
theorem opsDoI_r3 {Q : Exit → Act → World → Prop} {x0 x1 x3 x4 x5 z6 x7 x8 x9 x10 x11 x12 x13 x14 x15 x16 x17 x18 x19 z20 z21 z22 z23 z24 z25 z26 z27 x28 x29 x30 x31 x32 x33 x34 x35 x36 x37 x38 x39 x40 x41 x42 x43 x44 x45 x46 : Value} {w : World} (gR : Nat) (s : Ra) (bl dl c : Nat) (hX : RasAtB w gR s.w s.h (some ⟨bl, dl, none⟩) s.p.length c 30) (hh : HasP w w.heap.size (some ⟨bl, dl, none⟩) s.p) (hl : s.p.length ≤ 36)
    (hQ : ∀ (c : List PanicEntry) (a : Act) (k : Nat) (v : Value) (u : World), Q (.panic c) (a.put (some k) v) u → Q (.panic c) a u) (hq : Hid (∀ (g : Nat) (A0 : Option Addr) (c0 : Nat) (y20 y21 y22 y23 y24 y25 y26 y27 : Value) (w' : World), Laid w s g A0 c0 w' → Q .normal { tmps := #[x0, x1, .pointer (some ⟨gR, 0, none⟩), x3, x4, x5, .pointer (some ⟨g, 0, none⟩), x7, x8, x9, x10, x11, x12, x13, x14, x15, x16, x17, x18, x19, y20, y21, y22, y23, y24, y25, y26, y27, x28, x29, x30, x31, x32, x33, x34, x35, x36, x37, x38, x39, x40, x41, x42, x43, x44, x45, x46], defers := [] } w')) :
    (Code.region 3 #[{ dst := some 20, op := Go.Op.fieldAddr 30 (Go.Operand.tmp 2) 0, type := 0, pos := "l6_ops.go:267", after := #[], guard := none }, { dst := some 21, op := Go.Op.load 3 (Go.Operand.tmp 20), type := 3, pos := "l6_ops.go:267", after := #[{ on := 0, ground := Go.Ground.data }], guard := none }, { dst := some 22, op := Go.Op.fieldAddr 30 (Go.Operand.tmp 2) 1, type := 0, pos := "l6_ops.go:267", after := #[], guard := none }, { dst := some 23, op := Go.Op.load 3 (Go.Operand.tmp 22), type := 3, pos := "l6_ops.go:267", after := #[{ on := 2, ground := Go.Ground.data }], guard := none }, { dst := some 24, op := Go.Op.fieldAddr 30 (Go.Operand.tmp 2) 2, type := 0, pos := "l6_ops.go:267", after := #[], guard := none }, { dst := some 25, op := Go.Op.load 28 (Go.Operand.tmp 24), type := 28, pos := "l6_ops.go:267", after := #[{ on := 4, ground := Go.Ground.data }], guard := none }, { dst := some 26, op := Go.Op.call { callee := Go.Callee.value (Go.Operand.func 41), args := #[Go.Operand.tmp 25], argTypes := #[28] }, type := 28, pos := "l6_ops.go:267", after := #[{ on := 5, ground := Go.Ground.data }], guard := none }, { dst := some 27, op := Go.Op.build 30 #[(0, Go.Operand.tmp 21), (1, Go.Operand.tmp 23), (2, Go.Operand.tmp 26)], type := 30, pos := "l6_ops.go:267", after := #[{ on := 1, ground := Go.Ground.data }, { on := 3, ground := Go.Ground.data }, { on := 6, ground := Go.Ground.data }], guard := none }, { dst := some 6, op := Go.Op.alloc 30, type := 0, pos := "l6_ops.go:267", after := #[], guard := none }, { dst := none, op := Go.Op.store 30 (Go.Operand.tmp 6) (Go.Operand.tmp 27), type := 0, pos := "l6_ops.go:267", after := #[{ on := 8, ground := Go.Ground.data }, { on := 7, ground := Go.Ground.data }, { on := 6, ground := Go.Ground.chain }, { on := 0, ground := Go.Ground.phase }, { on := 1, ground := Go.Ground.phase }, { on := 2, ground := Go.Ground.phase }, { on := 3, ground := Go.Ground.phase }, { on := 4, ground := Go.Ground.phase }, { on := 5, ground := Go.Ground.phase }, { on := 6, ground := Go.Ground.phase }, { on := 7, ground := Go.Ground.phase }, { on := 8, ground := Go.Ground.phase }], guard := none }] true).wp Tryd.prog Q { tmps := #[x0, x1, .pointer (some ⟨gR, 0, none⟩), x3, x4, x5, z6, x7, x8, x9, x10, x11, x12, x13, x14, x15, x16, x17, x18, x19, z20, z21, z22, z23, z24, z25, z26, z27, x28, x29, x30, x31, x32, x33, x34, x35, x36, x37, x38, x39, x40, x41, x42, x43, x44, x45, x46], defers := [] } w := by
  have CS := Lib.hid fun u hh => clonePx_any bl dl c s.p u hl hh
  have HX := Lib.hid hX
  have HH := Lib.hid hh
  clear hX hh hl
  refine wp_region_held_drew (S := fun v => Below w.heap.size w v) (by kernel_rfl) (below_draws (Below.refl _ _) 1) fun _ => ?_
  have HB0 : Hid (Below w.heap.size w w.drew) := Lib.hid (below_draws (Below.refl _ _) 1)
  generalize w.drew = u0 at *
  refine wpAnyH_takeD (i := 0) (d := 20) (v := .pointer (some ⟨gR, 0, none⟩)) rfl rfl (by kernel_rfl) (by kernel_rfl) (by kernel_rfl) (fun _ _ _ h => hQ _ _ _ _ _ h) HB0.out (Or.inl ⟨by rfl, fun w' hS' => ?_⟩) ?_
  · go_simp
  simp only [Act.put, List.setIfInBounds_toArray, List.set_cons_zero, List.set_cons_succ]
  refine wpAnyH_takeD (i := 1) (d := 21) (v := .int .i64 (s.w : Int)) rfl rfl (by kernel_rfl) (by kernel_rfl) (by kernel_rfl) (fun _ _ _ h => hQ _ _ _ _ _ h) HB0.out (Or.inl ⟨by rfl, fun w' hS' => ?_⟩) ?_
  · have t := Box.below HX.out hS' (Box.lt HX.out)
    have t0 := RasAtB.c0 t
    have t1 := RasAtB.c1 t
    have t2 := RasAtB.c2 t
    go_simp
  simp only [Act.put, List.setIfInBounds_toArray, List.set_cons_zero, List.set_cons_succ]
  refine wpAnyH_takeD (i := 2) (d := 22) (v := .pointer (some ⟨gR, 1, none⟩)) rfl rfl (by kernel_rfl) (by kernel_rfl) (by kernel_rfl) (fun _ _ _ h => hQ _ _ _ _ _ h) HB0.out (Or.inl ⟨by rfl, fun w' hS' => ?_⟩) ?_
  · go_simp
  simp only [Act.put, List.setIfInBounds_toArray, List.set_cons_zero, List.set_cons_succ]
  refine wpAnyH_takeD (i := 3) (d := 23) (v := .int .i64 (s.h : Int)) rfl rfl (by kernel_rfl) (by kernel_rfl) (by kernel_rfl) (fun _ _ _ h => hQ _ _ _ _ _ h) HB0.out (Or.inl ⟨by rfl, fun w' hS' => ?_⟩) ?_
  · have t := Box.below HX.out hS' (Box.lt HX.out)
    have t0 := RasAtB.c0 t
    have t1 := RasAtB.c1 t
    have t2 := RasAtB.c2 t
    go_simp
  simp only [Act.put, List.setIfInBounds_toArray, List.set_cons_zero, List.set_cons_succ]
  refine wpAnyH_takeD (i := 4) (d := 24) (v := .pointer (some ⟨gR, 2, none⟩)) rfl rfl (by kernel_rfl) (by kernel_rfl) (by kernel_rfl) (fun _ _ _ h => hQ _ _ _ _ _ h) HB0.out (Or.inl ⟨by rfl, fun w' hS' => ?_⟩) ?_
  · go_simp
  simp only [Act.put, List.setIfInBounds_toArray, List.set_cons_zero, List.set_cons_succ]
  refine wpAnyH_takeD (i := 5) (d := 25) (v := .slice (some ⟨bl, dl, none⟩) s.p.length c) rfl rfl (by kernel_rfl) (by kernel_rfl) (by kernel_rfl) (fun _ _ _ h => hQ _ _ _ _ _ h) HB0.out (Or.inl ⟨by rfl, fun w' hS' => ?_⟩) ?_
  · have t := Box.below HX.out hS' (Box.lt HX.out)
    have t0 := RasAtB.c0 t
    have t1 := RasAtB.c1 t
    have t2 := RasAtB.c2 t
    go_simp
  simp only [Act.put, List.setIfInBounds_toArray, List.set_cons_zero, List.set_cons_succ]
  refine wpAnyH_two (i := 6) (j := 8) (by kernel_rfl) rfl rfl (fun K hK => ?_) (fun K hK => ?_)
  · go_simp
    refine (CS.out _ (HH.out.carry HB0.out (Nat.le_refl _) HB0.out.size)).mono ?_
    rintro e u1 ⟨A0, c0, rfl, hc0, ho0, b1⟩
    have HCC := Lib.hid hc0
    have HOW := Lib.hid ho0
    have HWL := Lib.hid HB0.out.size
    clear hc0 ho0
    have HB1 := Lib.hid (HB0.out.trans (b1.mono HB0.out.size))
    refine hK.out _ _ HB1.out ?_
    clear hK b1
    try simp only [Act.put, List.setIfInBounds_toArray, List.set_cons_zero, List.set_cons_succ]
    refine wpAnyH_takeD (i := 7) (d := 27) (v := (.agg #[.int .i64 (s.w : Int), .int .i64 (s.h : Int), .slice A0 s.p.length c0])) rfl rfl (by kernel_rfl) (by kernel_rfl) (by kernel_rfl) (fun _ _ _ h => hQ _ _ _ _ _ h) HB1.out (Or.inl ⟨by rfl, fun w' hS' => ?_⟩) ?_
    · go_simp
    simp only [Act.put, List.setIfInBounds_toArray, List.set_cons_zero, List.set_cons_succ]
    refine wpAnyH_one (i := 8) (by kernel_rfl) rfl (fun K hK => ?_)
    have HOWA := Lib.hid (HOW.out.alloc (.cells #[.int .i64 0, .int .i64 0, .slice none 0 0] 30))
    have HNE : Hid (∀ q, (Value.slice A0 s.p.length c0).ownBlock = some q → q ≠ u1.heap.size) := Lib.hid fun q e => by have := (World.ownsRow.lt HOW.out q e).2; omega
    go_simp
    have b2 : Below u1.heap.size u1 (u1.alloc (.cells #[.int .i64 0, .int .i64 0, .slice none 0 0] 30)) := (Below.refl _ _).alloc (Nat.le_refl _) _
    have HZ2 := Lib.hid (laid_zero u1)
    have HLO2 : Hid (u1.heap.size < (u1.alloc (.cells #[.int .i64 0, .int .i64 0, .slice none 0 0] 30)).heap.size) := Lib.hid (by simp)
    have HGA := Lib.hid HB1.out.size
    have HB2 := Lib.hid (HB1.out.trans (b2.mono HB1.out.size))
    refine hK.out _ _ HB2.out ?_
    clear hK b2
    try simp only [Act.put, List.setIfInBounds_toArray, List.set_cons_zero, List.set_cons_succ]
    generalize u1.alloc (.cells #[.int .i64 0, .int .i64 0, .slice none 0 0] 30) = u2 at *
    have z0 := RasAtB.c0 HZ2.out
    have z1 := RasAtB.c1 HZ2.out
    have z2 := RasAtB.c2 HZ2.out
    have f0 := RasAtB.free HZ2.out 0
    have f1 := RasAtB.free HZ2.out 1
    have f2 := RasAtB.free HZ2.out 2
    have HE := Lib.hid (laid_store (w := w) HZ2.out HCC.out (HOWA.out.lower HWL.out) HNE.out HGA.out HB2.out)
    refine wpAnyH_one (i := 9) (by kernel_rfl) rfl (fun K hK => ?_)
    go_simp
    refine hK.out _ _ HE.out.2.2.2.2.2 ?_
    clear hK z0 z1 z2 f0 f1 f2
    try simp only [Act.put, List.setIfInBounds_toArray, List.set_cons_zero, List.set_cons_succ]
    refine wpAnyH_done (by kernel_rfl) ?_ _
    exact hq.out _ _ _ _ _ _ _ _ _ _ _ _ HE.out
  · go_simp
    have b3 : Below u0.heap.size u0 (u0.alloc (.cells #[.int .i64 0, .int .i64 0, .slice none 0 0] 30)) := (Below.refl _ _).alloc (Nat.le_refl _) _
    have HZ3 := Lib.hid (laid_zero u0)
    have HLO3 : Hid (u0.heap.size < (u0.alloc (.cells #[.int .i64 0, .int .i64 0, .slice none 0 0] 30)).heap.size) := Lib.hid (by simp)
    have HGA := Lib.hid HB0.out.size
    have HB3 := Lib.hid (HB0.out.trans (b3.mono HB0.out.size))
    refine hK.out _ _ HB3.out ?_
    clear hK b3
    try simp only [Act.put, List.setIfInBounds_toArray, List.set_cons_zero, List.set_cons_succ]
    generalize u0.alloc (.cells #[.int .i64 0, .int .i64 0, .slice none 0 0] 30) = u3 at *
    refine wpAnyH_one (i := 6) (by kernel_rfl) rfl (fun K hK => ?_)
    go_simp
    refine (CS.out _ (HH.out.carry HB3.out (Nat.le_refl _) HB3.out.size)).mono ?_
    rintro e u4 ⟨A0, c0, rfl, hc0, ho0, b4⟩
    have HCC := Lib.hid hc0
    have HOW := Lib.hid ho0
    have HWL := Lib.hid HB3.out.size
    clear hc0 ho0
    have HLOB := HLO3
    have HB4 := Lib.hid (HB3.out.trans (b4.mono HB3.out.size))
    have HZ4 := Lib.hid (Box.below HZ3.out b4 (Box.lt HZ3.out))
    have HLO4 : Hid (u0.heap.size < u4.heap.size) := Lib.hid (Nat.lt_of_lt_of_le (Box.lt HZ3.out) b4.size)
    refine hK.out _ _ HB4.out ?_
    clear hK b4
    try simp only [Act.put, List.setIfInBounds_toArray, List.set_cons_zero, List.set_cons_succ]
    refine wpAnyH_takeD (i := 7) (d := 27) (v := (.agg #[.int .i64 (s.w : Int), .int .i64 (s.h : Int), .slice A0 s.p.length c0])) rfl rfl (by kernel_rfl) (by kernel_rfl) (by kernel_rfl) (fun _ _ _ h => hQ _ _ _ _ _ h) HB4.out (Or.inl ⟨by rfl, fun w' hS' => ?_⟩) ?_
    · go_simp
    simp only [Act.put, List.setIfInBounds_toArray, List.set_cons_zero, List.set_cons_succ]
    have HNE : Hid (∀ q, (Value.slice A0 s.p.length c0).ownBlock = some q → q ≠ u0.heap.size) := Lib.hid fun q e => by have := (World.ownsRow.lt HOW.out q e).1; have := HLOB.out; omega
    have z0 := RasAtB.c0 HZ4.out
    have z1 := RasAtB.c1 HZ4.out
    have z2 := RasAtB.c2 HZ4.out
    have f0 := RasAtB.free HZ4.out 0
    have f1 := RasAtB.free HZ4.out 1
    have f2 := RasAtB.free HZ4.out 2
    have HE := Lib.hid (laid_store (w := w) HZ4.out HCC.out (HOW.out.lower HWL.out) HNE.out HGA.out HB4.out)
    refine wpAnyH_one (i := 9) (by kernel_rfl) rfl (fun K hK => ?_)
    go_simp
    refine hK.out _ _ HE.out.2.2.2.2.2 ?_
    clear hK z0 z1 z2 f0 f1 f2
    try simp only [Act.put, List.setIfInBounds_toArray, List.set_cons_zero, List.set_cons_succ]
    refine wpAnyH_done (by kernel_rfl) ?_ _
    exact hq.out _ _ _ _ _ _ _ _ _ _ _ _ HE.out
set_option maxHeartbeats 8000000 in
set_option maxRecDepth 10000 in
theorem opsDoS_r7 {Q : Exit → Act → World → Prop} {x0 x2 x3 x4 x5 z8 z9 x10 x11 x12 x13 x14 x15 x16 x17 x18 x19 x20 x21 x22 x23 x24 x25 x26 z27 z28 z29 z30 z31 z32 z33 z34 z35 x36 x37 x38 x39 x40 : Value} {w : World} (gX bl dl n lc k : Nat) (r : Ra) (A : Option Addr) (c : Nat) (o : Op) (d : Option Ra) (s : Ra) (b : Bool) (hX : RasAtB w gX r.w r.h A r.p.length c 30) (hh : HasP w w.heap.size A r.p) (hc : r.p.length ≤ c) (hr : r.ok) (ho : opB o = true) (hbl : bl < w.heap.size) (hL : w.cell? ⟨bl, dl + k * 5, none⟩ = some (.int .i64 o.k) ∧ w.cell? ⟨bl, dl + k * 5 + 1, none⟩ = some (.int .i64 o.a) ∧ w.cell? ⟨bl, dl + k * 5 + 2, none⟩ = some (.int .i64 o.b) ∧ w.cell? ⟨bl, dl + k * 5 + 3, none⟩ = some (.int .i64 o.c) ∧ w.cell? ⟨bl, dl + k * 5 + 4, none⟩ = some (.int .i64 o.d)) (hk : k < n) (hd : doR r o = d) (hs : d.getD ra0 = s) (hb : d.isSome = b)
    (hQ : ∀ (c : List PanicEntry) (a : Act) (k : Nat) (v : Value) (u : World), Q (.panic c) (a.put (some k) v) u → Q (.panic c) a u) (hq : Hid (∀ (g : Nat) (A0 : Option Addr) (c0 : Nat) (y27 y28 y29 y30 y31 y32 y33 y34 y35 : Value) (w' : World), Laid w s g A0 c0 w' → Q .normal { tmps := #[x0, .slice (some ⟨bl, dl, none⟩) n lc, x2, x3, x4, x5, .pointer (some ⟨gX, 0, none⟩), .int .i64 (k : Int), .pointer (some ⟨g, 0, none⟩), .bool b, x10, x11, x12, x13, x14, x15, x16, x17, x18, x19, x20, x21, x22, x23, x24, x25, x26, y27, y28, y29, y30, y31, y32, y33, y34, y35, x36, x37, x38, x39, x40], defers := [] } w')) :
    (Code.region 7 #[{ dst := some 28, op := Go.Op.load 30 (Go.Operand.tmp 6), type := 30, pos := "l6_ops.go:149", after := #[], guard := none }, { dst := some 29, op := Go.Op.move (Go.Operand.tmp 1), type := 34, pos := "l6_ops.go:149", after := #[], guard := none }, { dst := some 30, op := Go.Op.move (Go.Operand.tmp 7), type := 3, pos := "l6_ops.go:149", after := #[], guard := none }, { dst := some 31, op := Go.Op.indexAddr 34 (Go.Operand.tmp 29) (Go.Operand.tmp 30), type := 0, pos := "l6_ops.go:149", after := #[{ on := 1, ground := Go.Ground.data }, { on := 2, ground := Go.Ground.data }], guard := none }, { dst := some 32, op := Go.Op.load 49 (Go.Operand.tmp 31), type := 49, pos := "l6_ops.go:149", after := #[{ on := 3, ground := Go.Ground.data }], guard := none }, { dst := some 33, op := Go.Op.call { callee := Go.Callee.value (Go.Operand.func 37), args := #[Go.Operand.tmp 28, Go.Operand.tmp 32], argTypes := #[30, 49] }, type := 31, pos := "l6_ops.go:149", after := #[{ on := 0, ground := Go.Ground.data }, { on := 4, ground := Go.Ground.data }], guard := none }, { dst := some 27, op := Go.Op.move (Go.Operand.tmp 33), type := 31, pos := "l6_ops.go:149", after := #[{ on := 5, ground := Go.Ground.data }], guard := none }, { dst := some 34, op := Go.Op.extract (Go.Operand.tmp 27) 0, type := 30, pos := "l6_ops.go:149", after := #[{ on := 6, ground := Go.Ground.data }], guard := none }, { dst := some 35, op := Go.Op.extract (Go.Operand.tmp 27) 1, type := 4, pos := "l6_ops.go:149", after := #[{ on := 6, ground := Go.Ground.data }, { on := 10, ground := Go.Ground.gcOnly Go.Departure.lateStores }], guard := none }, { dst := some 8, op := Go.Op.alloc 30, type := 0, pos := "l6_ops.go:149", after := #[], guard := none }, { dst := none, op := Go.Op.store 30 (Go.Operand.tmp 8) (Go.Operand.tmp 34), type := 0, pos := "l6_ops.go:149", after := #[{ on := 9, ground := Go.Ground.data }, { on := 7, ground := Go.Ground.data }, { on := 5, ground := Go.Ground.chain }, { on := 0, ground := Go.Ground.phase }, { on := 1, ground := Go.Ground.phase }, { on := 2, ground := Go.Ground.phase }, { on := 3, ground := Go.Ground.phase }, { on := 4, ground := Go.Ground.phase }, { on := 5, ground := Go.Ground.phase }, { on := 6, ground := Go.Ground.phase }, { on := 7, ground := Go.Ground.phase }, { on := 8, ground := Go.Ground.textOnly Go.Departure.lateStores }, { on := 9, ground := Go.Ground.phase }], guard := none }, { dst := some 9, op := Go.Op.assign (Go.Operand.tmp 35), type := 4, pos := "l6_ops.go:149", after := #[{ on := 8, ground := Go.Ground.data }, { on := 10, ground := Go.Ground.chain }, { on := 0, ground := Go.Ground.phase }, { on := 1, ground := Go.Ground.phase }, { on := 2, ground := Go.Ground.phase }, { on := 3, ground := Go.Ground.phase }, { on := 4, ground := Go.Ground.phase }, { on := 5, ground := Go.Ground.phase }, { on := 6, ground := Go.Ground.phase }, { on := 7, ground := Go.Ground.phase }, { on := 8, ground := Go.Ground.phase }, { on := 9, ground := Go.Ground.phase }, { on := 10, ground := Go.Ground.phase }], guard := none }] true).wp Tryd.prog Q { tmps := #[x0, .slice (some ⟨bl, dl, none⟩) n lc, x2, x3, x4, x5, .pointer (some ⟨gX, 0, none⟩), .int .i64 (k : Int), z8, z9, x10, x11, x12, x13, x14, x15, x16, x17, x18, x19, x20, x21, x22, x23, x24, x25, x26, z27, z28, z29, z30, z31, z32, z33, z34, z35, x36, x37, x38, x39, x40], defers := [] } w := by
  have CS : Hid (∀ u : World, HasP u u.heap.size A r.p → Calls Tryd.prog 37 #[.agg #[.int .i64 (r.w : Int), .int .i64 (r.h : Int), .slice A r.p.length c], .agg #[.int .i64 o.k, .int .i64 o.a, .int .i64 o.b, .int .i64 o.c, .int .i64 o.d]] u (fun e w' => ∃ A0 c0, e = .returned (.tuple #[.agg #[.int .i64 (s.w : Int), .int .i64 (s.h : Int), .slice A0 s.p.length c0], .bool b]) ∧ s.p.length ≤ c0 ∧ OwnP w' u.heap.size (.slice A0 s.p.length c0) s.p ∧ Below u.heap.size u w')) := Lib.hid fun u hh => by
    have := l6Do_any r A c o u hr ho hc hh
    rw [hd] at this
    unfold Did at this
    rw [hs, hb] at this
    exact this
  have HX := Lib.hid hX
  have HH := Lib.hid hh
  have HBL := Lib.hid hbl
  have HL := Lib.hid hL
  have hkI : (0 : Int) ≤ (k : Int) ∧ (k : Int) < (n : Int) := by omega
  clear hX hh hc hr ho hbl hL hd hs hb
  refine wp_region_held_drew (S := fun v => Below w.heap.size w v) (by kernel_rfl) (below_draws (Below.refl _ _) 1) fun _ => ?_
  have HB0 : Hid (Below w.heap.size w w.drew) := Lib.hid (below_draws (Below.refl _ _) 1)
  generalize w.drew = u0 at *
  refine wpAnyH_takeD (i := 0) (d := 28) (v := (.agg #[.int .i64 (r.w : Int), .int .i64 (r.h : Int), .slice A r.p.length c])) rfl rfl (by kernel_rfl) (by kernel_rfl) (by kernel_rfl) (fun _ _ _ h => hQ _ _ _ _ _ h) HB0.out (Or.inl ⟨by rfl, fun w' hS' => ?_⟩) ?_
  · have t := Box.below HX.out hS' (Box.lt HX.out)
    have t0 := RasAtB.c0 t
    have t1 := RasAtB.c1 t
    have t2 := RasAtB.c2 t
    go_simp
  simp only [Act.put, List.setIfInBounds_toArray, List.set_cons_zero, List.set_cons_succ]
  refine wpAnyH_takeD (i := 1) (d := 29) (v := .slice (some ⟨bl, dl, none⟩) n lc) rfl rfl (by kernel_rfl) (by kernel_rfl) (by kernel_rfl) (fun _ _ _ h => hQ _ _ _ _ _ h) HB0.out (Or.inl ⟨by rfl, fun w' hS' => ?_⟩) ?_
  · go_simp
  simp only [Act.put, List.setIfInBounds_toArray, List.set_cons_zero, List.set_cons_succ]
  refine wpAnyH_takeD (i := 2) (d := 30) (v := .int .i64 (k : Int)) rfl rfl (by kernel_rfl) (by kernel_rfl) (by kernel_rfl) (fun _ _ _ h => hQ _ _ _ _ _ h) HB0.out (Or.inl ⟨by rfl, fun w' hS' => ?_⟩) ?_
  · go_simp
  simp only [Act.put, List.setIfInBounds_toArray, List.set_cons_zero, List.set_cons_succ]
  refine wpAnyH_takeD (i := 3) (d := 31) (v := .pointer (some ⟨bl, dl + k * 5, none⟩)) rfl rfl (by kernel_rfl) (by kernel_rfl) (by kernel_rfl) (fun _ _ _ h => hQ _ _ _ _ _ h) HB0.out (Or.inl ⟨by rfl, fun w' hS' => ?_⟩) ?_
  · go_simp
  simp only [Act.put, List.setIfInBounds_toArray, List.set_cons_zero, List.set_cons_succ]
  refine wpAnyH_takeD (i := 4) (d := 32) (v := (.agg #[.int .i64 o.k, .int .i64 o.a, .int .i64 o.b, .int .i64 o.c, .int .i64 o.d])) rfl rfl (by kernel_rfl) (by kernel_rfl) (by kernel_rfl) (fun _ _ _ h => hQ _ _ _ _ _ h) HB0.out (Or.inl ⟨by rfl, fun w' hS' => ?_⟩) ?_
  · have q0 := (hS'.cell (p := ⟨bl, dl + k * 5, none⟩) HBL.out).trans HL.out.1
    have q1 := (hS'.cell (p := ⟨bl, dl + k * 5 + 1, none⟩) HBL.out).trans HL.out.2.1
    have q2 := (hS'.cell (p := ⟨bl, dl + k * 5 + 2, none⟩) HBL.out).trans HL.out.2.2.1
    have q3 := (hS'.cell (p := ⟨bl, dl + k * 5 + 3, none⟩) HBL.out).trans HL.out.2.2.2.1
    have q4 := (hS'.cell (p := ⟨bl, dl + k * 5 + 4, none⟩) HBL.out).trans HL.out.2.2.2.2
    go_simp
  simp only [Act.put, List.setIfInBounds_toArray, List.set_cons_zero, List.set_cons_succ]
  refine wpAnyH_two (i := 5) (j := 9) (by kernel_rfl) rfl rfl (fun K hK => ?_) (fun K hK => ?_)
  · go_simp
    refine (CS.out _ (HH.out.carry HB0.out (Nat.le_refl _) HB0.out.size)).mono ?_
    rintro e u1 ⟨A0, c0, rfl, hc0, ho0, b1⟩
    have HCC := Lib.hid hc0
    have HOW := Lib.hid ho0
    have HWL := Lib.hid HB0.out.size
    clear hc0 ho0
    have HB1 := Lib.hid (HB0.out.trans (b1.mono HB0.out.size))
    refine hK.out _ _ HB1.out ?_
    clear hK b1
    try simp only [Act.put, List.setIfInBounds_toArray, List.set_cons_zero, List.set_cons_succ]
    refine wpAnyH_takeD (i := 6) (d := 27) (v := .tuple #[.agg #[.int .i64 (s.w : Int), .int .i64 (s.h : Int), .slice A0 s.p.length c0], .bool b]) rfl rfl (by kernel_rfl) (by kernel_rfl) (by kernel_rfl) (fun _ _ _ h => hQ _ _ _ _ _ h) HB1.out (Or.inl ⟨by rfl, fun w' hS' => ?_⟩) ?_
    · go_simp
    simp only [Act.put, List.setIfInBounds_toArray, List.set_cons_zero, List.set_cons_succ]
    refine wpAnyH_takeD (i := 7) (d := 34) (v := .agg #[.int .i64 (s.w : Int), .int .i64 (s.h : Int), .slice A0 s.p.length c0]) rfl rfl (by kernel_rfl) (by kernel_rfl) (by kernel_rfl) (fun _ _ _ h => hQ _ _ _ _ _ h) HB1.out (Or.inl ⟨by rfl, fun w' hS' => ?_⟩) ?_
    · go_simp
    simp only [Act.put, List.setIfInBounds_toArray, List.set_cons_zero, List.set_cons_succ]
    refine wpAnyH_takeD (i := 8) (d := 35) (v := .bool b) rfl rfl (by kernel_rfl) (by kernel_rfl) (by kernel_rfl) (fun _ _ _ h => hQ _ _ _ _ _ h) HB1.out (Or.inl ⟨by rfl, fun w' hS' => ?_⟩) ?_
    · go_simp
    simp only [Act.put, List.setIfInBounds_toArray, List.set_cons_zero, List.set_cons_succ]
    refine wpAnyH_one (i := 9) (by kernel_rfl) rfl (fun K hK => ?_)
    have HOWA := Lib.hid (HOW.out.alloc (.cells #[.int .i64 0, .int .i64 0, .slice none 0 0] 30))
    have HNE : Hid (∀ q, (Value.slice A0 s.p.length c0).ownBlock = some q → q ≠ u1.heap.size) := Lib.hid fun q e => by have := (World.ownsRow.lt HOW.out q e).2; omega
    go_simp
    have b2 : Below u1.heap.size u1 (u1.alloc (.cells #[.int .i64 0, .int .i64 0, .slice none 0 0] 30)) := (Below.refl _ _).alloc (Nat.le_refl _) _
    have HZ2 := Lib.hid (laid_zero u1)
    have HLO2 : Hid (u1.heap.size < (u1.alloc (.cells #[.int .i64 0, .int .i64 0, .slice none 0 0] 30)).heap.size) := Lib.hid (by simp)
    have HGA := Lib.hid HB1.out.size
    have HB2 := Lib.hid (HB1.out.trans (b2.mono HB1.out.size))
    refine hK.out _ _ HB2.out ?_
    clear hK b2
    try simp only [Act.put, List.setIfInBounds_toArray, List.set_cons_zero, List.set_cons_succ]
    generalize u1.alloc (.cells #[.int .i64 0, .int .i64 0, .slice none 0 0] 30) = u2 at *
    have z0 := RasAtB.c0 HZ2.out
    have z1 := RasAtB.c1 HZ2.out
    have z2 := RasAtB.c2 HZ2.out
    have f0 := RasAtB.free HZ2.out 0
    have f1 := RasAtB.free HZ2.out 1
    have f2 := RasAtB.free HZ2.out 2
    have HE := Lib.hid (laid_store (w := w) HZ2.out HCC.out (HOWA.out.lower HWL.out) HNE.out HGA.out HB2.out)
    refine wpAnyH_one (i := 10) (by kernel_rfl) rfl (fun K hK => ?_)
    go_simp
    refine hK.out _ _ HE.out.2.2.2.2.2 ?_
    clear hK z0 z1 z2 f0 f1 f2
    try simp only [Act.put, List.setIfInBounds_toArray, List.set_cons_zero, List.set_cons_succ]
    refine wpAnyH_one (i := 11) (by kernel_rfl) rfl (fun K hK => ?_)
    go_simp
    refine hK.out _ _ HE.out.2.2.2.2.2 ?_
    clear hK
    refine wpAnyH_done (by kernel_rfl) ?_ _
    exact hq.out _ _ _ _ _ _ _ _ _ _ _ _ _ HE.out
  · go_simp
    have b3 : Below u0.heap.size u0 (u0.alloc (.cells #[.int .i64 0, .int .i64 0, .slice none 0 0] 30)) := (Below.refl _ _).alloc (Nat.le_refl _) _
    have HZ3 := Lib.hid (laid_zero u0)
    have HLO3 : Hid (u0.heap.size < (u0.alloc (.cells #[.int .i64 0, .int .i64 0, .slice none 0 0] 30)).heap.size) := Lib.hid (by simp)
    have HGA := Lib.hid HB0.out.size
    have HB3 := Lib.hid (HB0.out.trans (b3.mono HB0.out.size))
    refine hK.out _ _ HB3.out ?_
    clear hK b3
    try simp only [Act.put, List.setIfInBounds_toArray, List.set_cons_zero, List.set_cons_succ]
    generalize u0.alloc (.cells #[.int .i64 0, .int .i64 0, .slice none 0 0] 30) = u3 at *
    refine wpAnyH_one (i := 5) (by kernel_rfl) rfl (fun K hK => ?_)
    go_simp
    refine (CS.out _ (HH.out.carry HB3.out (Nat.le_refl _) HB3.out.size)).mono ?_
    rintro e u4 ⟨A0, c0, rfl, hc0, ho0, b4⟩
    have HCC := Lib.hid hc0
    have HOW := Lib.hid ho0
    have HWL := Lib.hid HB3.out.size
    clear hc0 ho0
    have HLOB := HLO3
    have HB4 := Lib.hid (HB3.out.trans (b4.mono HB3.out.size))
    have HZ4 := Lib.hid (Box.below HZ3.out b4 (Box.lt HZ3.out))
    have HLO4 : Hid (u0.heap.size < u4.heap.size) := Lib.hid (Nat.lt_of_lt_of_le (Box.lt HZ3.out) b4.size)
    refine hK.out _ _ HB4.out ?_
    clear hK b4
    try simp only [Act.put, List.setIfInBounds_toArray, List.set_cons_zero, List.set_cons_succ]
    refine wpAnyH_takeD (i := 6) (d := 27) (v := .tuple #[.agg #[.int .i64 (s.w : Int), .int .i64 (s.h : Int), .slice A0 s.p.length c0], .bool b]) rfl rfl (by kernel_rfl) (by kernel_rfl) (by kernel_rfl) (fun _ _ _ h => hQ _ _ _ _ _ h) HB4.out (Or.inl ⟨by rfl, fun w' hS' => ?_⟩) ?_
    · go_simp
    simp only [Act.put, List.setIfInBounds_toArray, List.set_cons_zero, List.set_cons_succ]
    refine wpAnyH_takeD (i := 7) (d := 34) (v := .agg #[.int .i64 (s.w : Int), .int .i64 (s.h : Int), .slice A0 s.p.length c0]) rfl rfl (by kernel_rfl) (by kernel_rfl) (by kernel_rfl) (fun _ _ _ h => hQ _ _ _ _ _ h) HB4.out (Or.inl ⟨by rfl, fun w' hS' => ?_⟩) ?_
    · go_simp
    simp only [Act.put, List.setIfInBounds_toArray, List.set_cons_zero, List.set_cons_succ]
    refine wpAnyH_takeD (i := 8) (d := 35) (v := .bool b) rfl rfl (by kernel_rfl) (by kernel_rfl) (by kernel_rfl) (fun _ _ _ h => hQ _ _ _ _ _ h) HB4.out (Or.inl ⟨by rfl, fun w' hS' => ?_⟩) ?_
    · go_simp
    simp only [Act.put, List.setIfInBounds_toArray, List.set_cons_zero, List.set_cons_succ]
    have HNE : Hid (∀ q, (Value.slice A0 s.p.length c0).ownBlock = some q → q ≠ u0.heap.size) := Lib.hid fun q e => by have := (World.ownsRow.lt HOW.out q e).1; have := HLOB.out; omega
    have z0 := RasAtB.c0 HZ4.out
    have z1 := RasAtB.c1 HZ4.out
    have z2 := RasAtB.c2 HZ4.out
    have f0 := RasAtB.free HZ4.out 0
    have f1 := RasAtB.free HZ4.out 1
    have f2 := RasAtB.free HZ4.out 2
    have HE := Lib.hid (laid_store (w := w) HZ4.out HCC.out (HOW.out.lower HWL.out) HNE.out HGA.out HB4.out)
    refine wpAnyH_one (i := 10) (by kernel_rfl) rfl (fun K hK => ?_)
    go_simp
    refine hK.out _ _ HE.out.2.2.2.2.2 ?_
    clear hK z0 z1 z2 f0 f1 f2
    try simp only [Act.put, List.setIfInBounds_toArray, List.set_cons_zero, List.set_cons_succ]
    refine wpAnyH_one (i := 11) (by kernel_rfl) rfl (fun K hK => ?_)
    go_simp
    refine hK.out _ _ HE.out.2.2.2.2.2 ?_
    clear hK
    refine wpAnyH_done (by kernel_rfl) ?_ _
    exact hq.out _ _ _ _ _ _ _ _ _ _ _ _ _ HE.out
set_option maxHeartbeats 8000000 in
set_option maxRecDepth 10000 in
theorem opsDoI_r7 {Q : Exit → Act → World → Prop} {x0 x1 x2 x3 x4 x5 x7 z9 z10 x11 x12 x13 x14 x15 x16 x17 x18 x19 x20 x21 x22 x23 x24 x25 x26 x27 x28 x29 x30 x31 x32 x33 z34 z35 z36 z37 z38 z39 z40 x41 x42 x43 x44 x45 x46 : Value} {w : World} (gX gO : Nat) (r : Ra) (A : Option Addr) (c : Nat) (o : Op) (d : Option Ra) (s : Ra) (b : Bool) (hX : RasAtB w gX r.w r.h A r.p.length c 30) (hO : OpAtB w gO o) (hh : HasP w w.heap.size A r.p) (hc : r.p.length ≤ c) (hr : r.ok) (ho : opB o = true) (hd : doR r o = d) (hs : d.getD ra0 = s) (hb : d.isSome = b)
    (hQ : ∀ (c : List PanicEntry) (a : Act) (k : Nat) (v : Value) (u : World), Q (.panic c) (a.put (some k) v) u → Q (.panic c) a u) (hq : Hid (∀ (g : Nat) (A0 : Option Addr) (c0 : Nat) (y34 y35 y36 y37 y38 y39 y40 : Value) (w' : World), Laid w s g A0 c0 w' → Q .normal { tmps := #[x0, x1, x2, x3, x4, x5, .pointer (some ⟨gX, 0, none⟩), x7, .pointer (some ⟨gO, 0, none⟩), .pointer (some ⟨g, 0, none⟩), .bool b, x11, x12, x13, x14, x15, x16, x17, x18, x19, x20, x21, x22, x23, x24, x25, x26, x27, x28, x29, x30, x31, x32, x33, y34, y35, y36, y37, y38, y39, y40, x41, x42, x43, x44, x45, x46], defers := [] } w')) :
    (Code.region 7 #[{ dst := some 35, op := Go.Op.load 49 (Go.Operand.tmp 8), type := 49, pos := "l6_ops.go:269", after := #[], guard := none }, { dst := some 36, op := Go.Op.call { callee := Go.Callee.value (Go.Operand.func 42), args := #[Go.Operand.tmp 35], argTypes := #[49] }, type := 64, pos := "l6_ops.go:269", after := #[{ on := 0, ground := Go.Ground.data }], guard := none }, { dst := some 37, op := Go.Op.load 30 (Go.Operand.tmp 6), type := 30, pos := "l6_ops.go:269", after := #[], guard := none }, { dst := some 38, op := Go.Op.call { callee := Go.Callee.value (Go.Operand.tmp 36), args := #[Go.Operand.tmp 37], argTypes := #[30] }, type := 31, pos := "l6_ops.go:269", after := #[{ on := 1, ground := Go.Ground.data }, { on := 2, ground := Go.Ground.data }, { on := 1, ground := Go.Ground.chain }], guard := none }, { dst := some 34, op := Go.Op.move (Go.Operand.tmp 38), type := 31, pos := "l6_ops.go:269", after := #[{ on := 3, ground := Go.Ground.data }], guard := none }, { dst := some 39, op := Go.Op.extract (Go.Operand.tmp 34) 0, type := 30, pos := "l6_ops.go:269", after := #[{ on := 4, ground := Go.Ground.data }], guard := none }, { dst := some 40, op := Go.Op.extract (Go.Operand.tmp 34) 1, type := 4, pos := "l6_ops.go:269", after := #[{ on := 4, ground := Go.Ground.data }, { on := 8, ground := Go.Ground.gcOnly Go.Departure.lateStores }], guard := none }, { dst := some 9, op := Go.Op.alloc 30, type := 0, pos := "l6_ops.go:269", after := #[], guard := none }, { dst := none, op := Go.Op.store 30 (Go.Operand.tmp 9) (Go.Operand.tmp 39), type := 0, pos := "l6_ops.go:269", after := #[{ on := 7, ground := Go.Ground.data }, { on := 5, ground := Go.Ground.data }, { on := 3, ground := Go.Ground.chain }, { on := 0, ground := Go.Ground.phase }, { on := 1, ground := Go.Ground.phase }, { on := 2, ground := Go.Ground.phase }, { on := 3, ground := Go.Ground.phase }, { on := 4, ground := Go.Ground.phase }, { on := 5, ground := Go.Ground.phase }, { on := 6, ground := Go.Ground.textOnly Go.Departure.lateStores }, { on := 7, ground := Go.Ground.phase }], guard := none }, { dst := some 10, op := Go.Op.assign (Go.Operand.tmp 40), type := 4, pos := "l6_ops.go:269", after := #[{ on := 6, ground := Go.Ground.data }, { on := 8, ground := Go.Ground.chain }, { on := 0, ground := Go.Ground.phase }, { on := 1, ground := Go.Ground.phase }, { on := 2, ground := Go.Ground.phase }, { on := 3, ground := Go.Ground.phase }, { on := 4, ground := Go.Ground.phase }, { on := 5, ground := Go.Ground.phase }, { on := 6, ground := Go.Ground.phase }, { on := 7, ground := Go.Ground.phase }, { on := 8, ground := Go.Ground.phase }], guard := none }] true).wp Tryd.prog Q { tmps := #[x0, x1, x2, x3, x4, x5, .pointer (some ⟨gX, 0, none⟩), x7, .pointer (some ⟨gO, 0, none⟩), z9, z10, x11, x12, x13, x14, x15, x16, x17, x18, x19, x20, x21, x22, x23, x24, x25, x26, x27, x28, x29, x30, x31, x32, x33, z34, z35, z36, z37, z38, z39, z40, x41, x42, x43, x44, x45, x46], defers := [] } w := by
  have CS : Hid (∀ (v : Value) (u : World), HasP u u.heap.size A r.p → StepV u o v → ∃ F caps, v = .func (.func F) #[] caps ∧ (∀ args u, (callFunc F args).run Tryd.prog u = .ok (.enter F args) u) ∧ Calls Tryd.prog F (#[.agg #[.int .i64 (r.w : Int), .int .i64 (r.h : Int), .slice A r.p.length c]] ++ caps) u (fun e w' => ∃ A0 c0, e = .returned (.tuple #[.agg #[.int .i64 (s.w : Int), .int .i64 (s.h : Int), .slice A0 s.p.length c0], .bool b]) ∧ s.p.length ≤ c0 ∧ OwnP w' u.heap.size (.slice A0 s.p.length c0) s.p ∧ Below u.heap.size u w')) := Lib.hid fun v u hh hv => by
    obtain ⟨F, caps, e, hF, hC⟩ := step_calls r A c o v u hr hc hh ho hv
    rw [hd] at hC
    unfold Did at hC
    rw [hs, hb] at hC
    exact ⟨F, caps, e, hF, hC⟩
  have CO := Lib.hid fun u => opStepOf_any o u ho
  unfold Stepped Op.v at CO
  have HX := Lib.hid hX
  have HO := Lib.hid hO
  have HH := Lib.hid hh
  clear hX hO hh hc hr ho hd hs hb
  refine wp_region_held_drew (S := fun v => Below w.heap.size w v) (by kernel_rfl) (below_draws (Below.refl _ _) 1) fun _ => ?_
  have HB0 : Hid (Below w.heap.size w w.drew) := Lib.hid (below_draws (Below.refl _ _) 1)
  generalize w.drew = u0 at *
  refine wpAnyH_takeD (i := 0) (d := 35) (v := (.agg #[.int .i64 o.k, .int .i64 o.a, .int .i64 o.b, .int .i64 o.c, .int .i64 o.d])) rfl rfl (by kernel_rfl) (by kernel_rfl) (by kernel_rfl) (fun _ _ _ h => hQ _ _ _ _ _ h) HB0.out (Or.inl ⟨by rfl, fun w' hS' => ?_⟩) ?_
  · have t := Box.below HO.out hS' (Box.lt HO.out)
    obtain ⟨t0, t1, t2, t3, t4⟩ := OpAtB.cs t
    go_simp
  simp only [Act.put, List.setIfInBounds_toArray, List.set_cons_zero, List.set_cons_succ]
  refine wpAnyH_takeD (i := 2) (d := 37) (v := (.agg #[.int .i64 (r.w : Int), .int .i64 (r.h : Int), .slice A r.p.length c])) rfl rfl (by kernel_rfl) (by kernel_rfl) (by kernel_rfl) (fun _ _ _ h => hQ _ _ _ _ _ h) HB0.out (Or.inl ⟨by rfl, fun w' hS' => ?_⟩) ?_
  · have t := Box.below HX.out hS' (Box.lt HX.out)
    have t0 := RasAtB.c0 t
    have t1 := RasAtB.c1 t
    have t2 := RasAtB.c2 t
    go_simp
  simp only [Act.put, List.setIfInBounds_toArray, List.set_cons_zero, List.set_cons_succ]
  refine wpAnyH_two (i := 1) (j := 7) (by kernel_rfl) rfl rfl (fun K hK => ?_) (fun K hK => ?_)
  · go_simp
    refine (CO.out _).mono ?_
    rintro e u1 ⟨v, rfl, hv, b1⟩
    obtain ⟨F, caps, rfl, -, -⟩ := CS.out v u1 ((HH.out.carry HB0.out (Nat.le_refl _) HB0.out.size).carry b1 (Nat.le_refl _) b1.size) hv
    have HT := Lib.hid hv
    clear hv
    have HB1 := Lib.hid (HB0.out.trans (b1.mono HB0.out.size))
    refine hK.out _ _ HB1.out ?_
    clear hK b1
    try simp only [Act.put, List.setIfInBounds_toArray, List.set_cons_zero, List.set_cons_succ]
    refine wpAnyH_two (i := 3) (j := 7) (by kernel_rfl) rfl rfl (fun K hK => ?_) (fun K hK => ?_)
    · obtain ⟨F', caps', e', hF, hC⟩ := CS.out _ u1 (HH.out.carry HB1.out (Nat.le_refl _) HB1.out.size) HT.out
      injection e' with e1 _ e3
      injection e1 with e1
      subst e1 e3
      go_simp
      refine hC.mono ?_
      rintro e u2 ⟨A0, c0, rfl, hc0, ho0, b2⟩
      have HCC := Lib.hid hc0
      have HOW := Lib.hid ho0
      have HWL := Lib.hid HB1.out.size
      clear hc0 ho0
      clear hF hC
      have HB2 := Lib.hid (HB1.out.trans (b2.mono HB1.out.size))
      refine hK.out _ _ HB2.out ?_
      clear hK b2
      try simp only [Act.put, List.setIfInBounds_toArray, List.set_cons_zero, List.set_cons_succ]
      refine wpAnyH_takeD (i := 4) (d := 34) (v := .tuple #[.agg #[.int .i64 (s.w : Int), .int .i64 (s.h : Int), .slice A0 s.p.length c0], .bool b]) rfl rfl (by kernel_rfl) (by kernel_rfl) (by kernel_rfl) (fun _ _ _ h => hQ _ _ _ _ _ h) HB2.out (Or.inl ⟨by rfl, fun w' hS' => ?_⟩) ?_
      · go_simp
      simp only [Act.put, List.setIfInBounds_toArray, List.set_cons_zero, List.set_cons_succ]
      refine wpAnyH_takeD (i := 5) (d := 39) (v := .agg #[.int .i64 (s.w : Int), .int .i64 (s.h : Int), .slice A0 s.p.length c0]) rfl rfl (by kernel_rfl) (by kernel_rfl) (by kernel_rfl) (fun _ _ _ h => hQ _ _ _ _ _ h) HB2.out (Or.inl ⟨by rfl, fun w' hS' => ?_⟩) ?_
      · go_simp
      simp only [Act.put, List.setIfInBounds_toArray, List.set_cons_zero, List.set_cons_succ]
      refine wpAnyH_takeD (i := 6) (d := 40) (v := .bool b) rfl rfl (by kernel_rfl) (by kernel_rfl) (by kernel_rfl) (fun _ _ _ h => hQ _ _ _ _ _ h) HB2.out (Or.inl ⟨by rfl, fun w' hS' => ?_⟩) ?_
      · go_simp
      simp only [Act.put, List.setIfInBounds_toArray, List.set_cons_zero, List.set_cons_succ]
      refine wpAnyH_one (i := 7) (by kernel_rfl) rfl (fun K hK => ?_)
      have HOWA := Lib.hid (HOW.out.alloc (.cells #[.int .i64 0, .int .i64 0, .slice none 0 0] 30))
      have HNE : Hid (∀ q, (Value.slice A0 s.p.length c0).ownBlock = some q → q ≠ u2.heap.size) := Lib.hid fun q e => by have := (World.ownsRow.lt HOW.out q e).2; omega
      go_simp
      have b3 : Below u2.heap.size u2 (u2.alloc (.cells #[.int .i64 0, .int .i64 0, .slice none 0 0] 30)) := (Below.refl _ _).alloc (Nat.le_refl _) _
      have HZ3 := Lib.hid (laid_zero u2)
      have HLO3 : Hid (u2.heap.size < (u2.alloc (.cells #[.int .i64 0, .int .i64 0, .slice none 0 0] 30)).heap.size) := Lib.hid (by simp)
      have HGA := Lib.hid HB2.out.size
      have HB3 := Lib.hid (HB2.out.trans (b3.mono HB2.out.size))
      refine hK.out _ _ HB3.out ?_
      clear hK b3
      try simp only [Act.put, List.setIfInBounds_toArray, List.set_cons_zero, List.set_cons_succ]
      generalize u2.alloc (.cells #[.int .i64 0, .int .i64 0, .slice none 0 0] 30) = u3 at *
      have z0 := RasAtB.c0 HZ3.out
      have z1 := RasAtB.c1 HZ3.out
      have z2 := RasAtB.c2 HZ3.out
      have f0 := RasAtB.free HZ3.out 0
      have f1 := RasAtB.free HZ3.out 1
      have f2 := RasAtB.free HZ3.out 2
      have HE := Lib.hid (laid_store (w := w) HZ3.out HCC.out (HOWA.out.lower HWL.out) HNE.out HGA.out HB3.out)
      refine wpAnyH_one (i := 8) (by kernel_rfl) rfl (fun K hK => ?_)
      go_simp
      refine hK.out _ _ HE.out.2.2.2.2.2 ?_
      clear hK z0 z1 z2 f0 f1 f2
      try simp only [Act.put, List.setIfInBounds_toArray, List.set_cons_zero, List.set_cons_succ]
      refine wpAnyH_one (i := 9) (by kernel_rfl) rfl (fun K hK => ?_)
      go_simp
      refine hK.out _ _ HE.out.2.2.2.2.2 ?_
      clear hK
      refine wpAnyH_done (by kernel_rfl) ?_ _
      exact hq.out _ _ _ _ _ _ _ _ _ _ _ HE.out
    · go_simp
      have b4 : Below u1.heap.size u1 (u1.alloc (.cells #[.int .i64 0, .int .i64 0, .slice none 0 0] 30)) := (Below.refl _ _).alloc (Nat.le_refl _) _
      have HZ4 := Lib.hid (laid_zero u1)
      have HLO4 : Hid (u1.heap.size < (u1.alloc (.cells #[.int .i64 0, .int .i64 0, .slice none 0 0] 30)).heap.size) := Lib.hid (by simp)
      have HGA := Lib.hid HB1.out.size
      have HB4 := Lib.hid (HB1.out.trans (b4.mono HB1.out.size))
      have HT_4 := Lib.hid (HT.out.next b4)
      clear HT
      refine hK.out _ _ HB4.out ?_
      clear hK b4
      try simp only [Act.put, List.setIfInBounds_toArray, List.set_cons_zero, List.set_cons_succ]
      generalize u1.alloc (.cells #[.int .i64 0, .int .i64 0, .slice none 0 0] 30) = u4 at *
      refine wpAnyH_one (i := 3) (by kernel_rfl) rfl (fun K hK => ?_)
      obtain ⟨F', caps', e', hF, hC⟩ := CS.out _ u4 (HH.out.carry HB4.out (Nat.le_refl _) HB4.out.size) HT_4.out
      injection e' with e1 _ e3
      injection e1 with e1
      subst e1 e3
      go_simp
      refine hC.mono ?_
      rintro e u5 ⟨A0, c0, rfl, hc0, ho0, b5⟩
      have HCC := Lib.hid hc0
      have HOW := Lib.hid ho0
      have HWL := Lib.hid HB4.out.size
      clear hc0 ho0
      have HLOB := HLO4
      clear hF hC
      have HB5 := Lib.hid (HB4.out.trans (b5.mono HB4.out.size))
      have HZ5 := Lib.hid (Box.below HZ4.out b5 (Box.lt HZ4.out))
      have HLO5 : Hid (u1.heap.size < u5.heap.size) := Lib.hid (Nat.lt_of_lt_of_le (Box.lt HZ4.out) b5.size)
      refine hK.out _ _ HB5.out ?_
      clear hK b5
      try simp only [Act.put, List.setIfInBounds_toArray, List.set_cons_zero, List.set_cons_succ]
      refine wpAnyH_takeD (i := 4) (d := 34) (v := .tuple #[.agg #[.int .i64 (s.w : Int), .int .i64 (s.h : Int), .slice A0 s.p.length c0], .bool b]) rfl rfl (by kernel_rfl) (by kernel_rfl) (by kernel_rfl) (fun _ _ _ h => hQ _ _ _ _ _ h) HB5.out (Or.inl ⟨by rfl, fun w' hS' => ?_⟩) ?_
      · go_simp
      simp only [Act.put, List.setIfInBounds_toArray, List.set_cons_zero, List.set_cons_succ]
      refine wpAnyH_takeD (i := 5) (d := 39) (v := .agg #[.int .i64 (s.w : Int), .int .i64 (s.h : Int), .slice A0 s.p.length c0]) rfl rfl (by kernel_rfl) (by kernel_rfl) (by kernel_rfl) (fun _ _ _ h => hQ _ _ _ _ _ h) HB5.out (Or.inl ⟨by rfl, fun w' hS' => ?_⟩) ?_
      · go_simp
      simp only [Act.put, List.setIfInBounds_toArray, List.set_cons_zero, List.set_cons_succ]
      refine wpAnyH_takeD (i := 6) (d := 40) (v := .bool b) rfl rfl (by kernel_rfl) (by kernel_rfl) (by kernel_rfl) (fun _ _ _ h => hQ _ _ _ _ _ h) HB5.out (Or.inl ⟨by rfl, fun w' hS' => ?_⟩) ?_
      · go_simp
      simp only [Act.put, List.setIfInBounds_toArray, List.set_cons_zero, List.set_cons_succ]
      have HNE : Hid (∀ q, (Value.slice A0 s.p.length c0).ownBlock = some q → q ≠ u1.heap.size) := Lib.hid fun q e => by have := (World.ownsRow.lt HOW.out q e).1; have := HLOB.out; omega
      have z0 := RasAtB.c0 HZ5.out
      have z1 := RasAtB.c1 HZ5.out
      have z2 := RasAtB.c2 HZ5.out
      have f0 := RasAtB.free HZ5.out 0
      have f1 := RasAtB.free HZ5.out 1
      have f2 := RasAtB.free HZ5.out 2
      have HE := Lib.hid (laid_store (w := w) HZ5.out HCC.out (HOW.out.lower HWL.out) HNE.out HGA.out HB5.out)
      refine wpAnyH_one (i := 8) (by kernel_rfl) rfl (fun K hK => ?_)
      go_simp
      refine hK.out _ _ HE.out.2.2.2.2.2 ?_
      clear hK z0 z1 z2 f0 f1 f2
      try simp only [Act.put, List.setIfInBounds_toArray, List.set_cons_zero, List.set_cons_succ]
      refine wpAnyH_one (i := 9) (by kernel_rfl) rfl (fun K hK => ?_)
      go_simp
      refine hK.out _ _ HE.out.2.2.2.2.2 ?_
      clear hK
      refine wpAnyH_done (by kernel_rfl) ?_ _
      exact hq.out _ _ _ _ _ _ _ _ _ _ _ HE.out
  · go_simp
    have b6 : Below u0.heap.size u0 (u0.alloc (.cells #[.int .i64 0, .int .i64 0, .slice none 0 0] 30)) := (Below.refl _ _).alloc (Nat.le_refl _) _
    have HZ6 := Lib.hid (laid_zero u0)
    have HLO6 : Hid (u0.heap.size < (u0.alloc (.cells #[.int .i64 0, .int .i64 0, .slice none 0 0] 30)).heap.size) := Lib.hid (by simp)
    have HGA := Lib.hid HB0.out.size
    have HB6 := Lib.hid (HB0.out.trans (b6.mono HB0.out.size))
    refine hK.out _ _ HB6.out ?_
    clear hK b6
    try simp only [Act.put, List.setIfInBounds_toArray, List.set_cons_zero, List.set_cons_succ]
    generalize u0.alloc (.cells #[.int .i64 0, .int .i64 0, .slice none 0 0] 30) = u6 at *
    refine wpAnyH_one (i := 1) (by kernel_rfl) rfl (fun K hK => ?_)
    go_simp
    refine (CO.out _).mono ?_
    rintro e u7 ⟨v, rfl, hv, b7⟩
    obtain ⟨F, caps, rfl, -, -⟩ := CS.out v u7 ((HH.out.carry HB6.out (Nat.le_refl _) HB6.out.size).carry b7 (Nat.le_refl _) b7.size) hv
    have HT := Lib.hid hv
    clear hv
    have HB7 := Lib.hid (HB6.out.trans (b7.mono HB6.out.size))
    have HZ7 := Lib.hid (Box.below HZ6.out b7 (Box.lt HZ6.out))
    have HLO7 : Hid (u0.heap.size < u7.heap.size) := Lib.hid (Nat.lt_of_lt_of_le (Box.lt HZ6.out) b7.size)
    refine hK.out _ _ HB7.out ?_
    clear hK b7
    try simp only [Act.put, List.setIfInBounds_toArray, List.set_cons_zero, List.set_cons_succ]
    refine wpAnyH_one (i := 3) (by kernel_rfl) rfl (fun K hK => ?_)
    obtain ⟨F', caps', e', hF, hC⟩ := CS.out _ u7 (HH.out.carry HB7.out (Nat.le_refl _) HB7.out.size) HT.out
    injection e' with e1 _ e3
    injection e1 with e1
    subst e1 e3
    go_simp
    refine hC.mono ?_
    rintro e u8 ⟨A0, c0, rfl, hc0, ho0, b8⟩
    have HCC := Lib.hid hc0
    have HOW := Lib.hid ho0
    have HWL := Lib.hid HB7.out.size
    clear hc0 ho0
    have HLOB := HLO7
    clear hF hC
    have HB8 := Lib.hid (HB7.out.trans (b8.mono HB7.out.size))
    have HZ8 := Lib.hid (Box.below HZ7.out b8 (Box.lt HZ7.out))
    have HLO8 : Hid (u0.heap.size < u8.heap.size) := Lib.hid (Nat.lt_of_lt_of_le (Box.lt HZ7.out) b8.size)
    refine hK.out _ _ HB8.out ?_
    clear hK b8
    try simp only [Act.put, List.setIfInBounds_toArray, List.set_cons_zero, List.set_cons_succ]
    refine wpAnyH_takeD (i := 4) (d := 34) (v := .tuple #[.agg #[.int .i64 (s.w : Int), .int .i64 (s.h : Int), .slice A0 s.p.length c0], .bool b]) rfl rfl (by kernel_rfl) (by kernel_rfl) (by kernel_rfl) (fun _ _ _ h => hQ _ _ _ _ _ h) HB8.out (Or.inl ⟨by rfl, fun w' hS' => ?_⟩) ?_
    · go_simp
    simp only [Act.put, List.setIfInBounds_toArray, List.set_cons_zero, List.set_cons_succ]
    refine wpAnyH_takeD (i := 5) (d := 39) (v := .agg #[.int .i64 (s.w : Int), .int .i64 (s.h : Int), .slice A0 s.p.length c0]) rfl rfl (by kernel_rfl) (by kernel_rfl) (by kernel_rfl) (fun _ _ _ h => hQ _ _ _ _ _ h) HB8.out (Or.inl ⟨by rfl, fun w' hS' => ?_⟩) ?_
    · go_simp
    simp only [Act.put, List.setIfInBounds_toArray, List.set_cons_zero, List.set_cons_succ]
    refine wpAnyH_takeD (i := 6) (d := 40) (v := .bool b) rfl rfl (by kernel_rfl) (by kernel_rfl) (by kernel_rfl) (fun _ _ _ h => hQ _ _ _ _ _ h) HB8.out (Or.inl ⟨by rfl, fun w' hS' => ?_⟩) ?_
    · go_simp
    simp only [Act.put, List.setIfInBounds_toArray, List.set_cons_zero, List.set_cons_succ]
    have HNE : Hid (∀ q, (Value.slice A0 s.p.length c0).ownBlock = some q → q ≠ u0.heap.size) := Lib.hid fun q e => by have := (World.ownsRow.lt HOW.out q e).1; have := HLOB.out; omega
    have z0 := RasAtB.c0 HZ8.out
    have z1 := RasAtB.c1 HZ8.out
    have z2 := RasAtB.c2 HZ8.out
    have f0 := RasAtB.free HZ8.out 0
    have f1 := RasAtB.free HZ8.out 1
    have f2 := RasAtB.free HZ8.out 2
    have HE := Lib.hid (laid_store (w := w) HZ8.out HCC.out (HOW.out.lower HWL.out) HNE.out HGA.out HB8.out)
    refine wpAnyH_one (i := 8) (by kernel_rfl) rfl (fun K hK => ?_)
    go_simp
    refine hK.out _ _ HE.out.2.2.2.2.2 ?_
    clear hK z0 z1 z2 f0 f1 f2
    try simp only [Act.put, List.setIfInBounds_toArray, List.set_cons_zero, List.set_cons_succ]
    refine wpAnyH_one (i := 9) (by kernel_rfl) rfl (fun K hK => ?_)
    go_simp
    refine hK.out _ _ HE.out.2.2.2.2.2 ?_
    clear hK
    refine wpAnyH_done (by kernel_rfl) ?_ _
    exact hq.out _ _ _ _ _ _ _ _ _ _ _ HE.out
end Go.Proofs.YtiemlakjallphabDoor
