/-
  The regions of the law FnOpsDo that draw their order. Conditions as they stand.
-/
import Derived.Test.YtiemlakjallphabDoorOpsDo
import Derived.Test.YtiemlakjallphabDoorOpDoI
namespace Go.Proofs.YtiemlakjallphabDoor
set_option maxRecDepth 4000
open Go.RowKit

theorem puts_ok {r : Ra} {lt : List Op} (hr : r.ok) (hB : opsB lt = true) : putsO r.w r.h r.p lt = opsR r lt := by
  unfold putsO
  rw [show rasB r.w r.h r.p = true from hr, hB]
  rfl
set_option maxHeartbeats 8000000 in
set_option maxRecDepth 10000 in
theorem opsDoL_r14 {Q : Exit → Act → World → Prop} {x0 x1 x2 x3 x5 x6 x7 x8 z11 z12 x13 x14 x15 x16 x17 x18 x19 x20 x21 x22 x23 x24 x25 x26 x27 x28 x29 x30 x31 x32 x33 x34 x35 x36 x37 x38 x39 x40 x41 x42 x43 x44 x45 x46 x47 x48 x49 x50 x51 x52 x53 x54 x55 x56 x57 x58 x59 x60 x61 x62 x63 x64 z65 z66 z67 z68 z69 z70 z71 z72 z73 x74 x75 x76 x77 x78 x79 x80 x81 x82 x83 x84 x85 x86 x87 x88 x89 x90 x91 x92 x93 x94 x95 x96 x97 x98 x99 x100 x101 x102 x103 x104 x105 x106 x107 x108 x109 x110 x111 x112 x113 x114 x115 x116 x117 x118 x119 x120 x121 x122 x123 x124 x125 x126 x127 : Value} {w : World} (gX bl dl n lc k : Nat) (r : Ra) (A : Option Addr) (c : Nat) (hX : RasAtB w gX r.w r.h A r.p.length c 30) (hh : HasP w w.heap.size A r.p) (hc : r.p.length ≤ c) (hr : r.ok) (hR : RangesIn w) (o : Op) (d : Option Ra) (s : Ra) (b : Bool) (hs : d.getD ra0 = s) (hb : d.isSome = b) (ho : opB o = true) (hbl : bl < w.heap.size) (hL : w.cell? ⟨bl, dl + k * 5, none⟩ = some (.int .i64 o.k) ∧ w.cell? ⟨bl, dl + k * 5 + 1, none⟩ = some (.int .i64 o.a) ∧ w.cell? ⟨bl, dl + k * 5 + 2, none⟩ = some (.int .i64 o.b) ∧ w.cell? ⟨bl, dl + k * 5 + 3, none⟩ = some (.int .i64 o.c) ∧ w.cell? ⟨bl, dl + k * 5 + 4, none⟩ = some (.int .i64 o.d)) (hk : k < n) (hd : doR r o = d)
    (hQ : ∀ (c : List PanicEntry) (a : Act) (k : Nat) (v : Value) (u : World), Q (.panic c) (a.put (some k) v) u → Q (.panic c) a u) (hq : Hid (∀ (g : Nat) (A0 : Option Addr) (c0 : Nat) (y65 y66 y67 y68 y69 y70 y71 y72 y73 : Value) (w' : World), Laid w s g A0 c0 w' → Q .normal { tmps := #[x0, x1, x2, x3, .slice (some ⟨bl, dl, none⟩) n lc, x5, x6, x7, x8, .pointer (some ⟨gX, 0, none⟩), .int .i64 (k : Int), .pointer (some ⟨g, 0, none⟩), .bool b, x13, x14, x15, x16, x17, x18, x19, x20, x21, x22, x23, x24, x25, x26, x27, x28, x29, x30, x31, x32, x33, x34, x35, x36, x37, x38, x39, x40, x41, x42, x43, x44, x45, x46, x47, x48, x49, x50, x51, x52, x53, x54, x55, x56, x57, x58, x59, x60, x61, x62, x63, x64, y65, y66, y67, y68, y69, y70, y71, y72, y73, x74, x75, x76, x77, x78, x79, x80, x81, x82, x83, x84, x85, x86, x87, x88, x89, x90, x91, x92, x93, x94, x95, x96, x97, x98, x99, x100, x101, x102, x103, x104, x105, x106, x107, x108, x109, x110, x111, x112, x113, x114, x115, x116, x117, x118, x119, x120, x121, x122, x123, x124, x125, x126, x127], defers := [] } w')) :
    (Code.region 14 #[{ dst := some 66, op := Go.Op.load 30 (Go.Operand.tmp 9), type := 30, pos := "laws.go:734", after := #[], guard := none }, { dst := some 67, op := Go.Op.move (Go.Operand.tmp 4), type := 34, pos := "laws.go:734", after := #[], guard := none }, { dst := some 68, op := Go.Op.move (Go.Operand.tmp 10), type := 3, pos := "laws.go:734", after := #[], guard := none }, { dst := some 69, op := Go.Op.indexAddr 34 (Go.Operand.tmp 67) (Go.Operand.tmp 68), type := 0, pos := "laws.go:734", after := #[{ on := 1, ground := Go.Ground.data }, { on := 2, ground := Go.Ground.data }], guard := none }, { dst := some 70, op := Go.Op.load 49 (Go.Operand.tmp 69), type := 49, pos := "laws.go:734", after := #[{ on := 3, ground := Go.Ground.data }], guard := none }, { dst := some 71, op := Go.Op.call { callee := Go.Callee.value (Go.Operand.func 27), args := #[Go.Operand.tmp 66, Go.Operand.tmp 70], argTypes := #[30, 49] }, type := 31, pos := "laws.go:734", after := #[{ on := 0, ground := Go.Ground.data }, { on := 4, ground := Go.Ground.data }], guard := none }, { dst := some 65, op := Go.Op.move (Go.Operand.tmp 71), type := 31, pos := "laws.go:734", after := #[{ on := 5, ground := Go.Ground.data }], guard := none }, { dst := some 72, op := Go.Op.extract (Go.Operand.tmp 65) 0, type := 30, pos := "laws.go:734", after := #[{ on := 6, ground := Go.Ground.data }], guard := none }, { dst := some 73, op := Go.Op.extract (Go.Operand.tmp 65) 1, type := 4, pos := "laws.go:734", after := #[{ on := 6, ground := Go.Ground.data }, { on := 10, ground := Go.Ground.gcOnly Go.Departure.lateStores }], guard := none }, { dst := some 11, op := Go.Op.alloc 30, type := 0, pos := "laws.go:734", after := #[], guard := none }, { dst := none, op := Go.Op.store 30 (Go.Operand.tmp 11) (Go.Operand.tmp 72), type := 0, pos := "laws.go:734", after := #[{ on := 9, ground := Go.Ground.data }, { on := 7, ground := Go.Ground.data }, { on := 5, ground := Go.Ground.chain }, { on := 0, ground := Go.Ground.phase }, { on := 1, ground := Go.Ground.phase }, { on := 2, ground := Go.Ground.phase }, { on := 3, ground := Go.Ground.phase }, { on := 4, ground := Go.Ground.phase }, { on := 5, ground := Go.Ground.phase }, { on := 6, ground := Go.Ground.phase }, { on := 7, ground := Go.Ground.phase }, { on := 8, ground := Go.Ground.textOnly Go.Departure.lateStores }, { on := 9, ground := Go.Ground.phase }], guard := none }, { dst := some 12, op := Go.Op.assign (Go.Operand.tmp 73), type := 4, pos := "laws.go:734", after := #[{ on := 8, ground := Go.Ground.data }, { on := 10, ground := Go.Ground.chain }, { on := 0, ground := Go.Ground.phase }, { on := 1, ground := Go.Ground.phase }, { on := 2, ground := Go.Ground.phase }, { on := 3, ground := Go.Ground.phase }, { on := 4, ground := Go.Ground.phase }, { on := 5, ground := Go.Ground.phase }, { on := 6, ground := Go.Ground.phase }, { on := 7, ground := Go.Ground.phase }, { on := 8, ground := Go.Ground.phase }, { on := 9, ground := Go.Ground.phase }, { on := 10, ground := Go.Ground.phase }], guard := none }] true).wp Tryd.prog Q { tmps := #[x0, x1, x2, x3, .slice (some ⟨bl, dl, none⟩) n lc, x5, x6, x7, x8, .pointer (some ⟨gX, 0, none⟩), .int .i64 (k : Int), z11, z12, x13, x14, x15, x16, x17, x18, x19, x20, x21, x22, x23, x24, x25, x26, x27, x28, x29, x30, x31, x32, x33, x34, x35, x36, x37, x38, x39, x40, x41, x42, x43, x44, x45, x46, x47, x48, x49, x50, x51, x52, x53, x54, x55, x56, x57, x58, x59, x60, x61, x62, x63, x64, z65, z66, z67, z68, z69, z70, z71, z72, z73, x74, x75, x76, x77, x78, x79, x80, x81, x82, x83, x84, x85, x86, x87, x88, x89, x90, x91, x92, x93, x94, x95, x96, x97, x98, x99, x100, x101, x102, x103, x104, x105, x106, x107, x108, x109, x110, x111, x112, x113, x114, x115, x116, x117, x118, x119, x120, x121, x122, x123, x124, x125, x126, x127], defers := [] } w := by
  have CS : Hid (∀ u : World, RangesIn u → HasP u u.heap.size A r.p → Calls Tryd.prog 27 #[.agg #[.int .i64 (r.w : Int), .int .i64 (r.h : Int), .slice A r.p.length c], .agg #[.int .i64 o.k, .int .i64 o.a, .int .i64 o.b, .int .i64 o.c, .int .i64 o.d]] u (fun e w' => ∃ A0 c0, e = .returned (.tuple #[.agg #[.int .i64 (s.w : Int), .int .i64 (s.h : Int), .slice A0 s.p.length c0], .bool b]) ∧ s.p.length ≤ c0 ∧ OwnP w' u.heap.size (.slice A0 s.p.length c0) s.p ∧ Below u.heap.size u w')) := Lib.hid fun u hu hh => by
    have := opDo_good r A c o u hr ho hu hc hh
    rw [hd] at this
    unfold Did at this
    rw [hs, hb] at this
    exact this
  have HX := Lib.hid hX
  have HH := Lib.hid hh
  have HRT := Lib.hid hR
  have HBL := Lib.hid hbl
  have HL := Lib.hid hL
  have hkI : (0 : Int) ≤ (k : Int) ∧ (k : Int) < (n : Int) := by omega
  clear hX hh hc hr ho hbl hL hd hs hb hR
  refine wp_region_held_drew (S := fun v => Below w.heap.size w v) (by kernel_rfl) (below_draws (Below.refl _ _) 1) fun _ => ?_
  have HB0 : Hid (Below w.heap.size w w.drew) := Lib.hid (below_draws (Below.refl _ _) 1)
  generalize w.drew = u0 at *
  refine wpAnyH_takeD (i := 0) (d := 66) (v := (.agg #[.int .i64 (r.w : Int), .int .i64 (r.h : Int), .slice A r.p.length c])) rfl rfl (by kernel_rfl) (by kernel_rfl) (by kernel_rfl) (fun _ _ _ h => hQ _ _ _ _ _ h) HB0.out (Or.inl ⟨by rfl, fun w' hS' => ?_⟩) ?_
  · have t := Box.below HX.out hS' (Box.lt HX.out)
    have t0 := RasAtB.c0 t
    have t1 := RasAtB.c1 t
    have t2 := RasAtB.c2 t
    go_simp
  simp only [Act.put, List.setIfInBounds_toArray, List.set_cons_zero, List.set_cons_succ]
  refine wpAnyH_takeD (i := 1) (d := 67) (v := .slice (some ⟨bl, dl, none⟩) n lc) rfl rfl (by kernel_rfl) (by kernel_rfl) (by kernel_rfl) (fun _ _ _ h => hQ _ _ _ _ _ h) HB0.out (Or.inl ⟨by rfl, fun w' hS' => ?_⟩) ?_
  · go_simp
  simp only [Act.put, List.setIfInBounds_toArray, List.set_cons_zero, List.set_cons_succ]
  refine wpAnyH_takeD (i := 2) (d := 68) (v := .int .i64 (k : Int)) rfl rfl (by kernel_rfl) (by kernel_rfl) (by kernel_rfl) (fun _ _ _ h => hQ _ _ _ _ _ h) HB0.out (Or.inl ⟨by rfl, fun w' hS' => ?_⟩) ?_
  · go_simp
  simp only [Act.put, List.setIfInBounds_toArray, List.set_cons_zero, List.set_cons_succ]
  refine wpAnyH_takeD (i := 3) (d := 69) (v := .pointer (some ⟨bl, dl + k * 5, none⟩)) rfl rfl (by kernel_rfl) (by kernel_rfl) (by kernel_rfl) (fun _ _ _ h => hQ _ _ _ _ _ h) HB0.out (Or.inl ⟨by rfl, fun w' hS' => ?_⟩) ?_
  · go_simp
  simp only [Act.put, List.setIfInBounds_toArray, List.set_cons_zero, List.set_cons_succ]
  refine wpAnyH_takeD (i := 4) (d := 70) (v := (.agg #[.int .i64 o.k, .int .i64 o.a, .int .i64 o.b, .int .i64 o.c, .int .i64 o.d])) rfl rfl (by kernel_rfl) (by kernel_rfl) (by kernel_rfl) (fun _ _ _ h => hQ _ _ _ _ _ h) HB0.out (Or.inl ⟨by rfl, fun w' hS' => ?_⟩) ?_
  · have q0 := (hS'.cell (p := ⟨bl, dl + k * 5, none⟩) HBL.out).trans HL.out.1
    have q1 := (hS'.cell (p := ⟨bl, dl + k * 5 + 1, none⟩) HBL.out).trans HL.out.2.1
    have q2 := (hS'.cell (p := ⟨bl, dl + k * 5 + 2, none⟩) HBL.out).trans HL.out.2.2.1
    have q3 := (hS'.cell (p := ⟨bl, dl + k * 5 + 3, none⟩) HBL.out).trans HL.out.2.2.2.1
    have q4 := (hS'.cell (p := ⟨bl, dl + k * 5 + 4, none⟩) HBL.out).trans HL.out.2.2.2.2
    go_simp
  simp only [Act.put, List.setIfInBounds_toArray, List.set_cons_zero, List.set_cons_succ]
  refine wpAnyH_two (i := 5) (j := 9) (by kernel_rfl) rfl rfl (fun K hK => ?_) (fun K hK => ?_)
  · go_simp
    refine (CS.out _ (HRT.out.next HB0.out) (HH.out.carry HB0.out (Nat.le_refl _) HB0.out.size)).mono ?_
    rintro e u1 ⟨A0, c0, rfl, hc0, ho0, b1⟩
    have HCC := Lib.hid hc0
    have HOW := Lib.hid ho0
    have HWL := Lib.hid HB0.out.size
    clear hc0 ho0
    have HB1 := Lib.hid (HB0.out.trans (b1.mono HB0.out.size))
    refine hK.out _ _ HB1.out ?_
    clear hK b1
    try simp only [Act.put, List.setIfInBounds_toArray, List.set_cons_zero, List.set_cons_succ]
    refine wpAnyH_takeD (i := 6) (d := 65) (v := .tuple #[.agg #[.int .i64 (s.w : Int), .int .i64 (s.h : Int), .slice A0 s.p.length c0], .bool b]) rfl rfl (by kernel_rfl) (by kernel_rfl) (by kernel_rfl) (fun _ _ _ h => hQ _ _ _ _ _ h) HB1.out (Or.inl ⟨by rfl, fun w' hS' => ?_⟩) ?_
    · go_simp
    simp only [Act.put, List.setIfInBounds_toArray, List.set_cons_zero, List.set_cons_succ]
    refine wpAnyH_takeD (i := 7) (d := 72) (v := .agg #[.int .i64 (s.w : Int), .int .i64 (s.h : Int), .slice A0 s.p.length c0]) rfl rfl (by kernel_rfl) (by kernel_rfl) (by kernel_rfl) (fun _ _ _ h => hQ _ _ _ _ _ h) HB1.out (Or.inl ⟨by rfl, fun w' hS' => ?_⟩) ?_
    · go_simp
    simp only [Act.put, List.setIfInBounds_toArray, List.set_cons_zero, List.set_cons_succ]
    refine wpAnyH_takeD (i := 8) (d := 73) (v := .bool b) rfl rfl (by kernel_rfl) (by kernel_rfl) (by kernel_rfl) (fun _ _ _ h => hQ _ _ _ _ _ h) HB1.out (Or.inl ⟨by rfl, fun w' hS' => ?_⟩) ?_
    · go_simp
    simp only [Act.put, List.setIfInBounds_toArray, List.set_cons_zero, List.set_cons_succ]
    refine wpAnyH_one (i := 9) (by kernel_rfl) rfl (fun K hK => ?_)
    have HOWA := Lib.hid (HOW.out.alloc (.cells #[.int .i64 0, .int .i64 0, .slice none 0 0] 30))
    have HNE : Hid (∀ q, (Value.slice A0 s.p.length c0).ownBlock = some q → q ≠ u1.heap.size) := Lib.hid fun q e => by have := (World.ownsRow.lt HOW.out q e).2; omega
    go_simp
    have b2 : Below u1.heap.size u1 (u1.alloc (.cells #[.int .i64 0, .int .i64 0, .slice none 0 0] 30)) := (Below.refl _ _).alloc (Nat.le_refl _) _
    have HZ2 := Lib.hid (laid_zero u1)
    have HLO2 : Hid (u1.heap.size < (u1.alloc (.cells #[.int .i64 0, .int .i64 0, .slice none 0 0] 30)).heap.size) := Lib.hid (by simp)
    have HGA := Lib.hid HB1.out.size
    have HB2 := Lib.hid (HB1.out.trans (b2.mono HB1.out.size))
    refine hK.out _ _ HB2.out ?_
    clear hK b2
    try simp only [Act.put, List.setIfInBounds_toArray, List.set_cons_zero, List.set_cons_succ]
    generalize u1.alloc (.cells #[.int .i64 0, .int .i64 0, .slice none 0 0] 30) = u2 at *
    have z0 := RasAtB.c0 HZ2.out
    have z1 := RasAtB.c1 HZ2.out
    have z2 := RasAtB.c2 HZ2.out
    have f0 := RasAtB.free HZ2.out 0
    have f1 := RasAtB.free HZ2.out 1
    have f2 := RasAtB.free HZ2.out 2
    have HE := Lib.hid (laid_store (w := w) HZ2.out HCC.out (HOWA.out.lower HWL.out) HNE.out HGA.out HB2.out)
    refine wpAnyH_one (i := 10) (by kernel_rfl) rfl (fun K hK => ?_)
    go_simp
    refine hK.out _ _ HE.out.2.2.2.2.2 ?_
    clear hK z0 z1 z2 f0 f1 f2
    try simp only [Act.put, List.setIfInBounds_toArray, List.set_cons_zero, List.set_cons_succ]
    refine wpAnyH_one (i := 11) (by kernel_rfl) rfl (fun K hK => ?_)
    go_simp
    refine hK.out _ _ HE.out.2.2.2.2.2 ?_
    clear hK
    refine wpAnyH_done (by kernel_rfl) ?_ _
    exact hq.out _ _ _ _ _ _ _ _ _ _ _ _ _ HE.out
  · go_simp
    have b3 : Below u0.heap.size u0 (u0.alloc (.cells #[.int .i64 0, .int .i64 0, .slice none 0 0] 30)) := (Below.refl _ _).alloc (Nat.le_refl _) _
    have HZ3 := Lib.hid (laid_zero u0)
    have HLO3 : Hid (u0.heap.size < (u0.alloc (.cells #[.int .i64 0, .int .i64 0, .slice none 0 0] 30)).heap.size) := Lib.hid (by simp)
    have HGA := Lib.hid HB0.out.size
    have HB3 := Lib.hid (HB0.out.trans (b3.mono HB0.out.size))
    refine hK.out _ _ HB3.out ?_
    clear hK b3
    try simp only [Act.put, List.setIfInBounds_toArray, List.set_cons_zero, List.set_cons_succ]
    generalize u0.alloc (.cells #[.int .i64 0, .int .i64 0, .slice none 0 0] 30) = u3 at *
    refine wpAnyH_one (i := 5) (by kernel_rfl) rfl (fun K hK => ?_)
    go_simp
    refine (CS.out _ (HRT.out.next HB3.out) (HH.out.carry HB3.out (Nat.le_refl _) HB3.out.size)).mono ?_
    rintro e u4 ⟨A0, c0, rfl, hc0, ho0, b4⟩
    have HCC := Lib.hid hc0
    have HOW := Lib.hid ho0
    have HWL := Lib.hid HB3.out.size
    clear hc0 ho0
    have HLOB := HLO3
    have HB4 := Lib.hid (HB3.out.trans (b4.mono HB3.out.size))
    have HZ4 := Lib.hid (Box.below HZ3.out b4 (Box.lt HZ3.out))
    have HLO4 : Hid (u0.heap.size < u4.heap.size) := Lib.hid (Nat.lt_of_lt_of_le (Box.lt HZ3.out) b4.size)
    refine hK.out _ _ HB4.out ?_
    clear hK b4
    try simp only [Act.put, List.setIfInBounds_toArray, List.set_cons_zero, List.set_cons_succ]
    refine wpAnyH_takeD (i := 6) (d := 65) (v := .tuple #[.agg #[.int .i64 (s.w : Int), .int .i64 (s.h : Int), .slice A0 s.p.length c0], .bool b]) rfl rfl (by kernel_rfl) (by kernel_rfl) (by kernel_rfl) (fun _ _ _ h => hQ _ _ _ _ _ h) HB4.out (Or.inl ⟨by rfl, fun w' hS' => ?_⟩) ?_
    · go_simp
    simp only [Act.put, List.setIfInBounds_toArray, List.set_cons_zero, List.set_cons_succ]
    refine wpAnyH_takeD (i := 7) (d := 72) (v := .agg #[.int .i64 (s.w : Int), .int .i64 (s.h : Int), .slice A0 s.p.length c0]) rfl rfl (by kernel_rfl) (by kernel_rfl) (by kernel_rfl) (fun _ _ _ h => hQ _ _ _ _ _ h) HB4.out (Or.inl ⟨by rfl, fun w' hS' => ?_⟩) ?_
    · go_simp
    simp only [Act.put, List.setIfInBounds_toArray, List.set_cons_zero, List.set_cons_succ]
    refine wpAnyH_takeD (i := 8) (d := 73) (v := .bool b) rfl rfl (by kernel_rfl) (by kernel_rfl) (by kernel_rfl) (fun _ _ _ h => hQ _ _ _ _ _ h) HB4.out (Or.inl ⟨by rfl, fun w' hS' => ?_⟩) ?_
    · go_simp
    simp only [Act.put, List.setIfInBounds_toArray, List.set_cons_zero, List.set_cons_succ]
    have HNE : Hid (∀ q, (Value.slice A0 s.p.length c0).ownBlock = some q → q ≠ u0.heap.size) := Lib.hid fun q e => by have := (World.ownsRow.lt HOW.out q e).1; have := HLOB.out; omega
    have z0 := RasAtB.c0 HZ4.out
    have z1 := RasAtB.c1 HZ4.out
    have z2 := RasAtB.c2 HZ4.out
    have f0 := RasAtB.free HZ4.out 0
    have f1 := RasAtB.free HZ4.out 1
    have f2 := RasAtB.free HZ4.out 2
    have HE := Lib.hid (laid_store (w := w) HZ4.out HCC.out (HOW.out.lower HWL.out) HNE.out HGA.out HB4.out)
    refine wpAnyH_one (i := 10) (by kernel_rfl) rfl (fun K hK => ?_)
    go_simp
    refine hK.out _ _ HE.out.2.2.2.2.2 ?_
    clear hK z0 z1 z2 f0 f1 f2
    try simp only [Act.put, List.setIfInBounds_toArray, List.set_cons_zero, List.set_cons_succ]
    refine wpAnyH_one (i := 11) (by kernel_rfl) rfl (fun K hK => ?_)
    go_simp
    refine hK.out _ _ HE.out.2.2.2.2.2 ?_
    clear hK
    refine wpAnyH_done (by kernel_rfl) ?_ _
    exact hq.out _ _ _ _ _ _ _ _ _ _ _ _ _ HE.out
set_option maxHeartbeats 8000000 in
set_option maxRecDepth 10000 in
theorem opsDoL_r19 {Q : Exit → Act → World → Prop} {x0 x1 x2 x5 x6 x7 x8 x9 x10 x11 x12 z14 z15 x16 x17 x18 x19 x20 x21 x22 x23 x24 x25 x26 x27 x28 x29 x30 x31 x32 x33 x34 x35 x36 x37 x38 x39 x40 x41 x42 x43 x44 x45 x46 x47 x48 x49 x50 x51 x52 x53 x54 x55 x56 x57 x58 x59 x60 x61 x62 x63 x64 x65 x66 x67 x68 x69 x70 x71 x72 x73 x74 x75 x76 x77 x78 x79 z80 z81 z82 z83 z84 z85 z86 z87 x88 x89 x90 x91 x92 x93 x94 x95 x96 x97 x98 x99 x100 x101 x102 x103 x104 x105 x106 x107 x108 x109 x110 x111 x112 x113 x114 x115 x116 x117 x118 x119 x120 x121 x122 x123 x124 x125 x126 x127 : Value} {w : World} (gX bl dl n lc m : Nat) (r : Ra) (A : Option Addr) (c : Nat) (hX : RasAtB w gX r.w r.h A r.p.length c 30) (hh : HasP w w.heap.size A r.p) (hc : r.p.length ≤ c) (hr : r.ok) (hR : RangesIn w) (lt : List Op) (d : Option Ra) (s : Ra) (b : Bool) (hs : d.getD ra0 = s) (hb : d.isSome = b) (hB : opsB lt = true) (hL : opE.Has w w.heap.size (some ⟨bl, dl, none⟩) lt) (hln : lt.length = m) (hd : opsR r lt = d) (hm : m ≤ n) (hn : n ≤ lc)
    (hQ : ∀ (c : List PanicEntry) (a : Act) (k : Nat) (v : Value) (u : World), Q (.panic c) (a.put (some k) v) u → Q (.panic c) a u) (hq : Hid (∀ (g : Nat) (A0 : Option Addr) (c0 : Nat) (y80 y81 y82 y83 y84 y85 y86 y87 : Value) (w' : World), Laid w s g A0 c0 w' → Q .normal { tmps := #[x0, x1, x2, .pointer (some ⟨gX, 0, none⟩), .slice (some ⟨bl, dl, none⟩) n lc, x5, x6, x7, x8, x9, x10, x11, x12, .int .i64 (m : Int), .pointer (some ⟨g, 0, none⟩), .bool b, x16, x17, x18, x19, x20, x21, x22, x23, x24, x25, x26, x27, x28, x29, x30, x31, x32, x33, x34, x35, x36, x37, x38, x39, x40, x41, x42, x43, x44, x45, x46, x47, x48, x49, x50, x51, x52, x53, x54, x55, x56, x57, x58, x59, x60, x61, x62, x63, x64, x65, x66, x67, x68, x69, x70, x71, x72, x73, x74, x75, x76, x77, x78, x79, y80, y81, y82, y83, y84, y85, y86, y87, x88, x89, x90, x91, x92, x93, x94, x95, x96, x97, x98, x99, x100, x101, x102, x103, x104, x105, x106, x107, x108, x109, x110, x111, x112, x113, x114, x115, x116, x117, x118, x119, x120, x121, x122, x123, x124, x125, x126, x127], defers := [] } w')) :
    (Code.region 19 #[{ dst := some 81, op := Go.Op.load 30 (Go.Operand.tmp 3), type := 30, pos := "laws.go:741", after := #[], guard := none }, { dst := some 82, op := Go.Op.move (Go.Operand.tmp 4), type := 34, pos := "laws.go:741", after := #[], guard := none }, { dst := some 83, op := Go.Op.move (Go.Operand.tmp 13), type := 3, pos := "laws.go:741", after := #[], guard := none }, { dst := some 84, op := Go.Op.slice 34 (Go.Operand.tmp 82) none (some (Go.Operand.tmp 83)) none, type := 34, pos := "laws.go:741", after := #[{ on := 1, ground := Go.Ground.data }, { on := 2, ground := Go.Ground.data }], guard := none }, { dst := some 85, op := Go.Op.call { callee := Go.Callee.value (Go.Operand.func 15), args := #[Go.Operand.tmp 81, Go.Operand.tmp 84], argTypes := #[30, 34] }, type := 31, pos := "laws.go:741", after := #[{ on := 0, ground := Go.Ground.data }, { on := 3, ground := Go.Ground.data }], guard := none }, { dst := some 80, op := Go.Op.move (Go.Operand.tmp 85), type := 31, pos := "laws.go:741", after := #[{ on := 4, ground := Go.Ground.data }], guard := none }, { dst := some 86, op := Go.Op.extract (Go.Operand.tmp 80) 0, type := 30, pos := "laws.go:741", after := #[{ on := 5, ground := Go.Ground.data }], guard := none }, { dst := some 87, op := Go.Op.extract (Go.Operand.tmp 80) 1, type := 4, pos := "laws.go:741", after := #[{ on := 5, ground := Go.Ground.data }, { on := 9, ground := Go.Ground.gcOnly Go.Departure.lateStores }], guard := none }, { dst := some 14, op := Go.Op.alloc 30, type := 0, pos := "laws.go:741", after := #[], guard := none }, { dst := none, op := Go.Op.store 30 (Go.Operand.tmp 14) (Go.Operand.tmp 86), type := 0, pos := "laws.go:741", after := #[{ on := 8, ground := Go.Ground.data }, { on := 6, ground := Go.Ground.data }, { on := 4, ground := Go.Ground.chain }, { on := 0, ground := Go.Ground.phase }, { on := 1, ground := Go.Ground.phase }, { on := 2, ground := Go.Ground.phase }, { on := 3, ground := Go.Ground.phase }, { on := 4, ground := Go.Ground.phase }, { on := 5, ground := Go.Ground.phase }, { on := 6, ground := Go.Ground.phase }, { on := 7, ground := Go.Ground.textOnly Go.Departure.lateStores }, { on := 8, ground := Go.Ground.phase }], guard := none }, { dst := some 15, op := Go.Op.assign (Go.Operand.tmp 87), type := 4, pos := "laws.go:741", after := #[{ on := 7, ground := Go.Ground.data }, { on := 9, ground := Go.Ground.chain }, { on := 0, ground := Go.Ground.phase }, { on := 1, ground := Go.Ground.phase }, { on := 2, ground := Go.Ground.phase }, { on := 3, ground := Go.Ground.phase }, { on := 4, ground := Go.Ground.phase }, { on := 5, ground := Go.Ground.phase }, { on := 6, ground := Go.Ground.phase }, { on := 7, ground := Go.Ground.phase }, { on := 8, ground := Go.Ground.phase }, { on := 9, ground := Go.Ground.phase }], guard := none }] true).wp Tryd.prog Q { tmps := #[x0, x1, x2, .pointer (some ⟨gX, 0, none⟩), .slice (some ⟨bl, dl, none⟩) n lc, x5, x6, x7, x8, x9, x10, x11, x12, .int .i64 (m : Int), z14, z15, x16, x17, x18, x19, x20, x21, x22, x23, x24, x25, x26, x27, x28, x29, x30, x31, x32, x33, x34, x35, x36, x37, x38, x39, x40, x41, x42, x43, x44, x45, x46, x47, x48, x49, x50, x51, x52, x53, x54, x55, x56, x57, x58, x59, x60, x61, x62, x63, x64, x65, x66, x67, x68, x69, x70, x71, x72, x73, x74, x75, x76, x77, x78, x79, z80, z81, z82, z83, z84, z85, z86, z87, x88, x89, x90, x91, x92, x93, x94, x95, x96, x97, x98, x99, x100, x101, x102, x103, x104, x105, x106, x107, x108, x109, x110, x111, x112, x113, x114, x115, x116, x117, x118, x119, x120, x121, x122, x123, x124, x125, x126, x127], defers := [] } w := by
  have hl5 : lt.length ≤ 5 := by
    unfold opsB at hB
    exact of_decide_eq_true (Bool.and_eq_true_iff.1 hB).2
  have h36 := ra_len hr
  have CS : Hid (∀ u : World, RangesIn u → HasP u u.heap.size A r.p → opE.Has u u.heap.size (some ⟨bl, dl, none⟩) lt → Calls Tryd.prog 15 #[.agg #[.int .i64 (r.w : Int), .int .i64 (r.h : Int), .slice A r.p.length c], .slice (some ⟨bl, dl, none⟩) m lc] u (fun e w' => ∃ A0 c0, e = .returned (.tuple #[.agg #[.int .i64 (s.w : Int), .int .i64 (s.h : Int), .slice A0 s.p.length c0], .bool b]) ∧ s.p.length ≤ c0 ∧ OwnP w' u.heap.size (.slice A0 s.p.length c0) s.p ∧ Below u.heap.size u w')) := Lib.hid fun u hu hh hl => by
    have := implOpsDo_any r.w r.h A c r.p (some ⟨bl, dl, none⟩) (lc) lt u hu (by omega) (by omega) hc hh hl
    rw [puts_ok hr hB, hd] at this
    unfold Did at this
    rw [hs, hb, hln] at this
    exact this
  have HX := Lib.hid hX
  have HH := Lib.hid hh
  have HRT := Lib.hid hR
  have HL := Lib.hid hL
  have hp1 : (0 : Int) ≤ (m : Int) ∧ (m : Int) ≤ (n : Int) ∧ (n : Int) ≤ (lc : Int) := by omega
  have hp2 : m ≤ lc := by omega
  clear hX hh hc hr hL hd hs hb hR hB hl5 h36 hln
  refine wp_region_held_drew (S := fun v => Below w.heap.size w v) (by kernel_rfl) (below_draws (Below.refl _ _) 1) fun _ => ?_
  have HB0 : Hid (Below w.heap.size w w.drew) := Lib.hid (below_draws (Below.refl _ _) 1)
  generalize w.drew = u0 at *
  refine wpAnyH_takeD (i := 0) (d := 81) (v := (.agg #[.int .i64 (r.w : Int), .int .i64 (r.h : Int), .slice A r.p.length c])) rfl rfl (by kernel_rfl) (by kernel_rfl) (by kernel_rfl) (fun _ _ _ h => hQ _ _ _ _ _ h) HB0.out (Or.inl ⟨by rfl, fun w' hS' => ?_⟩) ?_
  · have t := Box.below HX.out hS' (Box.lt HX.out)
    have t0 := RasAtB.c0 t
    have t1 := RasAtB.c1 t
    have t2 := RasAtB.c2 t
    go_simp
  simp only [Act.put, List.setIfInBounds_toArray, List.set_cons_zero, List.set_cons_succ]
  refine wpAnyH_takeD (i := 1) (d := 82) (v := .slice (some ⟨bl, dl, none⟩) n lc) rfl rfl (by kernel_rfl) (by kernel_rfl) (by kernel_rfl) (fun _ _ _ h => hQ _ _ _ _ _ h) HB0.out (Or.inl ⟨by rfl, fun w' hS' => ?_⟩) ?_
  · go_simp
  simp only [Act.put, List.setIfInBounds_toArray, List.set_cons_zero, List.set_cons_succ]
  refine wpAnyH_takeD (i := 2) (d := 83) (v := .int .i64 (m : Int)) rfl rfl (by kernel_rfl) (by kernel_rfl) (by kernel_rfl) (fun _ _ _ h => hQ _ _ _ _ _ h) HB0.out (Or.inl ⟨by rfl, fun w' hS' => ?_⟩) ?_
  · go_simp
  simp only [Act.put, List.setIfInBounds_toArray, List.set_cons_zero, List.set_cons_succ]
  refine wpAnyH_takeD (i := 3) (d := 84) (v := .slice (some ⟨bl, dl, none⟩) m lc) rfl rfl (by kernel_rfl) (by kernel_rfl) (by kernel_rfl) (fun _ _ _ h => hQ _ _ _ _ _ h) HB0.out (Or.inl ⟨by rfl, fun w' hS' => ?_⟩) ?_
  · go_simp
  simp only [Act.put, List.setIfInBounds_toArray, List.set_cons_zero, List.set_cons_succ]
  refine wpAnyH_two (i := 4) (j := 8) (by kernel_rfl) rfl rfl (fun K hK => ?_) (fun K hK => ?_)
  · go_simp
    refine (CS.out _ (HRT.out.next HB0.out) (HH.out.carry HB0.out (Nat.le_refl _) HB0.out.size) (HL.out.carry HB0.out (Nat.le_refl _) HB0.out.size)).mono ?_
    rintro e u1 ⟨A0, c0, rfl, hc0, ho0, b1⟩
    have HCC := Lib.hid hc0
    have HOW := Lib.hid ho0
    have HWL := Lib.hid HB0.out.size
    clear hc0 ho0
    have HB1 := Lib.hid (HB0.out.trans (b1.mono HB0.out.size))
    refine hK.out _ _ HB1.out ?_
    clear hK b1
    try simp only [Act.put, List.setIfInBounds_toArray, List.set_cons_zero, List.set_cons_succ]
    refine wpAnyH_takeD (i := 5) (d := 80) (v := .tuple #[.agg #[.int .i64 (s.w : Int), .int .i64 (s.h : Int), .slice A0 s.p.length c0], .bool b]) rfl rfl (by kernel_rfl) (by kernel_rfl) (by kernel_rfl) (fun _ _ _ h => hQ _ _ _ _ _ h) HB1.out (Or.inl ⟨by rfl, fun w' hS' => ?_⟩) ?_
    · go_simp
    simp only [Act.put, List.setIfInBounds_toArray, List.set_cons_zero, List.set_cons_succ]
    refine wpAnyH_takeD (i := 6) (d := 86) (v := .agg #[.int .i64 (s.w : Int), .int .i64 (s.h : Int), .slice A0 s.p.length c0]) rfl rfl (by kernel_rfl) (by kernel_rfl) (by kernel_rfl) (fun _ _ _ h => hQ _ _ _ _ _ h) HB1.out (Or.inl ⟨by rfl, fun w' hS' => ?_⟩) ?_
    · go_simp
    simp only [Act.put, List.setIfInBounds_toArray, List.set_cons_zero, List.set_cons_succ]
    refine wpAnyH_takeD (i := 7) (d := 87) (v := .bool b) rfl rfl (by kernel_rfl) (by kernel_rfl) (by kernel_rfl) (fun _ _ _ h => hQ _ _ _ _ _ h) HB1.out (Or.inl ⟨by rfl, fun w' hS' => ?_⟩) ?_
    · go_simp
    simp only [Act.put, List.setIfInBounds_toArray, List.set_cons_zero, List.set_cons_succ]
    refine wpAnyH_one (i := 8) (by kernel_rfl) rfl (fun K hK => ?_)
    have HOWA := Lib.hid (HOW.out.alloc (.cells #[.int .i64 0, .int .i64 0, .slice none 0 0] 30))
    have HNE : Hid (∀ q, (Value.slice A0 s.p.length c0).ownBlock = some q → q ≠ u1.heap.size) := Lib.hid fun q e => by have := (World.ownsRow.lt HOW.out q e).2; omega
    go_simp
    have b2 : Below u1.heap.size u1 (u1.alloc (.cells #[.int .i64 0, .int .i64 0, .slice none 0 0] 30)) := (Below.refl _ _).alloc (Nat.le_refl _) _
    have HZ2 := Lib.hid (laid_zero u1)
    have HLO2 : Hid (u1.heap.size < (u1.alloc (.cells #[.int .i64 0, .int .i64 0, .slice none 0 0] 30)).heap.size) := Lib.hid (by simp)
    have HGA := Lib.hid HB1.out.size
    have HB2 := Lib.hid (HB1.out.trans (b2.mono HB1.out.size))
    refine hK.out _ _ HB2.out ?_
    clear hK b2
    try simp only [Act.put, List.setIfInBounds_toArray, List.set_cons_zero, List.set_cons_succ]
    generalize u1.alloc (.cells #[.int .i64 0, .int .i64 0, .slice none 0 0] 30) = u2 at *
    have z0 := RasAtB.c0 HZ2.out
    have z1 := RasAtB.c1 HZ2.out
    have z2 := RasAtB.c2 HZ2.out
    have f0 := RasAtB.free HZ2.out 0
    have f1 := RasAtB.free HZ2.out 1
    have f2 := RasAtB.free HZ2.out 2
    have HE := Lib.hid (laid_store (w := w) HZ2.out HCC.out (HOWA.out.lower HWL.out) HNE.out HGA.out HB2.out)
    refine wpAnyH_one (i := 9) (by kernel_rfl) rfl (fun K hK => ?_)
    go_simp
    refine hK.out _ _ HE.out.2.2.2.2.2 ?_
    clear hK z0 z1 z2 f0 f1 f2
    try simp only [Act.put, List.setIfInBounds_toArray, List.set_cons_zero, List.set_cons_succ]
    refine wpAnyH_one (i := 10) (by kernel_rfl) rfl (fun K hK => ?_)
    go_simp
    refine hK.out _ _ HE.out.2.2.2.2.2 ?_
    clear hK
    refine wpAnyH_done (by kernel_rfl) ?_ _
    exact hq.out _ _ _ _ _ _ _ _ _ _ _ _ HE.out
  · go_simp
    have b3 : Below u0.heap.size u0 (u0.alloc (.cells #[.int .i64 0, .int .i64 0, .slice none 0 0] 30)) := (Below.refl _ _).alloc (Nat.le_refl _) _
    have HZ3 := Lib.hid (laid_zero u0)
    have HLO3 : Hid (u0.heap.size < (u0.alloc (.cells #[.int .i64 0, .int .i64 0, .slice none 0 0] 30)).heap.size) := Lib.hid (by simp)
    have HGA := Lib.hid HB0.out.size
    have HB3 := Lib.hid (HB0.out.trans (b3.mono HB0.out.size))
    refine hK.out _ _ HB3.out ?_
    clear hK b3
    try simp only [Act.put, List.setIfInBounds_toArray, List.set_cons_zero, List.set_cons_succ]
    generalize u0.alloc (.cells #[.int .i64 0, .int .i64 0, .slice none 0 0] 30) = u3 at *
    refine wpAnyH_one (i := 4) (by kernel_rfl) rfl (fun K hK => ?_)
    go_simp
    refine (CS.out _ (HRT.out.next HB3.out) (HH.out.carry HB3.out (Nat.le_refl _) HB3.out.size) (HL.out.carry HB3.out (Nat.le_refl _) HB3.out.size)).mono ?_
    rintro e u4 ⟨A0, c0, rfl, hc0, ho0, b4⟩
    have HCC := Lib.hid hc0
    have HOW := Lib.hid ho0
    have HWL := Lib.hid HB3.out.size
    clear hc0 ho0
    have HLOB := HLO3
    have HB4 := Lib.hid (HB3.out.trans (b4.mono HB3.out.size))
    have HZ4 := Lib.hid (Box.below HZ3.out b4 (Box.lt HZ3.out))
    have HLO4 : Hid (u0.heap.size < u4.heap.size) := Lib.hid (Nat.lt_of_lt_of_le (Box.lt HZ3.out) b4.size)
    refine hK.out _ _ HB4.out ?_
    clear hK b4
    try simp only [Act.put, List.setIfInBounds_toArray, List.set_cons_zero, List.set_cons_succ]
    refine wpAnyH_takeD (i := 5) (d := 80) (v := .tuple #[.agg #[.int .i64 (s.w : Int), .int .i64 (s.h : Int), .slice A0 s.p.length c0], .bool b]) rfl rfl (by kernel_rfl) (by kernel_rfl) (by kernel_rfl) (fun _ _ _ h => hQ _ _ _ _ _ h) HB4.out (Or.inl ⟨by rfl, fun w' hS' => ?_⟩) ?_
    · go_simp
    simp only [Act.put, List.setIfInBounds_toArray, List.set_cons_zero, List.set_cons_succ]
    refine wpAnyH_takeD (i := 6) (d := 86) (v := .agg #[.int .i64 (s.w : Int), .int .i64 (s.h : Int), .slice A0 s.p.length c0]) rfl rfl (by kernel_rfl) (by kernel_rfl) (by kernel_rfl) (fun _ _ _ h => hQ _ _ _ _ _ h) HB4.out (Or.inl ⟨by rfl, fun w' hS' => ?_⟩) ?_
    · go_simp
    simp only [Act.put, List.setIfInBounds_toArray, List.set_cons_zero, List.set_cons_succ]
    refine wpAnyH_takeD (i := 7) (d := 87) (v := .bool b) rfl rfl (by kernel_rfl) (by kernel_rfl) (by kernel_rfl) (fun _ _ _ h => hQ _ _ _ _ _ h) HB4.out (Or.inl ⟨by rfl, fun w' hS' => ?_⟩) ?_
    · go_simp
    simp only [Act.put, List.setIfInBounds_toArray, List.set_cons_zero, List.set_cons_succ]
    have HNE : Hid (∀ q, (Value.slice A0 s.p.length c0).ownBlock = some q → q ≠ u0.heap.size) := Lib.hid fun q e => by have := (World.ownsRow.lt HOW.out q e).1; have := HLOB.out; omega
    have z0 := RasAtB.c0 HZ4.out
    have z1 := RasAtB.c1 HZ4.out
    have z2 := RasAtB.c2 HZ4.out
    have f0 := RasAtB.free HZ4.out 0
    have f1 := RasAtB.free HZ4.out 1
    have f2 := RasAtB.free HZ4.out 2
    have HE := Lib.hid (laid_store (w := w) HZ4.out HCC.out (HOW.out.lower HWL.out) HNE.out HGA.out HB4.out)
    refine wpAnyH_one (i := 9) (by kernel_rfl) rfl (fun K hK => ?_)
    go_simp
    refine hK.out _ _ HE.out.2.2.2.2.2 ?_
    clear hK z0 z1 z2 f0 f1 f2
    try simp only [Act.put, List.setIfInBounds_toArray, List.set_cons_zero, List.set_cons_succ]
    refine wpAnyH_one (i := 10) (by kernel_rfl) rfl (fun K hK => ?_)
    go_simp
    refine hK.out _ _ HE.out.2.2.2.2.2 ?_
    clear hK
    refine wpAnyH_done (by kernel_rfl) ?_ _
    exact hq.out _ _ _ _ _ _ _ _ _ _ _ _ HE.out
set_option maxHeartbeats 8000000 in
set_option maxRecDepth 10000 in
theorem opsDoL_r20 {Q : Exit → Act → World → Prop} {x0 x1 x2 x3 x5 x6 x7 x8 x9 x10 x11 x12 x15 z16 z17 x18 x19 x20 x21 x22 x23 x24 x25 x26 x27 x28 x29 x30 x31 x32 x33 x34 x35 x36 x37 x38 x39 x40 x41 x42 x43 x44 x45 x46 x47 x48 x49 x50 x51 x52 x53 x54 x55 x56 x57 x58 x59 x60 x61 x62 x63 x64 x65 x66 x67 x68 x69 x70 x71 x72 x73 x74 x75 x76 x77 x78 x79 x80 x81 x82 x83 x84 x85 x86 x87 z88 z89 z90 z91 z92 z93 z94 z95 x96 x97 x98 x99 x100 x101 x102 x103 x104 x105 x106 x107 x108 x109 x110 x111 x112 x113 x114 x115 x116 x117 x118 x119 x120 x121 x122 x123 x124 x125 x126 x127 : Value} {w : World} (gX bl dl n lc m : Nat) (r : Ra) (A : Option Addr) (c : Nat) (hX : RasAtB w gX r.w r.h A r.p.length c 30) (hh : HasP w w.heap.size A r.p) (hc : r.p.length ≤ c) (hr : r.ok) (hR : RangesIn w) (lt : List Op) (d : Option Ra) (s : Ra) (b : Bool) (hs : d.getD ra0 = s) (hb : d.isSome = b) (hB : opsB lt = true) (hL : opE.Has w w.heap.size (some ⟨bl, dl + m * 5, none⟩) lt) (hln : lt.length = n - m) (hd : opsR r lt = d) (hm : m ≤ n) (hn : n ≤ lc) (hlm : ¬ lc = m)
    (hQ : ∀ (c : List PanicEntry) (a : Act) (k : Nat) (v : Value) (u : World), Q (.panic c) (a.put (some k) v) u → Q (.panic c) a u) (hq : Hid (∀ (g : Nat) (A0 : Option Addr) (c0 : Nat) (y88 y89 y90 y91 y92 y93 y94 y95 : Value) (w' : World), Laid w s g A0 c0 w' → Q .normal { tmps := #[x0, x1, x2, x3, .slice (some ⟨bl, dl, none⟩) n lc, x5, x6, x7, x8, x9, x10, x11, x12, .int .i64 (m : Int), .pointer (some ⟨gX, 0, none⟩), x15, .pointer (some ⟨g, 0, none⟩), .bool b, x18, x19, x20, x21, x22, x23, x24, x25, x26, x27, x28, x29, x30, x31, x32, x33, x34, x35, x36, x37, x38, x39, x40, x41, x42, x43, x44, x45, x46, x47, x48, x49, x50, x51, x52, x53, x54, x55, x56, x57, x58, x59, x60, x61, x62, x63, x64, x65, x66, x67, x68, x69, x70, x71, x72, x73, x74, x75, x76, x77, x78, x79, x80, x81, x82, x83, x84, x85, x86, x87, y88, y89, y90, y91, y92, y93, y94, y95, x96, x97, x98, x99, x100, x101, x102, x103, x104, x105, x106, x107, x108, x109, x110, x111, x112, x113, x114, x115, x116, x117, x118, x119, x120, x121, x122, x123, x124, x125, x126, x127], defers := [] } w')) :
    (Code.region 20 #[{ dst := some 89, op := Go.Op.load 30 (Go.Operand.tmp 14), type := 30, pos := "laws.go:742", after := #[], guard := none }, { dst := some 90, op := Go.Op.move (Go.Operand.tmp 4), type := 34, pos := "laws.go:742", after := #[], guard := none }, { dst := some 91, op := Go.Op.move (Go.Operand.tmp 13), type := 3, pos := "laws.go:742", after := #[], guard := none }, { dst := some 92, op := Go.Op.slice 34 (Go.Operand.tmp 90) (some (Go.Operand.tmp 91)) none none, type := 34, pos := "laws.go:742", after := #[{ on := 1, ground := Go.Ground.data }, { on := 2, ground := Go.Ground.data }], guard := none }, { dst := some 93, op := Go.Op.call { callee := Go.Callee.value (Go.Operand.func 15), args := #[Go.Operand.tmp 89, Go.Operand.tmp 92], argTypes := #[30, 34] }, type := 31, pos := "laws.go:742", after := #[{ on := 0, ground := Go.Ground.data }, { on := 3, ground := Go.Ground.data }], guard := none }, { dst := some 88, op := Go.Op.move (Go.Operand.tmp 93), type := 31, pos := "laws.go:742", after := #[{ on := 4, ground := Go.Ground.data }], guard := none }, { dst := some 94, op := Go.Op.extract (Go.Operand.tmp 88) 0, type := 30, pos := "laws.go:742", after := #[{ on := 5, ground := Go.Ground.data }], guard := none }, { dst := some 95, op := Go.Op.extract (Go.Operand.tmp 88) 1, type := 4, pos := "laws.go:742", after := #[{ on := 5, ground := Go.Ground.data }, { on := 9, ground := Go.Ground.gcOnly Go.Departure.lateStores }], guard := none }, { dst := some 16, op := Go.Op.alloc 30, type := 0, pos := "laws.go:742", after := #[], guard := none }, { dst := none, op := Go.Op.store 30 (Go.Operand.tmp 16) (Go.Operand.tmp 94), type := 0, pos := "laws.go:742", after := #[{ on := 8, ground := Go.Ground.data }, { on := 6, ground := Go.Ground.data }, { on := 4, ground := Go.Ground.chain }, { on := 0, ground := Go.Ground.phase }, { on := 1, ground := Go.Ground.phase }, { on := 2, ground := Go.Ground.phase }, { on := 3, ground := Go.Ground.phase }, { on := 4, ground := Go.Ground.phase }, { on := 5, ground := Go.Ground.phase }, { on := 6, ground := Go.Ground.phase }, { on := 7, ground := Go.Ground.textOnly Go.Departure.lateStores }, { on := 8, ground := Go.Ground.phase }], guard := none }, { dst := some 17, op := Go.Op.assign (Go.Operand.tmp 95), type := 4, pos := "laws.go:742", after := #[{ on := 7, ground := Go.Ground.data }, { on := 9, ground := Go.Ground.chain }, { on := 0, ground := Go.Ground.phase }, { on := 1, ground := Go.Ground.phase }, { on := 2, ground := Go.Ground.phase }, { on := 3, ground := Go.Ground.phase }, { on := 4, ground := Go.Ground.phase }, { on := 5, ground := Go.Ground.phase }, { on := 6, ground := Go.Ground.phase }, { on := 7, ground := Go.Ground.phase }, { on := 8, ground := Go.Ground.phase }, { on := 9, ground := Go.Ground.phase }], guard := none }] true).wp Tryd.prog Q { tmps := #[x0, x1, x2, x3, .slice (some ⟨bl, dl, none⟩) n lc, x5, x6, x7, x8, x9, x10, x11, x12, .int .i64 (m : Int), .pointer (some ⟨gX, 0, none⟩), x15, z16, z17, x18, x19, x20, x21, x22, x23, x24, x25, x26, x27, x28, x29, x30, x31, x32, x33, x34, x35, x36, x37, x38, x39, x40, x41, x42, x43, x44, x45, x46, x47, x48, x49, x50, x51, x52, x53, x54, x55, x56, x57, x58, x59, x60, x61, x62, x63, x64, x65, x66, x67, x68, x69, x70, x71, x72, x73, x74, x75, x76, x77, x78, x79, x80, x81, x82, x83, x84, x85, x86, x87, z88, z89, z90, z91, z92, z93, z94, z95, x96, x97, x98, x99, x100, x101, x102, x103, x104, x105, x106, x107, x108, x109, x110, x111, x112, x113, x114, x115, x116, x117, x118, x119, x120, x121, x122, x123, x124, x125, x126, x127], defers := [] } w := by
  have hl5 : lt.length ≤ 5 := by
    unfold opsB at hB
    exact of_decide_eq_true (Bool.and_eq_true_iff.1 hB).2
  have h36 := ra_len hr
  have CS : Hid (∀ u : World, RangesIn u → HasP u u.heap.size A r.p → opE.Has u u.heap.size (some ⟨bl, dl + m * 5, none⟩) lt → Calls Tryd.prog 15 #[.agg #[.int .i64 (r.w : Int), .int .i64 (r.h : Int), .slice A r.p.length c], .slice (some ⟨bl, dl + m * 5, none⟩) (n - m) (lc - m)] u (fun e w' => ∃ A0 c0, e = .returned (.tuple #[.agg #[.int .i64 (s.w : Int), .int .i64 (s.h : Int), .slice A0 s.p.length c0], .bool b]) ∧ s.p.length ≤ c0 ∧ OwnP w' u.heap.size (.slice A0 s.p.length c0) s.p ∧ Below u.heap.size u w')) := Lib.hid fun u hu hh hl => by
    have := implOpsDo_any r.w r.h A c r.p (some ⟨bl, dl + m * 5, none⟩) (lc - m) lt u hu (by omega) (by omega) hc hh hl
    rw [puts_ok hr hB, hd] at this
    unfold Did at this
    rw [hs, hb, hln] at this
    exact this
  have HX := Lib.hid hX
  have HH := Lib.hid hh
  have HRT := Lib.hid hR
  have HL := Lib.hid hL
  have hp1 : (0 : Int) ≤ (m : Int) ∧ (m : Int) ≤ (n : Int) ∧ (n : Int) ≤ (lc : Int) := by omega
  have hp2 : m ≤ lc := by omega
  clear hX hh hc hr hL hd hs hb hR hB hl5 h36 hln
  refine wp_region_held_drew (S := fun v => Below w.heap.size w v) (by kernel_rfl) (below_draws (Below.refl _ _) 1) fun _ => ?_
  have HB0 : Hid (Below w.heap.size w w.drew) := Lib.hid (below_draws (Below.refl _ _) 1)
  generalize w.drew = u0 at *
  refine wpAnyH_takeD (i := 0) (d := 89) (v := (.agg #[.int .i64 (r.w : Int), .int .i64 (r.h : Int), .slice A r.p.length c])) rfl rfl (by kernel_rfl) (by kernel_rfl) (by kernel_rfl) (fun _ _ _ h => hQ _ _ _ _ _ h) HB0.out (Or.inl ⟨by rfl, fun w' hS' => ?_⟩) ?_
  · have t := Box.below HX.out hS' (Box.lt HX.out)
    have t0 := RasAtB.c0 t
    have t1 := RasAtB.c1 t
    have t2 := RasAtB.c2 t
    go_simp
  simp only [Act.put, List.setIfInBounds_toArray, List.set_cons_zero, List.set_cons_succ]
  refine wpAnyH_takeD (i := 1) (d := 90) (v := .slice (some ⟨bl, dl, none⟩) n lc) rfl rfl (by kernel_rfl) (by kernel_rfl) (by kernel_rfl) (fun _ _ _ h => hQ _ _ _ _ _ h) HB0.out (Or.inl ⟨by rfl, fun w' hS' => ?_⟩) ?_
  · go_simp
  simp only [Act.put, List.setIfInBounds_toArray, List.set_cons_zero, List.set_cons_succ]
  refine wpAnyH_takeD (i := 2) (d := 91) (v := .int .i64 (m : Int)) rfl rfl (by kernel_rfl) (by kernel_rfl) (by kernel_rfl) (fun _ _ _ h => hQ _ _ _ _ _ h) HB0.out (Or.inl ⟨by rfl, fun w' hS' => ?_⟩) ?_
  · go_simp
  simp only [Act.put, List.setIfInBounds_toArray, List.set_cons_zero, List.set_cons_succ]
  refine wpAnyH_takeD (i := 3) (d := 92) (v := .slice (some ⟨bl, dl + m * 5, none⟩) (n - m) (lc - m)) rfl rfl (by kernel_rfl) (by kernel_rfl) (by kernel_rfl) (fun _ _ _ h => hQ _ _ _ _ _ h) HB0.out (Or.inl ⟨by rfl, fun w' hS' => ?_⟩) ?_
  · go_simp
  simp only [Act.put, List.setIfInBounds_toArray, List.set_cons_zero, List.set_cons_succ]
  refine wpAnyH_two (i := 4) (j := 8) (by kernel_rfl) rfl rfl (fun K hK => ?_) (fun K hK => ?_)
  · go_simp
    refine (CS.out _ (HRT.out.next HB0.out) (HH.out.carry HB0.out (Nat.le_refl _) HB0.out.size) (HL.out.carry HB0.out (Nat.le_refl _) HB0.out.size)).mono ?_
    rintro e u1 ⟨A0, c0, rfl, hc0, ho0, b1⟩
    have HCC := Lib.hid hc0
    have HOW := Lib.hid ho0
    have HWL := Lib.hid HB0.out.size
    clear hc0 ho0
    have HB1 := Lib.hid (HB0.out.trans (b1.mono HB0.out.size))
    refine hK.out _ _ HB1.out ?_
    clear hK b1
    try simp only [Act.put, List.setIfInBounds_toArray, List.set_cons_zero, List.set_cons_succ]
    refine wpAnyH_takeD (i := 5) (d := 88) (v := .tuple #[.agg #[.int .i64 (s.w : Int), .int .i64 (s.h : Int), .slice A0 s.p.length c0], .bool b]) rfl rfl (by kernel_rfl) (by kernel_rfl) (by kernel_rfl) (fun _ _ _ h => hQ _ _ _ _ _ h) HB1.out (Or.inl ⟨by rfl, fun w' hS' => ?_⟩) ?_
    · go_simp
    simp only [Act.put, List.setIfInBounds_toArray, List.set_cons_zero, List.set_cons_succ]
    refine wpAnyH_takeD (i := 6) (d := 94) (v := .agg #[.int .i64 (s.w : Int), .int .i64 (s.h : Int), .slice A0 s.p.length c0]) rfl rfl (by kernel_rfl) (by kernel_rfl) (by kernel_rfl) (fun _ _ _ h => hQ _ _ _ _ _ h) HB1.out (Or.inl ⟨by rfl, fun w' hS' => ?_⟩) ?_
    · go_simp
    simp only [Act.put, List.setIfInBounds_toArray, List.set_cons_zero, List.set_cons_succ]
    refine wpAnyH_takeD (i := 7) (d := 95) (v := .bool b) rfl rfl (by kernel_rfl) (by kernel_rfl) (by kernel_rfl) (fun _ _ _ h => hQ _ _ _ _ _ h) HB1.out (Or.inl ⟨by rfl, fun w' hS' => ?_⟩) ?_
    · go_simp
    simp only [Act.put, List.setIfInBounds_toArray, List.set_cons_zero, List.set_cons_succ]
    refine wpAnyH_one (i := 8) (by kernel_rfl) rfl (fun K hK => ?_)
    have HOWA := Lib.hid (HOW.out.alloc (.cells #[.int .i64 0, .int .i64 0, .slice none 0 0] 30))
    have HNE : Hid (∀ q, (Value.slice A0 s.p.length c0).ownBlock = some q → q ≠ u1.heap.size) := Lib.hid fun q e => by have := (World.ownsRow.lt HOW.out q e).2; omega
    go_simp
    have b2 : Below u1.heap.size u1 (u1.alloc (.cells #[.int .i64 0, .int .i64 0, .slice none 0 0] 30)) := (Below.refl _ _).alloc (Nat.le_refl _) _
    have HZ2 := Lib.hid (laid_zero u1)
    have HLO2 : Hid (u1.heap.size < (u1.alloc (.cells #[.int .i64 0, .int .i64 0, .slice none 0 0] 30)).heap.size) := Lib.hid (by simp)
    have HGA := Lib.hid HB1.out.size
    have HB2 := Lib.hid (HB1.out.trans (b2.mono HB1.out.size))
    refine hK.out _ _ HB2.out ?_
    clear hK b2
    try simp only [Act.put, List.setIfInBounds_toArray, List.set_cons_zero, List.set_cons_succ]
    generalize u1.alloc (.cells #[.int .i64 0, .int .i64 0, .slice none 0 0] 30) = u2 at *
    have z0 := RasAtB.c0 HZ2.out
    have z1 := RasAtB.c1 HZ2.out
    have z2 := RasAtB.c2 HZ2.out
    have f0 := RasAtB.free HZ2.out 0
    have f1 := RasAtB.free HZ2.out 1
    have f2 := RasAtB.free HZ2.out 2
    have HE := Lib.hid (laid_store (w := w) HZ2.out HCC.out (HOWA.out.lower HWL.out) HNE.out HGA.out HB2.out)
    refine wpAnyH_one (i := 9) (by kernel_rfl) rfl (fun K hK => ?_)
    go_simp
    refine hK.out _ _ HE.out.2.2.2.2.2 ?_
    clear hK z0 z1 z2 f0 f1 f2
    try simp only [Act.put, List.setIfInBounds_toArray, List.set_cons_zero, List.set_cons_succ]
    refine wpAnyH_one (i := 10) (by kernel_rfl) rfl (fun K hK => ?_)
    go_simp
    refine hK.out _ _ HE.out.2.2.2.2.2 ?_
    clear hK
    refine wpAnyH_done (by kernel_rfl) ?_ _
    exact hq.out _ _ _ _ _ _ _ _ _ _ _ _ HE.out
  · go_simp
    have b3 : Below u0.heap.size u0 (u0.alloc (.cells #[.int .i64 0, .int .i64 0, .slice none 0 0] 30)) := (Below.refl _ _).alloc (Nat.le_refl _) _
    have HZ3 := Lib.hid (laid_zero u0)
    have HLO3 : Hid (u0.heap.size < (u0.alloc (.cells #[.int .i64 0, .int .i64 0, .slice none 0 0] 30)).heap.size) := Lib.hid (by simp)
    have HGA := Lib.hid HB0.out.size
    have HB3 := Lib.hid (HB0.out.trans (b3.mono HB0.out.size))
    refine hK.out _ _ HB3.out ?_
    clear hK b3
    try simp only [Act.put, List.setIfInBounds_toArray, List.set_cons_zero, List.set_cons_succ]
    generalize u0.alloc (.cells #[.int .i64 0, .int .i64 0, .slice none 0 0] 30) = u3 at *
    refine wpAnyH_one (i := 4) (by kernel_rfl) rfl (fun K hK => ?_)
    go_simp
    refine (CS.out _ (HRT.out.next HB3.out) (HH.out.carry HB3.out (Nat.le_refl _) HB3.out.size) (HL.out.carry HB3.out (Nat.le_refl _) HB3.out.size)).mono ?_
    rintro e u4 ⟨A0, c0, rfl, hc0, ho0, b4⟩
    have HCC := Lib.hid hc0
    have HOW := Lib.hid ho0
    have HWL := Lib.hid HB3.out.size
    clear hc0 ho0
    have HLOB := HLO3
    have HB4 := Lib.hid (HB3.out.trans (b4.mono HB3.out.size))
    have HZ4 := Lib.hid (Box.below HZ3.out b4 (Box.lt HZ3.out))
    have HLO4 : Hid (u0.heap.size < u4.heap.size) := Lib.hid (Nat.lt_of_lt_of_le (Box.lt HZ3.out) b4.size)
    refine hK.out _ _ HB4.out ?_
    clear hK b4
    try simp only [Act.put, List.setIfInBounds_toArray, List.set_cons_zero, List.set_cons_succ]
    refine wpAnyH_takeD (i := 5) (d := 88) (v := .tuple #[.agg #[.int .i64 (s.w : Int), .int .i64 (s.h : Int), .slice A0 s.p.length c0], .bool b]) rfl rfl (by kernel_rfl) (by kernel_rfl) (by kernel_rfl) (fun _ _ _ h => hQ _ _ _ _ _ h) HB4.out (Or.inl ⟨by rfl, fun w' hS' => ?_⟩) ?_
    · go_simp
    simp only [Act.put, List.setIfInBounds_toArray, List.set_cons_zero, List.set_cons_succ]
    refine wpAnyH_takeD (i := 6) (d := 94) (v := .agg #[.int .i64 (s.w : Int), .int .i64 (s.h : Int), .slice A0 s.p.length c0]) rfl rfl (by kernel_rfl) (by kernel_rfl) (by kernel_rfl) (fun _ _ _ h => hQ _ _ _ _ _ h) HB4.out (Or.inl ⟨by rfl, fun w' hS' => ?_⟩) ?_
    · go_simp
    simp only [Act.put, List.setIfInBounds_toArray, List.set_cons_zero, List.set_cons_succ]
    refine wpAnyH_takeD (i := 7) (d := 95) (v := .bool b) rfl rfl (by kernel_rfl) (by kernel_rfl) (by kernel_rfl) (fun _ _ _ h => hQ _ _ _ _ _ h) HB4.out (Or.inl ⟨by rfl, fun w' hS' => ?_⟩) ?_
    · go_simp
    simp only [Act.put, List.setIfInBounds_toArray, List.set_cons_zero, List.set_cons_succ]
    have HNE : Hid (∀ q, (Value.slice A0 s.p.length c0).ownBlock = some q → q ≠ u0.heap.size) := Lib.hid fun q e => by have := (World.ownsRow.lt HOW.out q e).1; have := HLOB.out; omega
    have z0 := RasAtB.c0 HZ4.out
    have z1 := RasAtB.c1 HZ4.out
    have z2 := RasAtB.c2 HZ4.out
    have f0 := RasAtB.free HZ4.out 0
    have f1 := RasAtB.free HZ4.out 1
    have f2 := RasAtB.free HZ4.out 2
    have HE := Lib.hid (laid_store (w := w) HZ4.out HCC.out (HOW.out.lower HWL.out) HNE.out HGA.out HB4.out)
    refine wpAnyH_one (i := 9) (by kernel_rfl) rfl (fun K hK => ?_)
    go_simp
    refine hK.out _ _ HE.out.2.2.2.2.2 ?_
    clear hK z0 z1 z2 f0 f1 f2
    try simp only [Act.put, List.setIfInBounds_toArray, List.set_cons_zero, List.set_cons_succ]
    refine wpAnyH_one (i := 10) (by kernel_rfl) rfl (fun K hK => ?_)
    go_simp
    refine hK.out _ _ HE.out.2.2.2.2.2 ?_
    clear hK
    refine wpAnyH_done (by kernel_rfl) ?_ _
    exact hq.out _ _ _ _ _ _ _ _ _ _ _ _ HE.out
set_option maxHeartbeats 8000000 in
set_option maxRecDepth 10000 in
theorem opsDoL_r20z {Q : Exit → Act → World → Prop} {x0 x1 x2 x3 x5 x6 x7 x8 x9 x10 x11 x12 x15 z16 z17 x18 x19 x20 x21 x22 x23 x24 x25 x26 x27 x28 x29 x30 x31 x32 x33 x34 x35 x36 x37 x38 x39 x40 x41 x42 x43 x44 x45 x46 x47 x48 x49 x50 x51 x52 x53 x54 x55 x56 x57 x58 x59 x60 x61 x62 x63 x64 x65 x66 x67 x68 x69 x70 x71 x72 x73 x74 x75 x76 x77 x78 x79 x80 x81 x82 x83 x84 x85 x86 x87 z88 z89 z90 z91 z92 z93 z94 z95 x96 x97 x98 x99 x100 x101 x102 x103 x104 x105 x106 x107 x108 x109 x110 x111 x112 x113 x114 x115 x116 x117 x118 x119 x120 x121 x122 x123 x124 x125 x126 x127 : Value} {w : World} (gX bl dl : Nat) (r : Ra) (A : Option Addr) (c : Nat) (hX : RasAtB w gX r.w r.h A r.p.length c 30) (hh : HasP w w.heap.size A r.p) (hc : r.p.length ≤ c) (hr : r.ok) (hR : RangesIn w) (lt : List Op) (d : Option Ra) (s : Ra) (b : Bool) (hs : d.getD ra0 = s) (hb : d.isSome = b) (hB : opsB lt = true) (hL : opE.Has w w.heap.size (some ⟨bl, dl, none⟩) lt) (hln : lt.length = 0) (hd : opsR r lt = d) 
    (hQ : ∀ (c : List PanicEntry) (a : Act) (k : Nat) (v : Value) (u : World), Q (.panic c) (a.put (some k) v) u → Q (.panic c) a u) (hq : Hid (∀ (g : Nat) (A0 : Option Addr) (c0 : Nat) (y88 y89 y90 y91 y92 y93 y94 y95 : Value) (w' : World), Laid w s g A0 c0 w' → Q .normal { tmps := #[x0, x1, x2, x3, .slice (some ⟨bl, dl, none⟩) 0 0, x5, x6, x7, x8, x9, x10, x11, x12, .int .i64 0, .pointer (some ⟨gX, 0, none⟩), x15, .pointer (some ⟨g, 0, none⟩), .bool b, x18, x19, x20, x21, x22, x23, x24, x25, x26, x27, x28, x29, x30, x31, x32, x33, x34, x35, x36, x37, x38, x39, x40, x41, x42, x43, x44, x45, x46, x47, x48, x49, x50, x51, x52, x53, x54, x55, x56, x57, x58, x59, x60, x61, x62, x63, x64, x65, x66, x67, x68, x69, x70, x71, x72, x73, x74, x75, x76, x77, x78, x79, x80, x81, x82, x83, x84, x85, x86, x87, y88, y89, y90, y91, y92, y93, y94, y95, x96, x97, x98, x99, x100, x101, x102, x103, x104, x105, x106, x107, x108, x109, x110, x111, x112, x113, x114, x115, x116, x117, x118, x119, x120, x121, x122, x123, x124, x125, x126, x127], defers := [] } w')) :
    (Code.region 20 #[{ dst := some 89, op := Go.Op.load 30 (Go.Operand.tmp 14), type := 30, pos := "laws.go:742", after := #[], guard := none }, { dst := some 90, op := Go.Op.move (Go.Operand.tmp 4), type := 34, pos := "laws.go:742", after := #[], guard := none }, { dst := some 91, op := Go.Op.move (Go.Operand.tmp 13), type := 3, pos := "laws.go:742", after := #[], guard := none }, { dst := some 92, op := Go.Op.slice 34 (Go.Operand.tmp 90) (some (Go.Operand.tmp 91)) none none, type := 34, pos := "laws.go:742", after := #[{ on := 1, ground := Go.Ground.data }, { on := 2, ground := Go.Ground.data }], guard := none }, { dst := some 93, op := Go.Op.call { callee := Go.Callee.value (Go.Operand.func 15), args := #[Go.Operand.tmp 89, Go.Operand.tmp 92], argTypes := #[30, 34] }, type := 31, pos := "laws.go:742", after := #[{ on := 0, ground := Go.Ground.data }, { on := 3, ground := Go.Ground.data }], guard := none }, { dst := some 88, op := Go.Op.move (Go.Operand.tmp 93), type := 31, pos := "laws.go:742", after := #[{ on := 4, ground := Go.Ground.data }], guard := none }, { dst := some 94, op := Go.Op.extract (Go.Operand.tmp 88) 0, type := 30, pos := "laws.go:742", after := #[{ on := 5, ground := Go.Ground.data }], guard := none }, { dst := some 95, op := Go.Op.extract (Go.Operand.tmp 88) 1, type := 4, pos := "laws.go:742", after := #[{ on := 5, ground := Go.Ground.data }, { on := 9, ground := Go.Ground.gcOnly Go.Departure.lateStores }], guard := none }, { dst := some 16, op := Go.Op.alloc 30, type := 0, pos := "laws.go:742", after := #[], guard := none }, { dst := none, op := Go.Op.store 30 (Go.Operand.tmp 16) (Go.Operand.tmp 94), type := 0, pos := "laws.go:742", after := #[{ on := 8, ground := Go.Ground.data }, { on := 6, ground := Go.Ground.data }, { on := 4, ground := Go.Ground.chain }, { on := 0, ground := Go.Ground.phase }, { on := 1, ground := Go.Ground.phase }, { on := 2, ground := Go.Ground.phase }, { on := 3, ground := Go.Ground.phase }, { on := 4, ground := Go.Ground.phase }, { on := 5, ground := Go.Ground.phase }, { on := 6, ground := Go.Ground.phase }, { on := 7, ground := Go.Ground.textOnly Go.Departure.lateStores }, { on := 8, ground := Go.Ground.phase }], guard := none }, { dst := some 17, op := Go.Op.assign (Go.Operand.tmp 95), type := 4, pos := "laws.go:742", after := #[{ on := 7, ground := Go.Ground.data }, { on := 9, ground := Go.Ground.chain }, { on := 0, ground := Go.Ground.phase }, { on := 1, ground := Go.Ground.phase }, { on := 2, ground := Go.Ground.phase }, { on := 3, ground := Go.Ground.phase }, { on := 4, ground := Go.Ground.phase }, { on := 5, ground := Go.Ground.phase }, { on := 6, ground := Go.Ground.phase }, { on := 7, ground := Go.Ground.phase }, { on := 8, ground := Go.Ground.phase }, { on := 9, ground := Go.Ground.phase }], guard := none }] true).wp Tryd.prog Q { tmps := #[x0, x1, x2, x3, .slice (some ⟨bl, dl, none⟩) 0 0, x5, x6, x7, x8, x9, x10, x11, x12, .int .i64 0, .pointer (some ⟨gX, 0, none⟩), x15, z16, z17, x18, x19, x20, x21, x22, x23, x24, x25, x26, x27, x28, x29, x30, x31, x32, x33, x34, x35, x36, x37, x38, x39, x40, x41, x42, x43, x44, x45, x46, x47, x48, x49, x50, x51, x52, x53, x54, x55, x56, x57, x58, x59, x60, x61, x62, x63, x64, x65, x66, x67, x68, x69, x70, x71, x72, x73, x74, x75, x76, x77, x78, x79, x80, x81, x82, x83, x84, x85, x86, x87, z88, z89, z90, z91, z92, z93, z94, z95, x96, x97, x98, x99, x100, x101, x102, x103, x104, x105, x106, x107, x108, x109, x110, x111, x112, x113, x114, x115, x116, x117, x118, x119, x120, x121, x122, x123, x124, x125, x126, x127], defers := [] } w := by
  have hl5 : lt.length ≤ 5 := by
    unfold opsB at hB
    exact of_decide_eq_true (Bool.and_eq_true_iff.1 hB).2
  have h36 := ra_len hr
  have CS : Hid (∀ u : World, RangesIn u → HasP u u.heap.size A r.p → opE.Has u u.heap.size (some ⟨bl, dl, none⟩) lt → Calls Tryd.prog 15 #[.agg #[.int .i64 (r.w : Int), .int .i64 (r.h : Int), .slice A r.p.length c], .slice (some ⟨bl, dl, none⟩) 0 0] u (fun e w' => ∃ A0 c0, e = .returned (.tuple #[.agg #[.int .i64 (s.w : Int), .int .i64 (s.h : Int), .slice A0 s.p.length c0], .bool b]) ∧ s.p.length ≤ c0 ∧ OwnP w' u.heap.size (.slice A0 s.p.length c0) s.p ∧ Below u.heap.size u w')) := Lib.hid fun u hu hh hl => by
    have := implOpsDo_any r.w r.h A c r.p (some ⟨bl, dl, none⟩) (0) lt u hu (by omega) (by omega) hc hh hl
    rw [puts_ok hr hB, hd] at this
    unfold Did at this
    rw [hs, hb, hln] at this
    exact this
  have HX := Lib.hid hX
  have HH := Lib.hid hh
  have HRT := Lib.hid hR
  have HL := Lib.hid hL
  clear hX hh hc hr hL hd hs hb hR hB hl5 h36 hln
  refine wp_region_held_drew (S := fun v => Below w.heap.size w v) (by kernel_rfl) (below_draws (Below.refl _ _) 1) fun _ => ?_
  have HB0 : Hid (Below w.heap.size w w.drew) := Lib.hid (below_draws (Below.refl _ _) 1)
  generalize w.drew = u0 at *
  refine wpAnyH_takeD (i := 0) (d := 89) (v := (.agg #[.int .i64 (r.w : Int), .int .i64 (r.h : Int), .slice A r.p.length c])) rfl rfl (by kernel_rfl) (by kernel_rfl) (by kernel_rfl) (fun _ _ _ h => hQ _ _ _ _ _ h) HB0.out (Or.inl ⟨by rfl, fun w' hS' => ?_⟩) ?_
  · have t := Box.below HX.out hS' (Box.lt HX.out)
    have t0 := RasAtB.c0 t
    have t1 := RasAtB.c1 t
    have t2 := RasAtB.c2 t
    go_simp
  simp only [Act.put, List.setIfInBounds_toArray, List.set_cons_zero, List.set_cons_succ]
  refine wpAnyH_takeD (i := 1) (d := 90) (v := .slice (some ⟨bl, dl, none⟩) 0 0) rfl rfl (by kernel_rfl) (by kernel_rfl) (by kernel_rfl) (fun _ _ _ h => hQ _ _ _ _ _ h) HB0.out (Or.inl ⟨by rfl, fun w' hS' => ?_⟩) ?_
  · go_simp
  simp only [Act.put, List.setIfInBounds_toArray, List.set_cons_zero, List.set_cons_succ]
  refine wpAnyH_takeD (i := 2) (d := 91) (v := .int .i64 0) rfl rfl (by kernel_rfl) (by kernel_rfl) (by kernel_rfl) (fun _ _ _ h => hQ _ _ _ _ _ h) HB0.out (Or.inl ⟨by rfl, fun w' hS' => ?_⟩) ?_
  · go_simp
  simp only [Act.put, List.setIfInBounds_toArray, List.set_cons_zero, List.set_cons_succ]
  refine wpAnyH_takeD (i := 3) (d := 92) (v := .slice (some ⟨bl, dl, none⟩) 0 0) rfl rfl (by kernel_rfl) (by kernel_rfl) (by kernel_rfl) (fun _ _ _ h => hQ _ _ _ _ _ h) HB0.out (Or.inl ⟨by rfl, fun w' hS' => ?_⟩) ?_
  · go_simp
  simp only [Act.put, List.setIfInBounds_toArray, List.set_cons_zero, List.set_cons_succ]
  refine wpAnyH_two (i := 4) (j := 8) (by kernel_rfl) rfl rfl (fun K hK => ?_) (fun K hK => ?_)
  · go_simp
    refine (CS.out _ (HRT.out.next HB0.out) (HH.out.carry HB0.out (Nat.le_refl _) HB0.out.size) (HL.out.carry HB0.out (Nat.le_refl _) HB0.out.size)).mono ?_
    rintro e u1 ⟨A0, c0, rfl, hc0, ho0, b1⟩
    have HCC := Lib.hid hc0
    have HOW := Lib.hid ho0
    have HWL := Lib.hid HB0.out.size
    clear hc0 ho0
    have HB1 := Lib.hid (HB0.out.trans (b1.mono HB0.out.size))
    refine hK.out _ _ HB1.out ?_
    clear hK b1
    try simp only [Act.put, List.setIfInBounds_toArray, List.set_cons_zero, List.set_cons_succ]
    refine wpAnyH_takeD (i := 5) (d := 88) (v := .tuple #[.agg #[.int .i64 (s.w : Int), .int .i64 (s.h : Int), .slice A0 s.p.length c0], .bool b]) rfl rfl (by kernel_rfl) (by kernel_rfl) (by kernel_rfl) (fun _ _ _ h => hQ _ _ _ _ _ h) HB1.out (Or.inl ⟨by rfl, fun w' hS' => ?_⟩) ?_
    · go_simp
    simp only [Act.put, List.setIfInBounds_toArray, List.set_cons_zero, List.set_cons_succ]
    refine wpAnyH_takeD (i := 6) (d := 94) (v := .agg #[.int .i64 (s.w : Int), .int .i64 (s.h : Int), .slice A0 s.p.length c0]) rfl rfl (by kernel_rfl) (by kernel_rfl) (by kernel_rfl) (fun _ _ _ h => hQ _ _ _ _ _ h) HB1.out (Or.inl ⟨by rfl, fun w' hS' => ?_⟩) ?_
    · go_simp
    simp only [Act.put, List.setIfInBounds_toArray, List.set_cons_zero, List.set_cons_succ]
    refine wpAnyH_takeD (i := 7) (d := 95) (v := .bool b) rfl rfl (by kernel_rfl) (by kernel_rfl) (by kernel_rfl) (fun _ _ _ h => hQ _ _ _ _ _ h) HB1.out (Or.inl ⟨by rfl, fun w' hS' => ?_⟩) ?_
    · go_simp
    simp only [Act.put, List.setIfInBounds_toArray, List.set_cons_zero, List.set_cons_succ]
    refine wpAnyH_one (i := 8) (by kernel_rfl) rfl (fun K hK => ?_)
    have HOWA := Lib.hid (HOW.out.alloc (.cells #[.int .i64 0, .int .i64 0, .slice none 0 0] 30))
    have HNE : Hid (∀ q, (Value.slice A0 s.p.length c0).ownBlock = some q → q ≠ u1.heap.size) := Lib.hid fun q e => by have := (World.ownsRow.lt HOW.out q e).2; omega
    go_simp
    have b2 : Below u1.heap.size u1 (u1.alloc (.cells #[.int .i64 0, .int .i64 0, .slice none 0 0] 30)) := (Below.refl _ _).alloc (Nat.le_refl _) _
    have HZ2 := Lib.hid (laid_zero u1)
    have HLO2 : Hid (u1.heap.size < (u1.alloc (.cells #[.int .i64 0, .int .i64 0, .slice none 0 0] 30)).heap.size) := Lib.hid (by simp)
    have HGA := Lib.hid HB1.out.size
    have HB2 := Lib.hid (HB1.out.trans (b2.mono HB1.out.size))
    refine hK.out _ _ HB2.out ?_
    clear hK b2
    try simp only [Act.put, List.setIfInBounds_toArray, List.set_cons_zero, List.set_cons_succ]
    generalize u1.alloc (.cells #[.int .i64 0, .int .i64 0, .slice none 0 0] 30) = u2 at *
    have z0 := RasAtB.c0 HZ2.out
    have z1 := RasAtB.c1 HZ2.out
    have z2 := RasAtB.c2 HZ2.out
    have f0 := RasAtB.free HZ2.out 0
    have f1 := RasAtB.free HZ2.out 1
    have f2 := RasAtB.free HZ2.out 2
    have HE := Lib.hid (laid_store (w := w) HZ2.out HCC.out (HOWA.out.lower HWL.out) HNE.out HGA.out HB2.out)
    refine wpAnyH_one (i := 9) (by kernel_rfl) rfl (fun K hK => ?_)
    go_simp
    refine hK.out _ _ HE.out.2.2.2.2.2 ?_
    clear hK z0 z1 z2 f0 f1 f2
    try simp only [Act.put, List.setIfInBounds_toArray, List.set_cons_zero, List.set_cons_succ]
    refine wpAnyH_one (i := 10) (by kernel_rfl) rfl (fun K hK => ?_)
    go_simp
    refine hK.out _ _ HE.out.2.2.2.2.2 ?_
    clear hK
    refine wpAnyH_done (by kernel_rfl) ?_ _
    exact hq.out _ _ _ _ _ _ _ _ _ _ _ _ HE.out
  · go_simp
    have b3 : Below u0.heap.size u0 (u0.alloc (.cells #[.int .i64 0, .int .i64 0, .slice none 0 0] 30)) := (Below.refl _ _).alloc (Nat.le_refl _) _
    have HZ3 := Lib.hid (laid_zero u0)
    have HLO3 : Hid (u0.heap.size < (u0.alloc (.cells #[.int .i64 0, .int .i64 0, .slice none 0 0] 30)).heap.size) := Lib.hid (by simp)
    have HGA := Lib.hid HB0.out.size
    have HB3 := Lib.hid (HB0.out.trans (b3.mono HB0.out.size))
    refine hK.out _ _ HB3.out ?_
    clear hK b3
    try simp only [Act.put, List.setIfInBounds_toArray, List.set_cons_zero, List.set_cons_succ]
    generalize u0.alloc (.cells #[.int .i64 0, .int .i64 0, .slice none 0 0] 30) = u3 at *
    refine wpAnyH_one (i := 4) (by kernel_rfl) rfl (fun K hK => ?_)
    go_simp
    refine (CS.out _ (HRT.out.next HB3.out) (HH.out.carry HB3.out (Nat.le_refl _) HB3.out.size) (HL.out.carry HB3.out (Nat.le_refl _) HB3.out.size)).mono ?_
    rintro e u4 ⟨A0, c0, rfl, hc0, ho0, b4⟩
    have HCC := Lib.hid hc0
    have HOW := Lib.hid ho0
    have HWL := Lib.hid HB3.out.size
    clear hc0 ho0
    have HLOB := HLO3
    have HB4 := Lib.hid (HB3.out.trans (b4.mono HB3.out.size))
    have HZ4 := Lib.hid (Box.below HZ3.out b4 (Box.lt HZ3.out))
    have HLO4 : Hid (u0.heap.size < u4.heap.size) := Lib.hid (Nat.lt_of_lt_of_le (Box.lt HZ3.out) b4.size)
    refine hK.out _ _ HB4.out ?_
    clear hK b4
    try simp only [Act.put, List.setIfInBounds_toArray, List.set_cons_zero, List.set_cons_succ]
    refine wpAnyH_takeD (i := 5) (d := 88) (v := .tuple #[.agg #[.int .i64 (s.w : Int), .int .i64 (s.h : Int), .slice A0 s.p.length c0], .bool b]) rfl rfl (by kernel_rfl) (by kernel_rfl) (by kernel_rfl) (fun _ _ _ h => hQ _ _ _ _ _ h) HB4.out (Or.inl ⟨by rfl, fun w' hS' => ?_⟩) ?_
    · go_simp
    simp only [Act.put, List.setIfInBounds_toArray, List.set_cons_zero, List.set_cons_succ]
    refine wpAnyH_takeD (i := 6) (d := 94) (v := .agg #[.int .i64 (s.w : Int), .int .i64 (s.h : Int), .slice A0 s.p.length c0]) rfl rfl (by kernel_rfl) (by kernel_rfl) (by kernel_rfl) (fun _ _ _ h => hQ _ _ _ _ _ h) HB4.out (Or.inl ⟨by rfl, fun w' hS' => ?_⟩) ?_
    · go_simp
    simp only [Act.put, List.setIfInBounds_toArray, List.set_cons_zero, List.set_cons_succ]
    refine wpAnyH_takeD (i := 7) (d := 95) (v := .bool b) rfl rfl (by kernel_rfl) (by kernel_rfl) (by kernel_rfl) (fun _ _ _ h => hQ _ _ _ _ _ h) HB4.out (Or.inl ⟨by rfl, fun w' hS' => ?_⟩) ?_
    · go_simp
    simp only [Act.put, List.setIfInBounds_toArray, List.set_cons_zero, List.set_cons_succ]
    have HNE : Hid (∀ q, (Value.slice A0 s.p.length c0).ownBlock = some q → q ≠ u0.heap.size) := Lib.hid fun q e => by have := (World.ownsRow.lt HOW.out q e).1; have := HLOB.out; omega
    have z0 := RasAtB.c0 HZ4.out
    have z1 := RasAtB.c1 HZ4.out
    have z2 := RasAtB.c2 HZ4.out
    have f0 := RasAtB.free HZ4.out 0
    have f1 := RasAtB.free HZ4.out 1
    have f2 := RasAtB.free HZ4.out 2
    have HE := Lib.hid (laid_store (w := w) HZ4.out HCC.out (HOW.out.lower HWL.out) HNE.out HGA.out HB4.out)
    refine wpAnyH_one (i := 9) (by kernel_rfl) rfl (fun K hK => ?_)
    go_simp
    refine hK.out _ _ HE.out.2.2.2.2.2 ?_
    clear hK z0 z1 z2 f0 f1 f2
    try simp only [Act.put, List.setIfInBounds_toArray, List.set_cons_zero, List.set_cons_succ]
    refine wpAnyH_one (i := 10) (by kernel_rfl) rfl (fun K hK => ?_)
    go_simp
    refine hK.out _ _ HE.out.2.2.2.2.2 ?_
    clear hK
    refine wpAnyH_done (by kernel_rfl) ?_ _
    exact hq.out _ _ _ _ _ _ _ _ _ _ _ _ HE.out
end Go.Proofs.YtiemlakjallphabDoor
