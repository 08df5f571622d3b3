/-
  The region of the reference's AskRead that builds the request. No condition.
-/
import Derived.Test.YtbejafbpipdbjaaDoorUrlY
import Derived.Test.YtbejafbpipdbjaaDoorUrlT
import Derived.Test.YtbejafbpipdbjaaDoorRegH
namespace Go.Proofs.YtbejafbpipdbjaaDoor
set_option maxRecDepth 4000
open Go.RowKit

set_option maxHeartbeats 8000000 in
set_option maxRecDepth 10000 in
theorem askBuild {Q : Exit → Act → World → Prop} {x0 x1 x2 x3 x4 x6 z8 x9 x10 x11 x12 x13 x14 x15 x16 x17 x18 x19 x20 x21 x22 x23 x24 x25 x26 x27 x28 x29 x30 x31 x32 x33 x34 x35 x36 x37 x38 x39 x40 x41 x42 x43 x44 x45 z46 z47 z48 z49 z50 z51 z52 z53 z54 z55 x56 x57 x58 x59 x60 x61 x62 x63 x64 x65 : Value} {w : World} {A : Option Addr} {nn c gr cr : Nat} {r0 r1 : List UInt8} (hl : r1.length ≤ 1048576) (h3 : 3 ≤ r1.length)
    (c0 : ∀ u, Below w.heap.size w u → u.cell? ⟨gr, 0, none⟩ = some (.string (bs r0))) (c1 : ∀ u, Below w.heap.size w u → u.cell? ⟨gr, 1, none⟩ = some (.string (bs r1)))
    (hQ : ∀ (c : List PanicEntry) (a : Act) (k : Nat) (v : Value) (u : World), Q (.panic c) (a.put (some k) v) u → Q (.panic c) a u)
    (hq : Hid (∀ (g : Nat) (w' : World), w.heap.size ≤ g → Box w' g #[.slice A nn c, .string (bs r0), .int .i64 (num4 (r1.drop 2))] 39 → Below w.heap.size w w' → Q .normal { tmps := #[x0, x1, x2, x3, x4, .slice A nn c, x6, .slice (some ⟨gr, 0, none⟩) 2 cr, .pointer (some ⟨g, 0, none⟩), x9, x10, x11, x12, x13, x14, x15, x16, x17, x18, x19, x20, x21, x22, x23, x24, x25, x26, x27, x28, x29, x30, x31, x32, x33, x34, x35, x36, x37, x38, x39, x40, x41, x42, x43, x44, x45, .slice A nn c, .slice (some ⟨gr, 0, none⟩) 2 cr, .pointer (some ⟨gr, 0, none⟩), .string (bs r0), .slice (some ⟨gr, 0, none⟩) 2 cr, .pointer (some ⟨gr, 1, none⟩), .string (bs r1), .string (bs (r1.drop 2)), .int .i64 (num4 (r1.drop 2)), .agg #[.slice A nn c, .string (bs r0), .int .i64 (num4 (r1.drop 2))], x56, x57, x58, x59, x60, x61, x62, x63, x64, x65], defers := [] } w')) :
    (Code.region 8 #[{ dst := some 46, op := Go.Op.move (Go.Operand.tmp 5), type := 37, pos := "l7_url.go:167", after := #[], guard := none }, { dst := some 47, op := Go.Op.move (Go.Operand.tmp 7), type := 64, pos := "l7_url.go:167", after := #[], guard := none }, { dst := some 48, op := Go.Op.indexAddr 64 (Go.Operand.tmp 47) (Go.Operand.const (Go.Value.int Go.IntKind.i64 0)), type := 0, pos := "l7_url.go:167", after := #[{ on := 1, ground := Go.Ground.data }], guard := none }, { dst := some 49, op := Go.Op.load 9 (Go.Operand.tmp 48), type := 9, pos := "l7_url.go:167", after := #[{ on := 2, ground := Go.Ground.data }], guard := none }, { dst := some 50, op := Go.Op.move (Go.Operand.tmp 7), type := 64, pos := "l7_url.go:167", after := #[], guard := none }, { dst := some 51, op := Go.Op.indexAddr 64 (Go.Operand.tmp 50) (Go.Operand.const (Go.Value.int Go.IntKind.i64 1)), type := 0, pos := "l7_url.go:167", after := #[{ on := 4, ground := Go.Ground.data }], guard := none }, { dst := some 52, op := Go.Op.load 9 (Go.Operand.tmp 51), type := 9, pos := "l7_url.go:167", after := #[{ on := 5, ground := Go.Ground.data }], guard := none }, { dst := some 53, op := Go.Op.slice 9 (Go.Operand.tmp 52) (some (Go.Operand.const (Go.Value.int Go.IntKind.i64 2))) none none, type := 9, pos := "l7_url.go:167", after := #[{ on := 6, ground := Go.Ground.data }], guard := none }, { dst := some 54, op := Go.Op.call { callee := Go.Callee.value (Go.Operand.func 44), args := #[Go.Operand.tmp 53], argTypes := #[9] }, type := 3, pos := "l7_url.go:167", after := #[{ on := 7, ground := Go.Ground.data }], guard := none }, { dst := some 55, op := Go.Op.build 39 #[(0, Go.Operand.tmp 46), (1, Go.Operand.tmp 49), (2, Go.Operand.tmp 54)], type := 39, pos := "l7_url.go:167", after := #[{ on := 0, ground := Go.Ground.data }, { on := 3, ground := Go.Ground.data }, { on := 8, ground := Go.Ground.data }], guard := none }, { dst := some 8, op := Go.Op.alloc 39, type := 0, pos := "l7_url.go:167", after := #[], guard := none }, { dst := none, op := Go.Op.store 39 (Go.Operand.tmp 8) (Go.Operand.tmp 55), type := 0, pos := "l7_url.go:167", after := #[{ on := 10, ground := Go.Ground.data }, { on := 9, ground := Go.Ground.data }, { on := 8, ground := Go.Ground.chain }, { on := 0, ground := Go.Ground.phase }, { on := 1, ground := Go.Ground.phase }, { on := 2, ground := Go.Ground.phase }, { on := 3, ground := Go.Ground.phase }, { on := 4, ground := Go.Ground.phase }, { on := 5, ground := Go.Ground.phase }, { on := 6, ground := Go.Ground.phase }, { on := 7, ground := Go.Ground.phase }, { on := 8, ground := Go.Ground.phase }, { on := 9, ground := Go.Ground.phase }, { on := 10, ground := Go.Ground.phase }], guard := none }] true).wp Tryd.prog Q { tmps := #[x0, x1, x2, x3, x4, .slice A nn c, x6, .slice (some ⟨gr, 0, none⟩) 2 cr, z8, x9, x10, x11, x12, x13, x14, x15, x16, x17, x18, x19, x20, x21, x22, x23, x24, x25, x26, x27, x28, x29, x30, x31, x32, x33, x34, x35, x36, x37, x38, x39, x40, x41, x42, x43, x44, x45, z46, z47, z48, z49, z50, z51, z52, z53, z54, z55, x56, x57, x58, x59, x60, x61, x62, x63, x64, x65], defers := [] } w := by
  have C0 := Lib.hid c0
  have C1 := Lib.hid c1
  obtain ⟨m, hm⟩ : ∃ m, r1.length = m := ⟨_, rfl⟩
  have sz : (bs r1).size = m := by rw [bs_size, hm]
  have cut1 : (bs r1).extract 2 m = bs (r1.drop 2) := by
    rw [bs_cut, List.take_of_length_le (by simp; omega)]
  have CN := Lib.hid fun u => l7Num_any (r1.drop 2) u (by simp; omega)
  rw [hm] at h3 hl
  have h2I : (2 : Int) ≤ (m : Int) := by omega
  clear hm c0 c1
  refine wp_region_held_drew (S := fun v => Below w.heap.size w v) (by kernel_rfl) (below_draws (Below.refl _ _) 1) fun _ => ?_
  have HB0 : Hid (Below w.heap.size w w.drew) := Lib.hid (below_draws (Below.refl _ _) 1)
  generalize w.drew = u0 at *
  refine wpAnyH_takeD (i := 0) (d := 46) (v := .slice A nn c) rfl rfl (by kernel_rfl) (by kernel_rfl) (by kernel_rfl) (fun _ _ _ h => hQ _ _ _ _ _ h) HB0.out (Or.inl ⟨by rfl, fun w' hS' => ?_⟩) ?_
  · go_simp
  simp only [Act.put, List.setIfInBounds_toArray, List.set_cons_zero, List.set_cons_succ]
  refine wpAnyH_takeD (i := 1) (d := 47) (v := .slice (some ⟨gr, 0, none⟩) 2 cr) rfl rfl (by kernel_rfl) (by kernel_rfl) (by kernel_rfl) (fun _ _ _ h => hQ _ _ _ _ _ h) HB0.out (Or.inl ⟨by rfl, fun w' hS' => ?_⟩) ?_
  · go_simp
  simp only [Act.put, List.setIfInBounds_toArray, List.set_cons_zero, List.set_cons_succ]
  refine wpAnyH_takeD (i := 2) (d := 48) (v := .pointer (some ⟨gr, 0, none⟩)) rfl rfl (by kernel_rfl) (by kernel_rfl) (by kernel_rfl) (fun _ _ _ h => hQ _ _ _ _ _ h) HB0.out (Or.inl ⟨by rfl, fun w' hS' => ?_⟩) ?_
  · go_simp
  simp only [Act.put, List.setIfInBounds_toArray, List.set_cons_zero, List.set_cons_succ]
  refine wpAnyH_takeD (i := 3) (d := 49) (v := .string (bs r0)) rfl rfl (by kernel_rfl) (by kernel_rfl) (by kernel_rfl) (fun _ _ _ h => hQ _ _ _ _ _ h) HB0.out (Or.inl ⟨by rfl, fun w' hS' => ?_⟩) ?_
  · have t0 := C0.out _ hS'
    go_simp
  simp only [Act.put, List.setIfInBounds_toArray, List.set_cons_zero, List.set_cons_succ]
  refine wpAnyH_takeD (i := 4) (d := 50) (v := .slice (some ⟨gr, 0, none⟩) 2 cr) rfl rfl (by kernel_rfl) (by kernel_rfl) (by kernel_rfl) (fun _ _ _ h => hQ _ _ _ _ _ h) HB0.out (Or.inl ⟨by rfl, fun w' hS' => ?_⟩) ?_
  · go_simp
  simp only [Act.put, List.setIfInBounds_toArray, List.set_cons_zero, List.set_cons_succ]
  refine wpAnyH_takeD (i := 5) (d := 51) (v := .pointer (some ⟨gr, 1, none⟩)) rfl rfl (by kernel_rfl) (by kernel_rfl) (by kernel_rfl) (fun _ _ _ h => hQ _ _ _ _ _ h) HB0.out (Or.inl ⟨by rfl, fun w' hS' => ?_⟩) ?_
  · go_simp
  simp only [Act.put, List.setIfInBounds_toArray, List.set_cons_zero, List.set_cons_succ]
  refine wpAnyH_takeD (i := 6) (d := 52) (v := .string (bs r1)) rfl rfl (by kernel_rfl) (by kernel_rfl) (by kernel_rfl) (fun _ _ _ h => hQ _ _ _ _ _ h) HB0.out (Or.inl ⟨by rfl, fun w' hS' => ?_⟩) ?_
  · have t0 := C1.out _ hS'
    go_simp
  simp only [Act.put, List.setIfInBounds_toArray, List.set_cons_zero, List.set_cons_succ]
  refine wpAnyH_takeD (i := 7) (d := 53) (v := .string (bs (r1.drop 2))) rfl rfl (by kernel_rfl) (by kernel_rfl) (by kernel_rfl) (fun _ _ _ h => hQ _ _ _ _ _ h) HB0.out (Or.inl ⟨by rfl, fun w' hS' => ?_⟩) ?_
  · go_simp
  simp only [Act.put, List.setIfInBounds_toArray, List.set_cons_zero, List.set_cons_succ]
  refine wpAnyH_two (i := 8) (j := 10) (by kernel_rfl) rfl rfl (fun K hK => ?_) (fun K hK => ?_)
  · go_simp
    refine (CN.out _).mono ?_
    rintro e u1 ⟨rfl, b1⟩
    have HB1 := Lib.hid (HB0.out.trans (b1.mono HB0.out.size))
    refine hK.out _ _ HB1.out ?_
    clear hK b1
    try simp only [Act.put, List.setIfInBounds_toArray, List.set_cons_zero, List.set_cons_succ]
    refine wpAnyH_takeD (i := 9) (d := 55) (v := .agg #[.slice A nn c, .string (bs r0), .int .i64 (num4 (r1.drop 2))]) rfl rfl (by kernel_rfl) (by kernel_rfl) (by kernel_rfl) (fun _ _ _ h => hQ _ _ _ _ _ h) HB1.out (Or.inl ⟨by rfl, fun w' hS' => ?_⟩) ?_
    · go_simp
    simp only [Act.put, List.setIfInBounds_toArray, List.set_cons_zero, List.set_cons_succ]
    refine wpAnyH_one (i := 10) (by kernel_rfl) rfl (fun K hK => ?_)
    go_simp
    have HGA := Lib.hid HB1.out.size
    have HB2 := Lib.hid (HB1.out.alloc HB1.out.size (.cells #[.slice none 0 0, .string ⟨#[]⟩, .int .i64 0] 39))
    have HZ := Lib.hid (Box.new u1 #[.slice none 0 0, .string ⟨#[]⟩, .int .i64 0] 39)
    have hGe : ∃ G, u1.heap.size = G := ⟨_, rfl⟩
    refine hK.out _ _ HB2.out ?_
    clear hK
    try simp only [Act.put, List.setIfInBounds_toArray, List.set_cons_zero, List.set_cons_succ]
    obtain ⟨G, hGe⟩ := hGe
    rw [hGe] at HZ HGA ⊢
    generalize u1.alloc (.cells #[.slice none 0 0, .string ⟨#[]⟩, .int .i64 0] 39) = u2 at *
    clear hGe
    have z0 := HZ.out.cell (i := 0) (v := .slice none 0 0) rfl
    have z1 := HZ.out.cell (i := 1) (v := .string ⟨#[]⟩) rfl
    have z2 := HZ.out.cell (i := 2) (v := .int .i64 0) rfl
    have q0 := HZ.out.free 0
    have q1 := HZ.out.free 1
    have q2 := HZ.out.free 2
    refine wpAnyH_one (i := 11) (by kernel_rfl) rfl (fun K hK => ?_)
    go_simp
    have HF := Lib.hid (fin_ua HZ.out (.slice A nn c) (.string (bs r0)) (.int .i64 (num4 (r1.drop 2))))
    have HBF := Lib.hid (((HB2.out.setCell (p := ⟨G, 0, none⟩) HGA.out (.slice A nn c)).setCell (p := ⟨G, 1, none⟩) HGA.out (.string (bs r0))).setCell (p := ⟨G, 2, none⟩) HGA.out (.int .i64 (num4 (r1.drop 2))))
    refine hK.out _ _ HBF.out ?_
    clear hK
    refine wpAnyH_done (by kernel_rfl) ?_ _
    exact hq.out _ _ HGA.out HF.out HBF.out
  · go_simp
    have HGA := Lib.hid HB0.out.size
    have HB2 := Lib.hid (HB0.out.alloc HB0.out.size (.cells #[.slice none 0 0, .string ⟨#[]⟩, .int .i64 0] 39))
    have HZ := Lib.hid (Box.new u0 #[.slice none 0 0, .string ⟨#[]⟩, .int .i64 0] 39)
    have hGe : ∃ G, u0.heap.size = G := ⟨_, rfl⟩
    refine hK.out _ _ HB2.out ?_
    clear hK
    try simp only [Act.put, List.setIfInBounds_toArray, List.set_cons_zero, List.set_cons_succ]
    obtain ⟨G, hGe⟩ := hGe
    rw [hGe] at HZ HGA ⊢
    generalize u0.alloc (.cells #[.slice none 0 0, .string ⟨#[]⟩, .int .i64 0] 39) = u2 at *
    clear hGe
    refine wpAnyH_one (i := 8) (by kernel_rfl) rfl (fun K hK => ?_)
    go_simp
    refine (CN.out _).mono ?_
    rintro e u1 ⟨rfl, b1⟩
    have HB1 := Lib.hid (HB2.out.trans (b1.mono HB2.out.size))
    have HZ2 := Lib.hid (Box.below HZ.out b1 (Box.lt HZ.out))
    refine hK.out _ _ HB1.out ?_
    clear hK b1
    try simp only [Act.put, List.setIfInBounds_toArray, List.set_cons_zero, List.set_cons_succ]
    refine wpAnyH_takeD (i := 9) (d := 55) (v := .agg #[.slice A nn c, .string (bs r0), .int .i64 (num4 (r1.drop 2))]) rfl rfl (by kernel_rfl) (by kernel_rfl) (by kernel_rfl) (fun _ _ _ h => hQ _ _ _ _ _ h) HB1.out (Or.inl ⟨by rfl, fun w' hS' => ?_⟩) ?_
    · go_simp
    simp only [Act.put, List.setIfInBounds_toArray, List.set_cons_zero, List.set_cons_succ]
    have z0 := HZ2.out.cell (i := 0) (v := .slice none 0 0) rfl
    have z1 := HZ2.out.cell (i := 1) (v := .string ⟨#[]⟩) rfl
    have z2 := HZ2.out.cell (i := 2) (v := .int .i64 0) rfl
    have q0 := HZ2.out.free 0
    have q1 := HZ2.out.free 1
    have q2 := HZ2.out.free 2
    refine wpAnyH_one (i := 11) (by kernel_rfl) rfl (fun K hK => ?_)
    go_simp
    have HF := Lib.hid (fin_ua HZ2.out (.slice A nn c) (.string (bs r0)) (.int .i64 (num4 (r1.drop 2))))
    have HBF := Lib.hid (((HB1.out.setCell (p := ⟨G, 0, none⟩) HGA.out (.slice A nn c)).setCell (p := ⟨G, 1, none⟩) HGA.out (.string (bs r0))).setCell (p := ⟨G, 2, none⟩) HGA.out (.int .i64 (num4 (r1.drop 2))))
    refine hK.out _ _ HBF.out ?_
    clear hK
    refine wpAnyH_done (by kernel_rfl) ?_ _
    exact hq.out _ _ HGA.out HF.out HBF.out
end Go.Proofs.YtbejafbpipdbjaaDoor
