/-
  Three regions of the law FnExactOpDo that draw their order: whichever it is, a fresh box holds what OpDo answers. Conditions as they stand.
-/
import Derived.Test.YtiemlakjallphaaDoorPutD
import Derived.Test.YtiemlakjallphaaDoorPixQ
import Derived.Test.YtiemlakjallphaaDoorOpTo
import Derived.Test.YtiemlakjallphaaDoorRegH
import Derived.Test.YtiemlakjallphaaDoorBitE
namespace Go.Proofs.YtiemlakjallphaaDoor
set_option maxRecDepth 4000
open Go.RowKit

/-- A raster's box that a region left: fresh, and its pixels the call's own. -/
def Laid (w : World) (s : Ra) (g : Nat) (A : Option Addr) (c : Nat) (w' : World) : Prop :=
  RasAtB w' g s.w s.h A s.p.length c 25 ∧ s.p.length ≤ c ∧ OwnP w' w.heap.size (.slice A s.p.length c) s.p ∧ (∀ q, (Value.slice A s.p.length c).ownBlock = some q → q ≠ g) ∧ w.heap.size ≤ g ∧ Below w.heap.size w w'
theorem laid_store {w u : World} {s : Ra} {g : Nat} {A : Option Addr} {c : Nat} (hz : RasAtB u g 0 0 none 0 0 25) (hc : s.p.length ≤ c) (ho : OwnP u w.heap.size (.slice A s.p.length c) s.p) (hne : ∀ q, (Value.slice A s.p.length c).ownBlock = some q → q ≠ g) (hg : w.heap.size ≤ g) (hb : Below w.heap.size w u) :
    Laid w s g A c (((u.setCell ⟨g, 0, none⟩ (.int .i64 (s.w : Int))).setCell ⟨g, 1, none⟩ (.int .i64 (s.h : Int))).setCell ⟨g, 2, none⟩ (.slice A s.p.length c)) := by
  refine ⟨fin_ras hz _ _ _, hc, ?_, hne, hg, ((hb.setCell (p := ⟨g, 0, none⟩) hg _).setCell (p := ⟨g, 1, none⟩) hg _).setCell (p := ⟨g, 2, none⟩) hg _⟩
  have hn : (Value.slice A s.p.length c).ownBlock = none ∨ (Value.slice A s.p.length c).ownBlock ≠ some g := .inr fun e => hne g e rfl
  exact World.ownsRow.kept (World.ownsRow.kept (World.ownsRow.kept ho (grown_cell _ g 0 _) hn) (grown_cell _ g 1 _) hn) (grown_cell _ g 2 _) hn
theorem laid_zero (u : World) : RasAtB (u.alloc (.cells #[.int .i64 0, .int .i64 0, .slice none 0 0] 25)) u.heap.size 0 0 none 0 0 25 := heap_alloc_new u _
set_option maxHeartbeats 8000000 in
set_option maxRecDepth 10000 in
theorem exOpDo_r5 {Q : Exit → Act → World → Prop} {x0 x1 x4 x5 z6 z7 x8 x9 x10 x11 x12 x13 x14 x15 x16 x17 x18 x19 x20 z21 z22 z23 z24 z25 z26 z27 z28 x29 x30 x31 x32 x33 x34 x35 x36 x37 x38 x39 x40 x41 x42 x43 x44 x45 x46 x47 x48 x49 x50 x51 x52 x53 x54 x55 x56 x57 x58 x59 x60 x61 x62 x63 x64 x65 x66 x67 x68 x69 x70 x71 x72 x73 x74 x75 x76 x77 x78 x79 x80 x81 x82 x83 x84 x85 x86 x87 x88 x89 x90 x91 x92 x93 x94 x95 x96 x97 x98 x99 x100 x101 x102 x103 : Value} {w : World} (gA gO : Nat) (W H : Int) (A : Option Addr) (c : Nat) (l : List Px) (o : Op) (d : Option Ra) (s : Ra) (b : Bool) (hA : RasAtB w gA W H A l.length c 45) (hO : Box w gO #[.int .i64 o.k, .int .i64 o.a, .int .i64 o.b, .int .i64 o.c, .int .i64 o.d] 46) (hh : HasP w w.heap.size A l) (hl : l.length ≤ 1048576) (hR : RangesIn w) (hd : putO W H l o = d) (hs : d.getD ra0 = s) (hb : d.isSome = b)
    (hQ : ∀ (c : List PanicEntry) (a : Act) (k : Nat) (v : Value) (u : World), Q (.panic c) (a.put (some k) v) u → Q (.panic c) a u) (hq : Hid (∀ (g : Nat) (A0 : Option Addr) (c0 : Nat) (y21 y22 y23 y24 y25 y26 y27 y28 : Value) (w' : World), Laid w s g A0 c0 w' → Q .normal { tmps := #[x0, x1, .pointer (some ⟨gA, 0, none⟩), .pointer (some ⟨gO, 0, none⟩), x4, x5, .pointer (some ⟨g, 0, none⟩), .bool b, x8, x9, x10, x11, x12, x13, x14, x15, x16, x17, x18, x19, x20, y21, y22, y23, y24, y25, y26, y27, y28, x29, x30, x31, x32, x33, x34, x35, x36, x37, x38, x39, x40, x41, x42, x43, x44, x45, x46, x47, x48, x49, x50, x51, x52, x53, x54, x55, x56, x57, x58, x59, x60, x61, x62, x63, x64, x65, x66, x67, x68, x69, x70, x71, x72, x73, x74, x75, x76, x77, x78, x79, x80, x81, x82, x83, x84, x85, x86, x87, x88, x89, x90, x91, x92, x93, x94, x95, x96, x97, x98, x99, x100, x101, x102, x103], defers := [] } w')) :
    (Code.region 5 #[{ dst := some 22, op := Go.Op.load 45 (Go.Operand.tmp 2), type := 45, pos := "exact.go:2375", after := #[], guard := none }, { dst := some 23, op := Go.Op.call { callee := Go.Callee.value (Go.Operand.func 24), args := #[Go.Operand.tmp 22], argTypes := #[45] }, type := 25, pos := "exact.go:2375", after := #[{ on := 0, ground := Go.Ground.data }], guard := none }, { dst := some 24, op := Go.Op.load 46 (Go.Operand.tmp 3), type := 46, pos := "exact.go:2375", after := #[], guard := none }, { dst := some 25, op := Go.Op.call { callee := Go.Callee.value (Go.Operand.func 25), args := #[Go.Operand.tmp 24], argTypes := #[46] }, type := 27, pos := "exact.go:2375", after := #[{ on := 2, ground := Go.Ground.data }, { on := 1, ground := Go.Ground.chain }], guard := none }, { dst := some 26, op := Go.Op.call { callee := Go.Callee.value (Go.Operand.func 13), args := #[Go.Operand.tmp 23, Go.Operand.tmp 25], argTypes := #[25, 27] }, type := 30, pos := "exact.go:2375", after := #[{ on := 1, ground := Go.Ground.data }, { on := 3, ground := Go.Ground.data }, { on := 3, ground := Go.Ground.chain }], guard := none }, { dst := some 21, op := Go.Op.move (Go.Operand.tmp 26), type := 30, pos := "exact.go:2375", after := #[{ on := 4, ground := Go.Ground.data }], guard := none }, { dst := some 27, op := Go.Op.extract (Go.Operand.tmp 21) 0, type := 25, pos := "exact.go:2375", after := #[{ on := 5, ground := Go.Ground.data }], guard := none }, { dst := some 28, op := Go.Op.extract (Go.Operand.tmp 21) 1, type := 4, pos := "exact.go:2375", after := #[{ on := 5, ground := Go.Ground.data }, { on := 9, ground := Go.Ground.gcOnly Go.Departure.lateStores }], guard := none }, { dst := some 6, op := Go.Op.alloc 25, type := 0, pos := "exact.go:2375", after := #[], guard := none }, { dst := none, op := Go.Op.store 25 (Go.Operand.tmp 6) (Go.Operand.tmp 27), type := 0, pos := "exact.go:2375", after := #[{ on := 8, ground := Go.Ground.data }, { on := 6, ground := Go.Ground.data }, { on := 4, ground := Go.Ground.chain }, { on := 0, ground := Go.Ground.phase }, { on := 1, ground := Go.Ground.phase }, { on := 2, ground := Go.Ground.phase }, { on := 3, ground := Go.Ground.phase }, { on := 4, ground := Go.Ground.phase }, { on := 5, ground := Go.Ground.phase }, { on := 6, ground := Go.Ground.phase }, { on := 7, ground := Go.Ground.textOnly Go.Departure.lateStores }, { on := 8, ground := Go.Ground.phase }], guard := none }, { dst := some 7, op := Go.Op.assign (Go.Operand.tmp 28), type := 4, pos := "exact.go:2375", after := #[{ on := 7, ground := Go.Ground.data }, { on := 9, ground := Go.Ground.chain }, { on := 0, ground := Go.Ground.phase }, { on := 1, ground := Go.Ground.phase }, { on := 2, ground := Go.Ground.phase }, { on := 3, ground := Go.Ground.phase }, { on := 4, ground := Go.Ground.phase }, { on := 5, ground := Go.Ground.phase }, { on := 6, ground := Go.Ground.phase }, { on := 7, ground := Go.Ground.phase }, { on := 8, ground := Go.Ground.phase }, { on := 9, ground := Go.Ground.phase }], guard := none }] true).wp Tryd.prog Q { tmps := #[x0, x1, .pointer (some ⟨gA, 0, none⟩), .pointer (some ⟨gO, 0, none⟩), x4, x5, z6, z7, x8, x9, x10, x11, x12, x13, x14, x15, x16, x17, x18, x19, x20, z21, z22, z23, z24, z25, z26, z27, z28, x29, x30, x31, x32, x33, x34, x35, x36, x37, x38, x39, x40, x41, x42, x43, x44, x45, x46, x47, x48, x49, x50, x51, x52, x53, x54, x55, x56, x57, x58, x59, x60, x61, x62, x63, x64, x65, x66, x67, x68, x69, x70, x71, x72, x73, x74, x75, x76, x77, x78, x79, x80, x81, x82, x83, x84, x85, x86, x87, x88, x89, x90, x91, x92, x93, x94, x95, x96, x97, x98, x99, x100, x101, x102, x103], defers := [] } w := by
  have CT := Lib.hid fun u hh => toRasRaster_any W H A c l u (by omega) hh
  have CO := Lib.hid fun u => toOpOp_any o u
  have CS : Hid (∀ (A : Option Addr) (c : Nat) (u : World), RangesIn u → l.length ≤ c → HasP u u.heap.size A l → Calls Tryd.prog 13 #[.agg #[.int .i64 W, .int .i64 H, .slice A l.length c], .agg #[.int .i64 o.k, .int .i64 o.a, .int .i64 o.b, .int .i64 o.c, .int .i64 o.d]] u (fun e w' => ∃ A0 c0, e = .returned (.tuple #[.agg #[.int .i64 (s.w : Int), .int .i64 (s.h : Int), .slice A0 s.p.length c0], .bool b]) ∧ s.p.length ≤ c0 ∧ OwnP w' u.heap.size (.slice A0 s.p.length c0) s.p ∧ Below u.heap.size u w')) := Lib.hid fun A c u hR hc hh => by
    have := specOpDo_any W H A c l o u (by omega) hc hh
    rw [hd] at this
    unfold Did at this
    rw [hs, hb] at this
    exact this
  unfold rasV at CT
  unfold Op.v at CO
  have HA := Lib.hid hA
  have HO := Lib.hid hO
  have HH := Lib.hid hh
  have HRT := Lib.hid hR
  clear hA hO hh hl hR hd hs hb
  refine wp_region_held_drew (S := fun v => Below w.heap.size w v) (by kernel_rfl) (below_draws (Below.refl _ _) 1) fun _ => ?_
  have HB0 : Hid (Below w.heap.size w w.drew) := Lib.hid (below_draws (Below.refl _ _) 1)
  generalize w.drew = u0 at *
  refine wpAnyH_takeD (i := 0) (d := 22) (v := (.agg #[.int .i64 W, .int .i64 H, .slice A l.length c])) rfl rfl (by kernel_rfl) (by kernel_rfl) (by kernel_rfl) (fun _ _ _ h => hQ _ _ _ _ _ h) HB0.out (Or.inl ⟨by rfl, fun w' hS' => ?_⟩) ?_
  · have t := Box.below HA.out hS' (Box.lt HA.out)
    have t0 := RasAtB.c0 t
    have t1 := RasAtB.c1 t
    have t2 := RasAtB.c2 t
    go_simp
  simp only [Act.put, List.setIfInBounds_toArray, List.set_cons_zero, List.set_cons_succ]
  refine wpAnyH_takeD (i := 2) (d := 24) (v := (.agg #[.int .i64 o.k, .int .i64 o.a, .int .i64 o.b, .int .i64 o.c, .int .i64 o.d])) rfl rfl (by kernel_rfl) (by kernel_rfl) (by kernel_rfl) (fun _ _ _ h => hQ _ _ _ _ _ h) HB0.out (Or.inl ⟨by rfl, fun w' hS' => ?_⟩) ?_
  · have t := Box.below HO.out hS' (Box.lt HO.out)
    have t0 := Box.cell t (i := 0) rfl
    have t1 := Box.cell t (i := 1) rfl
    have t2 := Box.cell t (i := 2) rfl
    have t3 := Box.cell t (i := 3) rfl
    have t4 := Box.cell t (i := 4) rfl
    go_simp
  simp only [Act.put, List.setIfInBounds_toArray, List.set_cons_zero, List.set_cons_succ]
  refine wpAnyH_two (i := 1) (j := 8) (by kernel_rfl) rfl rfl (fun K hK => ?_) (fun K hK => ?_)
  · go_simp
    refine (CT.out _ (HH.out.carry HB0.out (Nat.le_refl _) HB0.out.size)).mono ?_
    rintro e u1 ⟨g1, rfl, o1, b1⟩
    have HT := Lib.hid o1.reads
    clear o1
    have HB1 := Lib.hid (HB0.out.trans (b1.mono HB0.out.size))
    refine hK.out _ _ HB1.out ?_
    clear hK b1
    try simp only [Act.put, List.setIfInBounds_toArray, List.set_cons_zero, List.set_cons_succ]
    refine wpAnyH_two (i := 3) (j := 8) (by kernel_rfl) rfl rfl (fun K hK => ?_) (fun K hK => ?_)
    · go_simp
      refine (CO.out _).mono ?_
      rintro e u2 ⟨rfl, b2⟩
      have HB2 := Lib.hid (HB1.out.trans (b2.mono HB1.out.size))
      have HT_2 := Lib.hid (HT.out.carry b2 (Nat.le_refl _) b2.size)
      clear HT
      refine hK.out _ _ HB2.out ?_
      clear hK b2
      try simp only [Act.put, List.setIfInBounds_toArray, List.set_cons_zero, List.set_cons_succ]
      refine wpAnyH_two (i := 4) (j := 8) (by kernel_rfl) rfl rfl (fun K hK => ?_) (fun K hK => ?_)
      · go_simp
        refine (CS.out _ _ _ (HRT.out.next HB2.out) (Nat.le_refl _) HT_2.out).mono ?_
        rintro e u3 ⟨A0, c0, rfl, hc0, ho0, b3⟩
        have HCC := Lib.hid hc0
        have HOW := Lib.hid ho0
        have HWL := Lib.hid HB2.out.size
        clear hc0 ho0
        have HB3 := Lib.hid (HB2.out.trans (b3.mono HB2.out.size))
        refine hK.out _ _ HB3.out ?_
        clear hK b3
        try simp only [Act.put, List.setIfInBounds_toArray, List.set_cons_zero, List.set_cons_succ]
        refine wpAnyH_takeD (i := 5) (d := 21) (v := .tuple #[.agg #[.int .i64 (s.w : Int), .int .i64 (s.h : Int), .slice A0 s.p.length c0], .bool b]) rfl rfl (by kernel_rfl) (by kernel_rfl) (by kernel_rfl) (fun _ _ _ h => hQ _ _ _ _ _ h) HB3.out (Or.inl ⟨by rfl, fun w' hS' => ?_⟩) ?_
        · go_simp
        simp only [Act.put, List.setIfInBounds_toArray, List.set_cons_zero, List.set_cons_succ]
        refine wpAnyH_takeD (i := 6) (d := 27) (v := .agg #[.int .i64 (s.w : Int), .int .i64 (s.h : Int), .slice A0 s.p.length c0]) rfl rfl (by kernel_rfl) (by kernel_rfl) (by kernel_rfl) (fun _ _ _ h => hQ _ _ _ _ _ h) HB3.out (Or.inl ⟨by rfl, fun w' hS' => ?_⟩) ?_
        · go_simp
        simp only [Act.put, List.setIfInBounds_toArray, List.set_cons_zero, List.set_cons_succ]
        refine wpAnyH_takeD (i := 7) (d := 28) (v := .bool b) rfl rfl (by kernel_rfl) (by kernel_rfl) (by kernel_rfl) (fun _ _ _ h => hQ _ _ _ _ _ h) HB3.out (Or.inl ⟨by rfl, fun w' hS' => ?_⟩) ?_
        · go_simp
        simp only [Act.put, List.setIfInBounds_toArray, List.set_cons_zero, List.set_cons_succ]
        refine wpAnyH_one (i := 8) (by kernel_rfl) rfl (fun K hK => ?_)
        have HOWA := Lib.hid (HOW.out.alloc (.cells #[.int .i64 0, .int .i64 0, .slice none 0 0] 25))
        have HNE : Hid (∀ q, (Value.slice A0 s.p.length c0).ownBlock = some q → q ≠ u3.heap.size) := Lib.hid fun q e => by have := (World.ownsRow.lt HOW.out q e).2; omega
        go_simp
        have b4 : Below u3.heap.size u3 (u3.alloc (.cells #[.int .i64 0, .int .i64 0, .slice none 0 0] 25)) := (Below.refl _ _).alloc (Nat.le_refl _) _
        have HZ4 := Lib.hid (laid_zero u3)
        have HLO4 : Hid (u3.heap.size < (u3.alloc (.cells #[.int .i64 0, .int .i64 0, .slice none 0 0] 25)).heap.size) := Lib.hid (by simp)
        have HGA := Lib.hid HB3.out.size
        have HB4 := Lib.hid (HB3.out.trans (b4.mono HB3.out.size))
        refine hK.out _ _ HB4.out ?_
        clear hK b4
        try simp only [Act.put, List.setIfInBounds_toArray, List.set_cons_zero, List.set_cons_succ]
        generalize u3.alloc (.cells #[.int .i64 0, .int .i64 0, .slice none 0 0] 25) = u4 at *
        have z0 := RasAtB.c0 HZ4.out
        have z1 := RasAtB.c1 HZ4.out
        have z2 := RasAtB.c2 HZ4.out
        have f0 := RasAtB.free HZ4.out 0
        have f1 := RasAtB.free HZ4.out 1
        have f2 := RasAtB.free HZ4.out 2
        have HE := Lib.hid (laid_store (w := w) HZ4.out HCC.out (HOWA.out.lower HWL.out) HNE.out HGA.out HB4.out)
        refine wpAnyH_one (i := 9) (by kernel_rfl) rfl (fun K hK => ?_)
        go_simp
        refine hK.out _ _ HE.out.2.2.2.2.2 ?_
        clear hK z0 z1 z2 f0 f1 f2
        try simp only [Act.put, List.setIfInBounds_toArray, List.set_cons_zero, List.set_cons_succ]
        refine wpAnyH_one (i := 10) (by kernel_rfl) rfl (fun K hK => ?_)
        go_simp
        refine hK.out _ _ HE.out.2.2.2.2.2 ?_
        clear hK
        refine wpAnyH_done (by kernel_rfl) ?_ _
        exact hq.out _ _ _ _ _ _ _ _ _ _ _ _ HE.out
      · go_simp
        have b5 : Below u2.heap.size u2 (u2.alloc (.cells #[.int .i64 0, .int .i64 0, .slice none 0 0] 25)) := (Below.refl _ _).alloc (Nat.le_refl _) _
        have HZ5 := Lib.hid (laid_zero u2)
        have HLO5 : Hid (u2.heap.size < (u2.alloc (.cells #[.int .i64 0, .int .i64 0, .slice none 0 0] 25)).heap.size) := Lib.hid (by simp)
        have HGA := Lib.hid HB2.out.size
        have HB5 := Lib.hid (HB2.out.trans (b5.mono HB2.out.size))
        have HT_5 := Lib.hid (HT_2.out.carry b5 (Nat.le_refl _) b5.size)
        clear HT_2
        refine hK.out _ _ HB5.out ?_
        clear hK b5
        try simp only [Act.put, List.setIfInBounds_toArray, List.set_cons_zero, List.set_cons_succ]
        generalize u2.alloc (.cells #[.int .i64 0, .int .i64 0, .slice none 0 0] 25) = u5 at *
        refine wpAnyH_one (i := 4) (by kernel_rfl) rfl (fun K hK => ?_)
        go_simp
        refine (CS.out _ _ _ (HRT.out.next HB5.out) (Nat.le_refl _) HT_5.out).mono ?_
        rintro e u6 ⟨A0, c0, rfl, hc0, ho0, b6⟩
        have HCC := Lib.hid hc0
        have HOW := Lib.hid ho0
        have HWL := Lib.hid HB5.out.size
        clear hc0 ho0
        have HLOB := HLO5
        have HB6 := Lib.hid (HB5.out.trans (b6.mono HB5.out.size))
        have HZ6 := Lib.hid (Box.below HZ5.out b6 (Box.lt HZ5.out))
        have HLO6 : Hid (u2.heap.size < u6.heap.size) := Lib.hid (Nat.lt_of_lt_of_le (Box.lt HZ5.out) b6.size)
        refine hK.out _ _ HB6.out ?_
        clear hK b6
        try simp only [Act.put, List.setIfInBounds_toArray, List.set_cons_zero, List.set_cons_succ]
        refine wpAnyH_takeD (i := 5) (d := 21) (v := .tuple #[.agg #[.int .i64 (s.w : Int), .int .i64 (s.h : Int), .slice A0 s.p.length c0], .bool b]) rfl rfl (by kernel_rfl) (by kernel_rfl) (by kernel_rfl) (fun _ _ _ h => hQ _ _ _ _ _ h) HB6.out (Or.inl ⟨by rfl, fun w' hS' => ?_⟩) ?_
        · go_simp
        simp only [Act.put, List.setIfInBounds_toArray, List.set_cons_zero, List.set_cons_succ]
        refine wpAnyH_takeD (i := 6) (d := 27) (v := .agg #[.int .i64 (s.w : Int), .int .i64 (s.h : Int), .slice A0 s.p.length c0]) rfl rfl (by kernel_rfl) (by kernel_rfl) (by kernel_rfl) (fun _ _ _ h => hQ _ _ _ _ _ h) HB6.out (Or.inl ⟨by rfl, fun w' hS' => ?_⟩) ?_
        · go_simp
        simp only [Act.put, List.setIfInBounds_toArray, List.set_cons_zero, List.set_cons_succ]
        refine wpAnyH_takeD (i := 7) (d := 28) (v := .bool b) rfl rfl (by kernel_rfl) (by kernel_rfl) (by kernel_rfl) (fun _ _ _ h => hQ _ _ _ _ _ h) HB6.out (Or.inl ⟨by rfl, fun w' hS' => ?_⟩) ?_
        · go_simp
        simp only [Act.put, List.setIfInBounds_toArray, List.set_cons_zero, List.set_cons_succ]
        have HNE : Hid (∀ q, (Value.slice A0 s.p.length c0).ownBlock = some q → q ≠ u2.heap.size) := Lib.hid fun q e => by have := (World.ownsRow.lt HOW.out q e).1; have := HLOB.out; omega
        have z0 := RasAtB.c0 HZ6.out
        have z1 := RasAtB.c1 HZ6.out
        have z2 := RasAtB.c2 HZ6.out
        have f0 := RasAtB.free HZ6.out 0
        have f1 := RasAtB.free HZ6.out 1
        have f2 := RasAtB.free HZ6.out 2
        have HE := Lib.hid (laid_store (w := w) HZ6.out HCC.out (HOW.out.lower HWL.out) HNE.out HGA.out HB6.out)
        refine wpAnyH_one (i := 9) (by kernel_rfl) rfl (fun K hK => ?_)
        go_simp
        refine hK.out _ _ HE.out.2.2.2.2.2 ?_
        clear hK z0 z1 z2 f0 f1 f2
        try simp only [Act.put, List.setIfInBounds_toArray, List.set_cons_zero, List.set_cons_succ]
        refine wpAnyH_one (i := 10) (by kernel_rfl) rfl (fun K hK => ?_)
        go_simp
        refine hK.out _ _ HE.out.2.2.2.2.2 ?_
        clear hK
        refine wpAnyH_done (by kernel_rfl) ?_ _
        exact hq.out _ _ _ _ _ _ _ _ _ _ _ _ HE.out
    · go_simp
      have b7 : Below u1.heap.size u1 (u1.alloc (.cells #[.int .i64 0, .int .i64 0, .slice none 0 0] 25)) := (Below.refl _ _).alloc (Nat.le_refl _) _
      have HZ7 := Lib.hid (laid_zero u1)
      have HLO7 : Hid (u1.heap.size < (u1.alloc (.cells #[.int .i64 0, .int .i64 0, .slice none 0 0] 25)).heap.size) := Lib.hid (by simp)
      have HGA := Lib.hid HB1.out.size
      have HB7 := Lib.hid (HB1.out.trans (b7.mono HB1.out.size))
      have HT_7 := Lib.hid (HT.out.carry b7 (Nat.le_refl _) b7.size)
      clear HT
      refine hK.out _ _ HB7.out ?_
      clear hK b7
      try simp only [Act.put, List.setIfInBounds_toArray, List.set_cons_zero, List.set_cons_succ]
      generalize u1.alloc (.cells #[.int .i64 0, .int .i64 0, .slice none 0 0] 25) = u7 at *
      refine wpAnyH_one (i := 3) (by kernel_rfl) rfl (fun K hK => ?_)
      go_simp
      refine (CO.out _).mono ?_
      rintro e u8 ⟨rfl, b8⟩
      have HB8 := Lib.hid (HB7.out.trans (b8.mono HB7.out.size))
      have HT_8 := Lib.hid (HT_7.out.carry b8 (Nat.le_refl _) b8.size)
      clear HT_7
      have HZ8 := Lib.hid (Box.below HZ7.out b8 (Box.lt HZ7.out))
      have HLO8 : Hid (u1.heap.size < u8.heap.size) := Lib.hid (Nat.lt_of_lt_of_le (Box.lt HZ7.out) b8.size)
      refine hK.out _ _ HB8.out ?_
      clear hK b8
      try simp only [Act.put, List.setIfInBounds_toArray, List.set_cons_zero, List.set_cons_succ]
      refine wpAnyH_one (i := 4) (by kernel_rfl) rfl (fun K hK => ?_)
      go_simp
      refine (CS.out _ _ _ (HRT.out.next HB8.out) (Nat.le_refl _) HT_8.out).mono ?_
      rintro e u9 ⟨A0, c0, rfl, hc0, ho0, b9⟩
      have HCC := Lib.hid hc0
      have HOW := Lib.hid ho0
      have HWL := Lib.hid HB8.out.size
      clear hc0 ho0
      have HLOB := HLO8
      have HB9 := Lib.hid (HB8.out.trans (b9.mono HB8.out.size))
      have HZ9 := Lib.hid (Box.below HZ8.out b9 (Box.lt HZ8.out))
      have HLO9 : Hid (u1.heap.size < u9.heap.size) := Lib.hid (Nat.lt_of_lt_of_le (Box.lt HZ8.out) b9.size)
      refine hK.out _ _ HB9.out ?_
      clear hK b9
      try simp only [Act.put, List.setIfInBounds_toArray, List.set_cons_zero, List.set_cons_succ]
      refine wpAnyH_takeD (i := 5) (d := 21) (v := .tuple #[.agg #[.int .i64 (s.w : Int), .int .i64 (s.h : Int), .slice A0 s.p.length c0], .bool b]) rfl rfl (by kernel_rfl) (by kernel_rfl) (by kernel_rfl) (fun _ _ _ h => hQ _ _ _ _ _ h) HB9.out (Or.inl ⟨by rfl, fun w' hS' => ?_⟩) ?_
      · go_simp
      simp only [Act.put, List.setIfInBounds_toArray, List.set_cons_zero, List.set_cons_succ]
      refine wpAnyH_takeD (i := 6) (d := 27) (v := .agg #[.int .i64 (s.w : Int), .int .i64 (s.h : Int), .slice A0 s.p.length c0]) rfl rfl (by kernel_rfl) (by kernel_rfl) (by kernel_rfl) (fun _ _ _ h => hQ _ _ _ _ _ h) HB9.out (Or.inl ⟨by rfl, fun w' hS' => ?_⟩) ?_
      · go_simp
      simp only [Act.put, List.setIfInBounds_toArray, List.set_cons_zero, List.set_cons_succ]
      refine wpAnyH_takeD (i := 7) (d := 28) (v := .bool b) rfl rfl (by kernel_rfl) (by kernel_rfl) (by kernel_rfl) (fun _ _ _ h => hQ _ _ _ _ _ h) HB9.out (Or.inl ⟨by rfl, fun w' hS' => ?_⟩) ?_
      · go_simp
      simp only [Act.put, List.setIfInBounds_toArray, List.set_cons_zero, List.set_cons_succ]
      have HNE : Hid (∀ q, (Value.slice A0 s.p.length c0).ownBlock = some q → q ≠ u1.heap.size) := Lib.hid fun q e => by have := (World.ownsRow.lt HOW.out q e).1; have := HLOB.out; omega
      have z0 := RasAtB.c0 HZ9.out
      have z1 := RasAtB.c1 HZ9.out
      have z2 := RasAtB.c2 HZ9.out
      have f0 := RasAtB.free HZ9.out 0
      have f1 := RasAtB.free HZ9.out 1
      have f2 := RasAtB.free HZ9.out 2
      have HE := Lib.hid (laid_store (w := w) HZ9.out HCC.out (HOW.out.lower HWL.out) HNE.out HGA.out HB9.out)
      refine wpAnyH_one (i := 9) (by kernel_rfl) rfl (fun K hK => ?_)
      go_simp
      refine hK.out _ _ HE.out.2.2.2.2.2 ?_
      clear hK z0 z1 z2 f0 f1 f2
      try simp only [Act.put, List.setIfInBounds_toArray, List.set_cons_zero, List.set_cons_succ]
      refine wpAnyH_one (i := 10) (by kernel_rfl) rfl (fun K hK => ?_)
      go_simp
      refine hK.out _ _ HE.out.2.2.2.2.2 ?_
      clear hK
      refine wpAnyH_done (by kernel_rfl) ?_ _
      exact hq.out _ _ _ _ _ _ _ _ _ _ _ _ HE.out
  · go_simp
    have b10 : Below u0.heap.size u0 (u0.alloc (.cells #[.int .i64 0, .int .i64 0, .slice none 0 0] 25)) := (Below.refl _ _).alloc (Nat.le_refl _) _
    have HZ10 := Lib.hid (laid_zero u0)
    have HLO10 : Hid (u0.heap.size < (u0.alloc (.cells #[.int .i64 0, .int .i64 0, .slice none 0 0] 25)).heap.size) := Lib.hid (by simp)
    have HGA := Lib.hid HB0.out.size
    have HB10 := Lib.hid (HB0.out.trans (b10.mono HB0.out.size))
    refine hK.out _ _ HB10.out ?_
    clear hK b10
    try simp only [Act.put, List.setIfInBounds_toArray, List.set_cons_zero, List.set_cons_succ]
    generalize u0.alloc (.cells #[.int .i64 0, .int .i64 0, .slice none 0 0] 25) = u10 at *
    refine wpAnyH_one (i := 1) (by kernel_rfl) rfl (fun K hK => ?_)
    go_simp
    refine (CT.out _ (HH.out.carry HB10.out (Nat.le_refl _) HB10.out.size)).mono ?_
    rintro e u11 ⟨g1, rfl, o1, b11⟩
    have HT := Lib.hid o1.reads
    clear o1
    have HB11 := Lib.hid (HB10.out.trans (b11.mono HB10.out.size))
    have HZ11 := Lib.hid (Box.below HZ10.out b11 (Box.lt HZ10.out))
    have HLO11 : Hid (u0.heap.size < u11.heap.size) := Lib.hid (Nat.lt_of_lt_of_le (Box.lt HZ10.out) b11.size)
    refine hK.out _ _ HB11.out ?_
    clear hK b11
    try simp only [Act.put, List.setIfInBounds_toArray, List.set_cons_zero, List.set_cons_succ]
    refine wpAnyH_one (i := 3) (by kernel_rfl) rfl (fun K hK => ?_)
    go_simp
    refine (CO.out _).mono ?_
    rintro e u12 ⟨rfl, b12⟩
    have HB12 := Lib.hid (HB11.out.trans (b12.mono HB11.out.size))
    have HT_12 := Lib.hid (HT.out.carry b12 (Nat.le_refl _) b12.size)
    clear HT
    have HZ12 := Lib.hid (Box.below HZ11.out b12 (Box.lt HZ11.out))
    have HLO12 : Hid (u0.heap.size < u12.heap.size) := Lib.hid (Nat.lt_of_lt_of_le (Box.lt HZ11.out) b12.size)
    refine hK.out _ _ HB12.out ?_
    clear hK b12
    try simp only [Act.put, List.setIfInBounds_toArray, List.set_cons_zero, List.set_cons_succ]
    refine wpAnyH_one (i := 4) (by kernel_rfl) rfl (fun K hK => ?_)
    go_simp
    refine (CS.out _ _ _ (HRT.out.next HB12.out) (Nat.le_refl _) HT_12.out).mono ?_
    rintro e u13 ⟨A0, c0, rfl, hc0, ho0, b13⟩
    have HCC := Lib.hid hc0
    have HOW := Lib.hid ho0
    have HWL := Lib.hid HB12.out.size
    clear hc0 ho0
    have HLOB := HLO12
    have HB13 := Lib.hid (HB12.out.trans (b13.mono HB12.out.size))
    have HZ13 := Lib.hid (Box.below HZ12.out b13 (Box.lt HZ12.out))
    have HLO13 : Hid (u0.heap.size < u13.heap.size) := Lib.hid (Nat.lt_of_lt_of_le (Box.lt HZ12.out) b13.size)
    refine hK.out _ _ HB13.out ?_
    clear hK b13
    try simp only [Act.put, List.setIfInBounds_toArray, List.set_cons_zero, List.set_cons_succ]
    refine wpAnyH_takeD (i := 5) (d := 21) (v := .tuple #[.agg #[.int .i64 (s.w : Int), .int .i64 (s.h : Int), .slice A0 s.p.length c0], .bool b]) rfl rfl (by kernel_rfl) (by kernel_rfl) (by kernel_rfl) (fun _ _ _ h => hQ _ _ _ _ _ h) HB13.out (Or.inl ⟨by rfl, fun w' hS' => ?_⟩) ?_
    · go_simp
    simp only [Act.put, List.setIfInBounds_toArray, List.set_cons_zero, List.set_cons_succ]
    refine wpAnyH_takeD (i := 6) (d := 27) (v := .agg #[.int .i64 (s.w : Int), .int .i64 (s.h : Int), .slice A0 s.p.length c0]) rfl rfl (by kernel_rfl) (by kernel_rfl) (by kernel_rfl) (fun _ _ _ h => hQ _ _ _ _ _ h) HB13.out (Or.inl ⟨by rfl, fun w' hS' => ?_⟩) ?_
    · go_simp
    simp only [Act.put, List.setIfInBounds_toArray, List.set_cons_zero, List.set_cons_succ]
    refine wpAnyH_takeD (i := 7) (d := 28) (v := .bool b) rfl rfl (by kernel_rfl) (by kernel_rfl) (by kernel_rfl) (fun _ _ _ h => hQ _ _ _ _ _ h) HB13.out (Or.inl ⟨by rfl, fun w' hS' => ?_⟩) ?_
    · go_simp
    simp only [Act.put, List.setIfInBounds_toArray, List.set_cons_zero, List.set_cons_succ]
    have HNE : Hid (∀ q, (Value.slice A0 s.p.length c0).ownBlock = some q → q ≠ u0.heap.size) := Lib.hid fun q e => by have := (World.ownsRow.lt HOW.out q e).1; have := HLOB.out; omega
    have z0 := RasAtB.c0 HZ13.out
    have z1 := RasAtB.c1 HZ13.out
    have z2 := RasAtB.c2 HZ13.out
    have f0 := RasAtB.free HZ13.out 0
    have f1 := RasAtB.free HZ13.out 1
    have f2 := RasAtB.free HZ13.out 2
    have HE := Lib.hid (laid_store (w := w) HZ13.out HCC.out (HOW.out.lower HWL.out) HNE.out HGA.out HB13.out)
    refine wpAnyH_one (i := 9) (by kernel_rfl) rfl (fun K hK => ?_)
    go_simp
    refine hK.out _ _ HE.out.2.2.2.2.2 ?_
    clear hK z0 z1 z2 f0 f1 f2
    try simp only [Act.put, List.setIfInBounds_toArray, List.set_cons_zero, List.set_cons_succ]
    refine wpAnyH_one (i := 10) (by kernel_rfl) rfl (fun K hK => ?_)
    go_simp
    refine hK.out _ _ HE.out.2.2.2.2.2 ?_
    clear hK
    refine wpAnyH_done (by kernel_rfl) ?_ _
    exact hq.out _ _ _ _ _ _ _ _ _ _ _ _ HE.out
set_option maxHeartbeats 8000000 in
set_option maxRecDepth 10000 in
theorem exOpDo_r7 {Q : Exit → Act → World → Prop} {x0 x1 x2 x4 x5 x6 x7 z9 z10 x11 x12 x13 x14 x15 x16 x17 x18 x19 x20 x21 x22 x23 x24 x25 x26 x27 x28 x29 x30 z31 z32 z33 z34 z35 z36 z37 x38 x39 x40 x41 x42 x43 x44 x45 x46 x47 x48 x49 x50 x51 x52 x53 x54 x55 x56 x57 x58 x59 x60 x61 x62 x63 x64 x65 x66 x67 x68 x69 x70 x71 x72 x73 x74 x75 x76 x77 x78 x79 x80 x81 x82 x83 x84 x85 x86 x87 x88 x89 x90 x91 x92 x93 x94 x95 x96 x97 x98 x99 x100 x101 x102 x103 : Value} {w : World} (gA gO : Nat) (W H : Int) (A : Option Addr) (c : Nat) (l : List Px) (o : Op) (d : Option Ra) (s : Ra) (b : Bool) (hA : RasAtB w gA W H A l.length c 25) (hO : Box w gO #[.int .i64 o.k, .int .i64 o.a, .int .i64 o.b, .int .i64 o.c, .int .i64 o.d] 46) (hh : HasP w w.heap.size A l) (hl : l.length ≤ 1048576) (hlc : l.length ≤ c) (hR : RangesIn w) (hd : putO W H l o = d) (hs : d.getD ra0 = s) (hb : d.isSome = b)
    (hQ : ∀ (c : List PanicEntry) (a : Act) (k : Nat) (v : Value) (u : World), Q (.panic c) (a.put (some k) v) u → Q (.panic c) a u) (hq : Hid (∀ (g : Nat) (A0 : Option Addr) (c0 : Nat) (y31 y32 y33 y34 y35 y36 y37 : Value) (w' : World), Laid w s g A0 c0 w' → Q .normal { tmps := #[x0, x1, x2, .pointer (some ⟨gO, 0, none⟩), x4, x5, x6, x7, .pointer (some ⟨gA, 0, none⟩), .pointer (some ⟨g, 0, none⟩), .bool b, x11, x12, x13, x14, x15, x16, x17, x18, x19, x20, x21, x22, x23, x24, x25, x26, x27, x28, x29, x30, y31, y32, y33, y34, y35, y36, y37, x38, x39, x40, x41, x42, x43, x44, x45, x46, x47, x48, x49, x50, x51, x52, x53, x54, x55, x56, x57, x58, x59, x60, x61, x62, x63, x64, x65, x66, x67, x68, x69, x70, x71, x72, x73, x74, x75, x76, x77, x78, x79, x80, x81, x82, x83, x84, x85, x86, x87, x88, x89, x90, x91, x92, x93, x94, x95, x96, x97, x98, x99, x100, x101, x102, x103], defers := [] } w')) :
    (Code.region 7 #[{ dst := some 32, op := Go.Op.load 25 (Go.Operand.tmp 8), type := 25, pos := "exact.go:2377", after := #[], guard := none }, { dst := some 33, op := Go.Op.load 46 (Go.Operand.tmp 3), type := 46, pos := "exact.go:2377", after := #[], guard := none }, { dst := some 34, op := Go.Op.call { callee := Go.Callee.value (Go.Operand.func 25), args := #[Go.Operand.tmp 33], argTypes := #[46] }, type := 27, pos := "exact.go:2377", after := #[{ on := 1, ground := Go.Ground.data }], guard := none }, { dst := some 35, op := Go.Op.call { callee := Go.Callee.value (Go.Operand.func 12), args := #[Go.Operand.tmp 32, Go.Operand.tmp 34], argTypes := #[25, 27] }, type := 30, pos := "exact.go:2377", after := #[{ on := 0, ground := Go.Ground.data }, { on := 2, ground := Go.Ground.data }, { on := 2, ground := Go.Ground.chain }], guard := none }, { dst := some 31, op := Go.Op.move (Go.Operand.tmp 35), type := 30, pos := "exact.go:2377", after := #[{ on := 3, ground := Go.Ground.data }], guard := none }, { dst := some 36, op := Go.Op.extract (Go.Operand.tmp 31) 0, type := 25, pos := "exact.go:2377", after := #[{ on := 4, ground := Go.Ground.data }], guard := none }, { dst := some 37, op := Go.Op.extract (Go.Operand.tmp 31) 1, type := 4, pos := "exact.go:2377", after := #[{ on := 4, ground := Go.Ground.data }, { on := 8, ground := Go.Ground.gcOnly Go.Departure.lateStores }], guard := none }, { dst := some 9, op := Go.Op.alloc 25, type := 0, pos := "exact.go:2377", after := #[], guard := none }, { dst := none, op := Go.Op.store 25 (Go.Operand.tmp 9) (Go.Operand.tmp 36), type := 0, pos := "exact.go:2377", after := #[{ on := 7, ground := Go.Ground.data }, { on := 5, ground := Go.Ground.data }, { on := 3, ground := Go.Ground.chain }, { on := 0, ground := Go.Ground.phase }, { on := 1, ground := Go.Ground.phase }, { on := 2, ground := Go.Ground.phase }, { on := 3, ground := Go.Ground.phase }, { on := 4, ground := Go.Ground.phase }, { on := 5, ground := Go.Ground.phase }, { on := 6, ground := Go.Ground.textOnly Go.Departure.lateStores }, { on := 7, ground := Go.Ground.phase }], guard := none }, { dst := some 10, op := Go.Op.assign (Go.Operand.tmp 37), type := 4, pos := "exact.go:2377", after := #[{ on := 6, ground := Go.Ground.data }, { on := 8, ground := Go.Ground.chain }, { on := 0, ground := Go.Ground.phase }, { on := 1, ground := Go.Ground.phase }, { on := 2, ground := Go.Ground.phase }, { on := 3, ground := Go.Ground.phase }, { on := 4, ground := Go.Ground.phase }, { on := 5, ground := Go.Ground.phase }, { on := 6, ground := Go.Ground.phase }, { on := 7, ground := Go.Ground.phase }, { on := 8, ground := Go.Ground.phase }], guard := none }] true).wp Tryd.prog Q { tmps := #[x0, x1, x2, .pointer (some ⟨gO, 0, none⟩), x4, x5, x6, x7, .pointer (some ⟨gA, 0, none⟩), z9, z10, x11, x12, x13, x14, x15, x16, x17, x18, x19, x20, x21, x22, x23, x24, x25, x26, x27, x28, x29, x30, z31, z32, z33, z34, z35, z36, z37, x38, x39, x40, x41, x42, x43, x44, x45, x46, x47, x48, x49, x50, x51, x52, x53, x54, x55, x56, x57, x58, x59, x60, x61, x62, x63, x64, x65, x66, x67, x68, x69, x70, x71, x72, x73, x74, x75, x76, x77, x78, x79, x80, x81, x82, x83, x84, x85, x86, x87, x88, x89, x90, x91, x92, x93, x94, x95, x96, x97, x98, x99, x100, x101, x102, x103], defers := [] } w := by
  have CT := Lib.hid fun u hh => toRasRaster_any W H A c l u (by omega) hh
  have CO := Lib.hid fun u => toOpOp_any o u
  have CS : Hid (∀ (A : Option Addr) (c : Nat) (u : World), RangesIn u → l.length ≤ c → HasP u u.heap.size A l → Calls Tryd.prog 12 #[.agg #[.int .i64 W, .int .i64 H, .slice A l.length c], .agg #[.int .i64 o.k, .int .i64 o.a, .int .i64 o.b, .int .i64 o.c, .int .i64 o.d]] u (fun e w' => ∃ A0 c0, e = .returned (.tuple #[.agg #[.int .i64 (s.w : Int), .int .i64 (s.h : Int), .slice A0 s.p.length c0], .bool b]) ∧ s.p.length ≤ c0 ∧ OwnP w' u.heap.size (.slice A0 s.p.length c0) s.p ∧ Below u.heap.size u w')) := Lib.hid fun A c u hR hc hh => by
    have := implOpDo_any W H A c l o u hR (by omega) hc hh
    rw [hd] at this
    unfold Did at this
    rw [hs, hb] at this
    exact this
  unfold rasV at CT
  unfold Op.v at CO
  have HA := Lib.hid hA
  have HO := Lib.hid hO
  have HH := Lib.hid hh
  have HRT := Lib.hid hR
  clear hA hO hh hl hR hd hs hb
  have HLC := Lib.hid hlc
  clear hlc
  refine wp_region_held_drew (S := fun v => Below w.heap.size w v) (by kernel_rfl) (below_draws (Below.refl _ _) 1) fun _ => ?_
  have HB0 : Hid (Below w.heap.size w w.drew) := Lib.hid (below_draws (Below.refl _ _) 1)
  generalize w.drew = u0 at *
  refine wpAnyH_takeD (i := 0) (d := 32) (v := (.agg #[.int .i64 W, .int .i64 H, .slice A l.length c])) rfl rfl (by kernel_rfl) (by kernel_rfl) (by kernel_rfl) (fun _ _ _ h => hQ _ _ _ _ _ h) HB0.out (Or.inl ⟨by rfl, fun w' hS' => ?_⟩) ?_
  · have t := Box.below HA.out hS' (Box.lt HA.out)
    have t0 := RasAtB.c0 t
    have t1 := RasAtB.c1 t
    have t2 := RasAtB.c2 t
    go_simp
  simp only [Act.put, List.setIfInBounds_toArray, List.set_cons_zero, List.set_cons_succ]
  refine wpAnyH_takeD (i := 1) (d := 33) (v := (.agg #[.int .i64 o.k, .int .i64 o.a, .int .i64 o.b, .int .i64 o.c, .int .i64 o.d])) rfl rfl (by kernel_rfl) (by kernel_rfl) (by kernel_rfl) (fun _ _ _ h => hQ _ _ _ _ _ h) HB0.out (Or.inl ⟨by rfl, fun w' hS' => ?_⟩) ?_
  · have t := Box.below HO.out hS' (Box.lt HO.out)
    have t0 := Box.cell t (i := 0) rfl
    have t1 := Box.cell t (i := 1) rfl
    have t2 := Box.cell t (i := 2) rfl
    have t3 := Box.cell t (i := 3) rfl
    have t4 := Box.cell t (i := 4) rfl
    go_simp
  simp only [Act.put, List.setIfInBounds_toArray, List.set_cons_zero, List.set_cons_succ]
  refine wpAnyH_two (i := 2) (j := 7) (by kernel_rfl) rfl rfl (fun K hK => ?_) (fun K hK => ?_)
  · go_simp
    refine (CO.out _).mono ?_
    rintro e u1 ⟨rfl, b1⟩
    have HB1 := Lib.hid (HB0.out.trans (b1.mono HB0.out.size))
    refine hK.out _ _ HB1.out ?_
    clear hK b1
    try simp only [Act.put, List.setIfInBounds_toArray, List.set_cons_zero, List.set_cons_succ]
    refine wpAnyH_two (i := 3) (j := 7) (by kernel_rfl) rfl rfl (fun K hK => ?_) (fun K hK => ?_)
    · go_simp
      refine (CS.out _ _ _ (HRT.out.next HB1.out) HLC.out (HH.out.carry HB1.out (Nat.le_refl _) HB1.out.size)).mono ?_
      rintro e u2 ⟨A0, c0, rfl, hc0, ho0, b2⟩
      have HCC := Lib.hid hc0
      have HOW := Lib.hid ho0
      have HWL := Lib.hid HB1.out.size
      clear hc0 ho0
      have HB2 := Lib.hid (HB1.out.trans (b2.mono HB1.out.size))
      refine hK.out _ _ HB2.out ?_
      clear hK b2
      try simp only [Act.put, List.setIfInBounds_toArray, List.set_cons_zero, List.set_cons_succ]
      refine wpAnyH_takeD (i := 4) (d := 31) (v := .tuple #[.agg #[.int .i64 (s.w : Int), .int .i64 (s.h : Int), .slice A0 s.p.length c0], .bool b]) rfl rfl (by kernel_rfl) (by kernel_rfl) (by kernel_rfl) (fun _ _ _ h => hQ _ _ _ _ _ h) HB2.out (Or.inl ⟨by rfl, fun w' hS' => ?_⟩) ?_
      · go_simp
      simp only [Act.put, List.setIfInBounds_toArray, List.set_cons_zero, List.set_cons_succ]
      refine wpAnyH_takeD (i := 5) (d := 36) (v := .agg #[.int .i64 (s.w : Int), .int .i64 (s.h : Int), .slice A0 s.p.length c0]) rfl rfl (by kernel_rfl) (by kernel_rfl) (by kernel_rfl) (fun _ _ _ h => hQ _ _ _ _ _ h) HB2.out (Or.inl ⟨by rfl, fun w' hS' => ?_⟩) ?_
      · go_simp
      simp only [Act.put, List.setIfInBounds_toArray, List.set_cons_zero, List.set_cons_succ]
      refine wpAnyH_takeD (i := 6) (d := 37) (v := .bool b) rfl rfl (by kernel_rfl) (by kernel_rfl) (by kernel_rfl) (fun _ _ _ h => hQ _ _ _ _ _ h) HB2.out (Or.inl ⟨by rfl, fun w' hS' => ?_⟩) ?_
      · go_simp
      simp only [Act.put, List.setIfInBounds_toArray, List.set_cons_zero, List.set_cons_succ]
      refine wpAnyH_one (i := 7) (by kernel_rfl) rfl (fun K hK => ?_)
      have HOWA := Lib.hid (HOW.out.alloc (.cells #[.int .i64 0, .int .i64 0, .slice none 0 0] 25))
      have HNE : Hid (∀ q, (Value.slice A0 s.p.length c0).ownBlock = some q → q ≠ u2.heap.size) := Lib.hid fun q e => by have := (World.ownsRow.lt HOW.out q e).2; omega
      go_simp
      have b3 : Below u2.heap.size u2 (u2.alloc (.cells #[.int .i64 0, .int .i64 0, .slice none 0 0] 25)) := (Below.refl _ _).alloc (Nat.le_refl _) _
      have HZ3 := Lib.hid (laid_zero u2)
      have HLO3 : Hid (u2.heap.size < (u2.alloc (.cells #[.int .i64 0, .int .i64 0, .slice none 0 0] 25)).heap.size) := Lib.hid (by simp)
      have HGA := Lib.hid HB2.out.size
      have HB3 := Lib.hid (HB2.out.trans (b3.mono HB2.out.size))
      refine hK.out _ _ HB3.out ?_
      clear hK b3
      try simp only [Act.put, List.setIfInBounds_toArray, List.set_cons_zero, List.set_cons_succ]
      generalize u2.alloc (.cells #[.int .i64 0, .int .i64 0, .slice none 0 0] 25) = u3 at *
      have z0 := RasAtB.c0 HZ3.out
      have z1 := RasAtB.c1 HZ3.out
      have z2 := RasAtB.c2 HZ3.out
      have f0 := RasAtB.free HZ3.out 0
      have f1 := RasAtB.free HZ3.out 1
      have f2 := RasAtB.free HZ3.out 2
      have HE := Lib.hid (laid_store (w := w) HZ3.out HCC.out (HOWA.out.lower HWL.out) HNE.out HGA.out HB3.out)
      refine wpAnyH_one (i := 8) (by kernel_rfl) rfl (fun K hK => ?_)
      go_simp
      refine hK.out _ _ HE.out.2.2.2.2.2 ?_
      clear hK z0 z1 z2 f0 f1 f2
      try simp only [Act.put, List.setIfInBounds_toArray, List.set_cons_zero, List.set_cons_succ]
      refine wpAnyH_one (i := 9) (by kernel_rfl) rfl (fun K hK => ?_)
      go_simp
      refine hK.out _ _ HE.out.2.2.2.2.2 ?_
      clear hK
      refine wpAnyH_done (by kernel_rfl) ?_ _
      exact hq.out _ _ _ _ _ _ _ _ _ _ _ HE.out
    · go_simp
      have b4 : Below u1.heap.size u1 (u1.alloc (.cells #[.int .i64 0, .int .i64 0, .slice none 0 0] 25)) := (Below.refl _ _).alloc (Nat.le_refl _) _
      have HZ4 := Lib.hid (laid_zero u1)
      have HLO4 : Hid (u1.heap.size < (u1.alloc (.cells #[.int .i64 0, .int .i64 0, .slice none 0 0] 25)).heap.size) := Lib.hid (by simp)
      have HGA := Lib.hid HB1.out.size
      have HB4 := Lib.hid (HB1.out.trans (b4.mono HB1.out.size))
      refine hK.out _ _ HB4.out ?_
      clear hK b4
      try simp only [Act.put, List.setIfInBounds_toArray, List.set_cons_zero, List.set_cons_succ]
      generalize u1.alloc (.cells #[.int .i64 0, .int .i64 0, .slice none 0 0] 25) = u4 at *
      refine wpAnyH_one (i := 3) (by kernel_rfl) rfl (fun K hK => ?_)
      go_simp
      refine (CS.out _ _ _ (HRT.out.next HB4.out) HLC.out (HH.out.carry HB4.out (Nat.le_refl _) HB4.out.size)).mono ?_
      rintro e u5 ⟨A0, c0, rfl, hc0, ho0, b5⟩
      have HCC := Lib.hid hc0
      have HOW := Lib.hid ho0
      have HWL := Lib.hid HB4.out.size
      clear hc0 ho0
      have HLOB := HLO4
      have HB5 := Lib.hid (HB4.out.trans (b5.mono HB4.out.size))
      have HZ5 := Lib.hid (Box.below HZ4.out b5 (Box.lt HZ4.out))
      have HLO5 : Hid (u1.heap.size < u5.heap.size) := Lib.hid (Nat.lt_of_lt_of_le (Box.lt HZ4.out) b5.size)
      refine hK.out _ _ HB5.out ?_
      clear hK b5
      try simp only [Act.put, List.setIfInBounds_toArray, List.set_cons_zero, List.set_cons_succ]
      refine wpAnyH_takeD (i := 4) (d := 31) (v := .tuple #[.agg #[.int .i64 (s.w : Int), .int .i64 (s.h : Int), .slice A0 s.p.length c0], .bool b]) rfl rfl (by kernel_rfl) (by kernel_rfl) (by kernel_rfl) (fun _ _ _ h => hQ _ _ _ _ _ h) HB5.out (Or.inl ⟨by rfl, fun w' hS' => ?_⟩) ?_
      · go_simp
      simp only [Act.put, List.setIfInBounds_toArray, List.set_cons_zero, List.set_cons_succ]
      refine wpAnyH_takeD (i := 5) (d := 36) (v := .agg #[.int .i64 (s.w : Int), .int .i64 (s.h : Int), .slice A0 s.p.length c0]) rfl rfl (by kernel_rfl) (by kernel_rfl) (by kernel_rfl) (fun _ _ _ h => hQ _ _ _ _ _ h) HB5.out (Or.inl ⟨by rfl, fun w' hS' => ?_⟩) ?_
      · go_simp
      simp only [Act.put, List.setIfInBounds_toArray, List.set_cons_zero, List.set_cons_succ]
      refine wpAnyH_takeD (i := 6) (d := 37) (v := .bool b) rfl rfl (by kernel_rfl) (by kernel_rfl) (by kernel_rfl) (fun _ _ _ h => hQ _ _ _ _ _ h) HB5.out (Or.inl ⟨by rfl, fun w' hS' => ?_⟩) ?_
      · go_simp
      simp only [Act.put, List.setIfInBounds_toArray, List.set_cons_zero, List.set_cons_succ]
      have HNE : Hid (∀ q, (Value.slice A0 s.p.length c0).ownBlock = some q → q ≠ u1.heap.size) := Lib.hid fun q e => by have := (World.ownsRow.lt HOW.out q e).1; have := HLOB.out; omega
      have z0 := RasAtB.c0 HZ5.out
      have z1 := RasAtB.c1 HZ5.out
      have z2 := RasAtB.c2 HZ5.out
      have f0 := RasAtB.free HZ5.out 0
      have f1 := RasAtB.free HZ5.out 1
      have f2 := RasAtB.free HZ5.out 2
      have HE := Lib.hid (laid_store (w := w) HZ5.out HCC.out (HOW.out.lower HWL.out) HNE.out HGA.out HB5.out)
      refine wpAnyH_one (i := 8) (by kernel_rfl) rfl (fun K hK => ?_)
      go_simp
      refine hK.out _ _ HE.out.2.2.2.2.2 ?_
      clear hK z0 z1 z2 f0 f1 f2
      try simp only [Act.put, List.setIfInBounds_toArray, List.set_cons_zero, List.set_cons_succ]
      refine wpAnyH_one (i := 9) (by kernel_rfl) rfl (fun K hK => ?_)
      go_simp
      refine hK.out _ _ HE.out.2.2.2.2.2 ?_
      clear hK
      refine wpAnyH_done (by kernel_rfl) ?_ _
      exact hq.out _ _ _ _ _ _ _ _ _ _ _ HE.out
  · go_simp
    have b6 : Below u0.heap.size u0 (u0.alloc (.cells #[.int .i64 0, .int .i64 0, .slice none 0 0] 25)) := (Below.refl _ _).alloc (Nat.le_refl _) _
    have HZ6 := Lib.hid (laid_zero u0)
    have HLO6 : Hid (u0.heap.size < (u0.alloc (.cells #[.int .i64 0, .int .i64 0, .slice none 0 0] 25)).heap.size) := Lib.hid (by simp)
    have HGA := Lib.hid HB0.out.size
    have HB6 := Lib.hid (HB0.out.trans (b6.mono HB0.out.size))
    refine hK.out _ _ HB6.out ?_
    clear hK b6
    try simp only [Act.put, List.setIfInBounds_toArray, List.set_cons_zero, List.set_cons_succ]
    generalize u0.alloc (.cells #[.int .i64 0, .int .i64 0, .slice none 0 0] 25) = u6 at *
    refine wpAnyH_one (i := 2) (by kernel_rfl) rfl (fun K hK => ?_)
    go_simp
    refine (CO.out _).mono ?_
    rintro e u7 ⟨rfl, b7⟩
    have HB7 := Lib.hid (HB6.out.trans (b7.mono HB6.out.size))
    have HZ7 := Lib.hid (Box.below HZ6.out b7 (Box.lt HZ6.out))
    have HLO7 : Hid (u0.heap.size < u7.heap.size) := Lib.hid (Nat.lt_of_lt_of_le (Box.lt HZ6.out) b7.size)
    refine hK.out _ _ HB7.out ?_
    clear hK b7
    try simp only [Act.put, List.setIfInBounds_toArray, List.set_cons_zero, List.set_cons_succ]
    refine wpAnyH_one (i := 3) (by kernel_rfl) rfl (fun K hK => ?_)
    go_simp
    refine (CS.out _ _ _ (HRT.out.next HB7.out) HLC.out (HH.out.carry HB7.out (Nat.le_refl _) HB7.out.size)).mono ?_
    rintro e u8 ⟨A0, c0, rfl, hc0, ho0, b8⟩
    have HCC := Lib.hid hc0
    have HOW := Lib.hid ho0
    have HWL := Lib.hid HB7.out.size
    clear hc0 ho0
    have HLOB := HLO7
    have HB8 := Lib.hid (HB7.out.trans (b8.mono HB7.out.size))
    have HZ8 := Lib.hid (Box.below HZ7.out b8 (Box.lt HZ7.out))
    have HLO8 : Hid (u0.heap.size < u8.heap.size) := Lib.hid (Nat.lt_of_lt_of_le (Box.lt HZ7.out) b8.size)
    refine hK.out _ _ HB8.out ?_
    clear hK b8
    try simp only [Act.put, List.setIfInBounds_toArray, List.set_cons_zero, List.set_cons_succ]
    refine wpAnyH_takeD (i := 4) (d := 31) (v := .tuple #[.agg #[.int .i64 (s.w : Int), .int .i64 (s.h : Int), .slice A0 s.p.length c0], .bool b]) rfl rfl (by kernel_rfl) (by kernel_rfl) (by kernel_rfl) (fun _ _ _ h => hQ _ _ _ _ _ h) HB8.out (Or.inl ⟨by rfl, fun w' hS' => ?_⟩) ?_
    · go_simp
    simp only [Act.put, List.setIfInBounds_toArray, List.set_cons_zero, List.set_cons_succ]
    refine wpAnyH_takeD (i := 5) (d := 36) (v := .agg #[.int .i64 (s.w : Int), .int .i64 (s.h : Int), .slice A0 s.p.length c0]) rfl rfl (by kernel_rfl) (by kernel_rfl) (by kernel_rfl) (fun _ _ _ h => hQ _ _ _ _ _ h) HB8.out (Or.inl ⟨by rfl, fun w' hS' => ?_⟩) ?_
    · go_simp
    simp only [Act.put, List.setIfInBounds_toArray, List.set_cons_zero, List.set_cons_succ]
    refine wpAnyH_takeD (i := 6) (d := 37) (v := .bool b) rfl rfl (by kernel_rfl) (by kernel_rfl) (by kernel_rfl) (fun _ _ _ h => hQ _ _ _ _ _ h) HB8.out (Or.inl ⟨by rfl, fun w' hS' => ?_⟩) ?_
    · go_simp
    simp only [Act.put, List.setIfInBounds_toArray, List.set_cons_zero, List.set_cons_succ]
    have HNE : Hid (∀ q, (Value.slice A0 s.p.length c0).ownBlock = some q → q ≠ u0.heap.size) := Lib.hid fun q e => by have := (World.ownsRow.lt HOW.out q e).1; have := HLOB.out; omega
    have z0 := RasAtB.c0 HZ8.out
    have z1 := RasAtB.c1 HZ8.out
    have z2 := RasAtB.c2 HZ8.out
    have f0 := RasAtB.free HZ8.out 0
    have f1 := RasAtB.free HZ8.out 1
    have f2 := RasAtB.free HZ8.out 2
    have HE := Lib.hid (laid_store (w := w) HZ8.out HCC.out (HOW.out.lower HWL.out) HNE.out HGA.out HB8.out)
    refine wpAnyH_one (i := 8) (by kernel_rfl) rfl (fun K hK => ?_)
    go_simp
    refine hK.out _ _ HE.out.2.2.2.2.2 ?_
    clear hK z0 z1 z2 f0 f1 f2
    try simp only [Act.put, List.setIfInBounds_toArray, List.set_cons_zero, List.set_cons_succ]
    refine wpAnyH_one (i := 9) (by kernel_rfl) rfl (fun K hK => ?_)
    go_simp
    refine hK.out _ _ HE.out.2.2.2.2.2 ?_
    clear hK
    refine wpAnyH_done (by kernel_rfl) ?_ _
    exact hq.out _ _ _ _ _ _ _ _ _ _ _ HE.out
set_option maxHeartbeats 8000000 in
set_option maxRecDepth 10000 in
theorem exOpDo_r24 {Q : Exit → Act → World → Prop} {x0 x1 x4 x5 x6 x7 x8 x9 x10 x11 x12 x13 z14 z15 x16 x17 x18 x19 x20 x21 x22 x23 x24 x25 x26 x27 x28 x29 x30 x31 x32 x33 x34 x35 x36 x37 x38 x39 x40 x41 x42 x43 x44 x45 x46 x47 x48 x49 x50 x51 x52 x53 x54 x55 x56 x57 x58 x59 x60 x61 x62 x63 x64 x65 x66 x67 x68 x69 x70 x71 x72 x73 x74 x75 x76 x77 x78 z79 z80 z81 z82 z83 z84 z85 z86 x87 x88 x89 x90 x91 x92 x93 x94 x95 x96 x97 x98 x99 x100 x101 x102 x103 : Value} {w : World} (gA gO : Nat) (W H : Int) (A : Option Addr) (c : Nat) (l : List Px) (o : Op) (d : Option Ra) (s : Ra) (b : Bool) (hA : RasAtB w gA W H A l.length c 45) (hO : Box w gO #[.int .i64 o.k, .int .i64 o.a, .int .i64 o.b, .int .i64 o.c, .int .i64 o.d] 46) (hh : HasP w w.heap.size A l) (hl : l.length ≤ 1048576) (hR : RangesIn w) (hd : putO W H l o = d) (hs : d.getD ra0 = s) (hb : d.isSome = b)
    (hQ : ∀ (c : List PanicEntry) (a : Act) (k : Nat) (v : Value) (u : World), Q (.panic c) (a.put (some k) v) u → Q (.panic c) a u) (hq : Hid (∀ (g : Nat) (A0 : Option Addr) (c0 : Nat) (y79 y80 y81 y82 y83 y84 y85 y86 : Value) (w' : World), Laid w s g A0 c0 w' → Q .normal { tmps := #[x0, x1, .pointer (some ⟨gA, 0, none⟩), .pointer (some ⟨gO, 0, none⟩), x4, x5, x6, x7, x8, x9, x10, x11, x12, x13, .pointer (some ⟨g, 0, none⟩), .bool b, x16, x17, x18, x19, x20, x21, x22, x23, x24, x25, x26, x27, x28, x29, x30, x31, x32, x33, x34, x35, x36, x37, x38, x39, x40, x41, x42, x43, x44, x45, x46, x47, x48, x49, x50, x51, x52, x53, x54, x55, x56, x57, x58, x59, x60, x61, x62, x63, x64, x65, x66, x67, x68, x69, x70, x71, x72, x73, x74, x75, x76, x77, x78, y79, y80, y81, y82, y83, y84, y85, y86, x87, x88, x89, x90, x91, x92, x93, x94, x95, x96, x97, x98, x99, x100, x101, x102, x103], defers := [] } w')) :
    (Code.region 24 #[{ dst := some 80, op := Go.Op.load 45 (Go.Operand.tmp 2), type := 45, pos := "exact.go:2399", after := #[], guard := none }, { dst := some 81, op := Go.Op.call { callee := Go.Callee.value (Go.Operand.func 24), args := #[Go.Operand.tmp 80], argTypes := #[45] }, type := 25, pos := "exact.go:2399", after := #[{ on := 0, ground := Go.Ground.data }], guard := none }, { dst := some 82, op := Go.Op.load 46 (Go.Operand.tmp 3), type := 46, pos := "exact.go:2399", after := #[], guard := none }, { dst := some 83, op := Go.Op.call { callee := Go.Callee.value (Go.Operand.func 25), args := #[Go.Operand.tmp 82], argTypes := #[46] }, type := 27, pos := "exact.go:2399", after := #[{ on := 2, ground := Go.Ground.data }, { on := 1, ground := Go.Ground.chain }], guard := none }, { dst := some 84, op := Go.Op.call { callee := Go.Callee.value (Go.Operand.func 12), args := #[Go.Operand.tmp 81, Go.Operand.tmp 83], argTypes := #[25, 27] }, type := 30, pos := "exact.go:2399", after := #[{ on := 1, ground := Go.Ground.data }, { on := 3, ground := Go.Ground.data }, { on := 3, ground := Go.Ground.chain }], guard := none }, { dst := some 79, op := Go.Op.move (Go.Operand.tmp 84), type := 30, pos := "exact.go:2399", after := #[{ on := 4, ground := Go.Ground.data }], guard := none }, { dst := some 85, op := Go.Op.extract (Go.Operand.tmp 79) 0, type := 25, pos := "exact.go:2399", after := #[{ on := 5, ground := Go.Ground.data }], guard := none }, { dst := some 86, op := Go.Op.extract (Go.Operand.tmp 79) 1, type := 4, pos := "exact.go:2399", after := #[{ on := 5, ground := Go.Ground.data }, { on := 9, ground := Go.Ground.gcOnly Go.Departure.lateStores }], guard := none }, { dst := some 14, op := Go.Op.alloc 25, type := 0, pos := "exact.go:2399", after := #[], guard := none }, { dst := none, op := Go.Op.store 25 (Go.Operand.tmp 14) (Go.Operand.tmp 85), type := 0, pos := "exact.go:2399", after := #[{ on := 8, ground := Go.Ground.data }, { on := 6, ground := Go.Ground.data }, { on := 4, ground := Go.Ground.chain }, { on := 0, ground := Go.Ground.phase }, { on := 1, ground := Go.Ground.phase }, { on := 2, ground := Go.Ground.phase }, { on := 3, ground := Go.Ground.phase }, { on := 4, ground := Go.Ground.phase }, { on := 5, ground := Go.Ground.phase }, { on := 6, ground := Go.Ground.phase }, { on := 7, ground := Go.Ground.textOnly Go.Departure.lateStores }, { on := 8, ground := Go.Ground.phase }], guard := none }, { dst := some 15, op := Go.Op.assign (Go.Operand.tmp 86), type := 4, pos := "exact.go:2399", after := #[{ on := 7, ground := Go.Ground.data }, { on := 9, ground := Go.Ground.chain }, { on := 0, ground := Go.Ground.phase }, { on := 1, ground := Go.Ground.phase }, { on := 2, ground := Go.Ground.phase }, { on := 3, ground := Go.Ground.phase }, { on := 4, ground := Go.Ground.phase }, { on := 5, ground := Go.Ground.phase }, { on := 6, ground := Go.Ground.phase }, { on := 7, ground := Go.Ground.phase }, { on := 8, ground := Go.Ground.phase }, { on := 9, ground := Go.Ground.phase }], guard := none }] true).wp Tryd.prog Q { tmps := #[x0, x1, .pointer (some ⟨gA, 0, none⟩), .pointer (some ⟨gO, 0, none⟩), x4, x5, x6, x7, x8, x9, x10, x11, x12, x13, z14, z15, x16, x17, x18, x19, x20, x21, x22, x23, x24, x25, x26, x27, x28, x29, x30, x31, x32, x33, x34, x35, x36, x37, x38, x39, x40, x41, x42, x43, x44, x45, x46, x47, x48, x49, x50, x51, x52, x53, x54, x55, x56, x57, x58, x59, x60, x61, x62, x63, x64, x65, x66, x67, x68, x69, x70, x71, x72, x73, x74, x75, x76, x77, x78, z79, z80, z81, z82, z83, z84, z85, z86, x87, x88, x89, x90, x91, x92, x93, x94, x95, x96, x97, x98, x99, x100, x101, x102, x103], defers := [] } w := by
  have CT := Lib.hid fun u hh => toRasRaster_any W H A c l u (by omega) hh
  have CO := Lib.hid fun u => toOpOp_any o u
  have CS : Hid (∀ (A : Option Addr) (c : Nat) (u : World), RangesIn u → l.length ≤ c → HasP u u.heap.size A l → Calls Tryd.prog 12 #[.agg #[.int .i64 W, .int .i64 H, .slice A l.length c], .agg #[.int .i64 o.k, .int .i64 o.a, .int .i64 o.b, .int .i64 o.c, .int .i64 o.d]] u (fun e w' => ∃ A0 c0, e = .returned (.tuple #[.agg #[.int .i64 (s.w : Int), .int .i64 (s.h : Int), .slice A0 s.p.length c0], .bool b]) ∧ s.p.length ≤ c0 ∧ OwnP w' u.heap.size (.slice A0 s.p.length c0) s.p ∧ Below u.heap.size u w')) := Lib.hid fun A c u hR hc hh => by
    have := implOpDo_any W H A c l o u hR (by omega) hc hh
    rw [hd] at this
    unfold Did at this
    rw [hs, hb] at this
    exact this
  unfold rasV at CT
  unfold Op.v at CO
  have HA := Lib.hid hA
  have HO := Lib.hid hO
  have HH := Lib.hid hh
  have HRT := Lib.hid hR
  clear hA hO hh hl hR hd hs hb
  refine wp_region_held_drew (S := fun v => Below w.heap.size w v) (by kernel_rfl) (below_draws (Below.refl _ _) 1) fun _ => ?_
  have HB0 : Hid (Below w.heap.size w w.drew) := Lib.hid (below_draws (Below.refl _ _) 1)
  generalize w.drew = u0 at *
  refine wpAnyH_takeD (i := 0) (d := 80) (v := (.agg #[.int .i64 W, .int .i64 H, .slice A l.length c])) rfl rfl (by kernel_rfl) (by kernel_rfl) (by kernel_rfl) (fun _ _ _ h => hQ _ _ _ _ _ h) HB0.out (Or.inl ⟨by rfl, fun w' hS' => ?_⟩) ?_
  · have t := Box.below HA.out hS' (Box.lt HA.out)
    have t0 := RasAtB.c0 t
    have t1 := RasAtB.c1 t
    have t2 := RasAtB.c2 t
    go_simp
  simp only [Act.put, List.setIfInBounds_toArray, List.set_cons_zero, List.set_cons_succ]
  refine wpAnyH_takeD (i := 2) (d := 82) (v := (.agg #[.int .i64 o.k, .int .i64 o.a, .int .i64 o.b, .int .i64 o.c, .int .i64 o.d])) rfl rfl (by kernel_rfl) (by kernel_rfl) (by kernel_rfl) (fun _ _ _ h => hQ _ _ _ _ _ h) HB0.out (Or.inl ⟨by rfl, fun w' hS' => ?_⟩) ?_
  · have t := Box.below HO.out hS' (Box.lt HO.out)
    have t0 := Box.cell t (i := 0) rfl
    have t1 := Box.cell t (i := 1) rfl
    have t2 := Box.cell t (i := 2) rfl
    have t3 := Box.cell t (i := 3) rfl
    have t4 := Box.cell t (i := 4) rfl
    go_simp
  simp only [Act.put, List.setIfInBounds_toArray, List.set_cons_zero, List.set_cons_succ]
  refine wpAnyH_two (i := 1) (j := 8) (by kernel_rfl) rfl rfl (fun K hK => ?_) (fun K hK => ?_)
  · go_simp
    refine (CT.out _ (HH.out.carry HB0.out (Nat.le_refl _) HB0.out.size)).mono ?_
    rintro e u1 ⟨g1, rfl, o1, b1⟩
    have HT := Lib.hid o1.reads
    clear o1
    have HB1 := Lib.hid (HB0.out.trans (b1.mono HB0.out.size))
    refine hK.out _ _ HB1.out ?_
    clear hK b1
    try simp only [Act.put, List.setIfInBounds_toArray, List.set_cons_zero, List.set_cons_succ]
    refine wpAnyH_two (i := 3) (j := 8) (by kernel_rfl) rfl rfl (fun K hK => ?_) (fun K hK => ?_)
    · go_simp
      refine (CO.out _).mono ?_
      rintro e u2 ⟨rfl, b2⟩
      have HB2 := Lib.hid (HB1.out.trans (b2.mono HB1.out.size))
      have HT_2 := Lib.hid (HT.out.carry b2 (Nat.le_refl _) b2.size)
      clear HT
      refine hK.out _ _ HB2.out ?_
      clear hK b2
      try simp only [Act.put, List.setIfInBounds_toArray, List.set_cons_zero, List.set_cons_succ]
      refine wpAnyH_two (i := 4) (j := 8) (by kernel_rfl) rfl rfl (fun K hK => ?_) (fun K hK => ?_)
      · go_simp
        refine (CS.out _ _ _ (HRT.out.next HB2.out) (Nat.le_refl _) HT_2.out).mono ?_
        rintro e u3 ⟨A0, c0, rfl, hc0, ho0, b3⟩
        have HCC := Lib.hid hc0
        have HOW := Lib.hid ho0
        have HWL := Lib.hid HB2.out.size
        clear hc0 ho0
        have HB3 := Lib.hid (HB2.out.trans (b3.mono HB2.out.size))
        refine hK.out _ _ HB3.out ?_
        clear hK b3
        try simp only [Act.put, List.setIfInBounds_toArray, List.set_cons_zero, List.set_cons_succ]
        refine wpAnyH_takeD (i := 5) (d := 79) (v := .tuple #[.agg #[.int .i64 (s.w : Int), .int .i64 (s.h : Int), .slice A0 s.p.length c0], .bool b]) rfl rfl (by kernel_rfl) (by kernel_rfl) (by kernel_rfl) (fun _ _ _ h => hQ _ _ _ _ _ h) HB3.out (Or.inl ⟨by rfl, fun w' hS' => ?_⟩) ?_
        · go_simp
        simp only [Act.put, List.setIfInBounds_toArray, List.set_cons_zero, List.set_cons_succ]
        refine wpAnyH_takeD (i := 6) (d := 85) (v := .agg #[.int .i64 (s.w : Int), .int .i64 (s.h : Int), .slice A0 s.p.length c0]) rfl rfl (by kernel_rfl) (by kernel_rfl) (by kernel_rfl) (fun _ _ _ h => hQ _ _ _ _ _ h) HB3.out (Or.inl ⟨by rfl, fun w' hS' => ?_⟩) ?_
        · go_simp
        simp only [Act.put, List.setIfInBounds_toArray, List.set_cons_zero, List.set_cons_succ]
        refine wpAnyH_takeD (i := 7) (d := 86) (v := .bool b) rfl rfl (by kernel_rfl) (by kernel_rfl) (by kernel_rfl) (fun _ _ _ h => hQ _ _ _ _ _ h) HB3.out (Or.inl ⟨by rfl, fun w' hS' => ?_⟩) ?_
        · go_simp
        simp only [Act.put, List.setIfInBounds_toArray, List.set_cons_zero, List.set_cons_succ]
        refine wpAnyH_one (i := 8) (by kernel_rfl) rfl (fun K hK => ?_)
        have HOWA := Lib.hid (HOW.out.alloc (.cells #[.int .i64 0, .int .i64 0, .slice none 0 0] 25))
        have HNE : Hid (∀ q, (Value.slice A0 s.p.length c0).ownBlock = some q → q ≠ u3.heap.size) := Lib.hid fun q e => by have := (World.ownsRow.lt HOW.out q e).2; omega
        go_simp
        have b4 : Below u3.heap.size u3 (u3.alloc (.cells #[.int .i64 0, .int .i64 0, .slice none 0 0] 25)) := (Below.refl _ _).alloc (Nat.le_refl _) _
        have HZ4 := Lib.hid (laid_zero u3)
        have HLO4 : Hid (u3.heap.size < (u3.alloc (.cells #[.int .i64 0, .int .i64 0, .slice none 0 0] 25)).heap.size) := Lib.hid (by simp)
        have HGA := Lib.hid HB3.out.size
        have HB4 := Lib.hid (HB3.out.trans (b4.mono HB3.out.size))
        refine hK.out _ _ HB4.out ?_
        clear hK b4
        try simp only [Act.put, List.setIfInBounds_toArray, List.set_cons_zero, List.set_cons_succ]
        generalize u3.alloc (.cells #[.int .i64 0, .int .i64 0, .slice none 0 0] 25) = u4 at *
        have z0 := RasAtB.c0 HZ4.out
        have z1 := RasAtB.c1 HZ4.out
        have z2 := RasAtB.c2 HZ4.out
        have f0 := RasAtB.free HZ4.out 0
        have f1 := RasAtB.free HZ4.out 1
        have f2 := RasAtB.free HZ4.out 2
        have HE := Lib.hid (laid_store (w := w) HZ4.out HCC.out (HOWA.out.lower HWL.out) HNE.out HGA.out HB4.out)
        refine wpAnyH_one (i := 9) (by kernel_rfl) rfl (fun K hK => ?_)
        go_simp
        refine hK.out _ _ HE.out.2.2.2.2.2 ?_
        clear hK z0 z1 z2 f0 f1 f2
        try simp only [Act.put, List.setIfInBounds_toArray, List.set_cons_zero, List.set_cons_succ]
        refine wpAnyH_one (i := 10) (by kernel_rfl) rfl (fun K hK => ?_)
        go_simp
        refine hK.out _ _ HE.out.2.2.2.2.2 ?_
        clear hK
        refine wpAnyH_done (by kernel_rfl) ?_ _
        exact hq.out _ _ _ _ _ _ _ _ _ _ _ _ HE.out
      · go_simp
        have b5 : Below u2.heap.size u2 (u2.alloc (.cells #[.int .i64 0, .int .i64 0, .slice none 0 0] 25)) := (Below.refl _ _).alloc (Nat.le_refl _) _
        have HZ5 := Lib.hid (laid_zero u2)
        have HLO5 : Hid (u2.heap.size < (u2.alloc (.cells #[.int .i64 0, .int .i64 0, .slice none 0 0] 25)).heap.size) := Lib.hid (by simp)
        have HGA := Lib.hid HB2.out.size
        have HB5 := Lib.hid (HB2.out.trans (b5.mono HB2.out.size))
        have HT_5 := Lib.hid (HT_2.out.carry b5 (Nat.le_refl _) b5.size)
        clear HT_2
        refine hK.out _ _ HB5.out ?_
        clear hK b5
        try simp only [Act.put, List.setIfInBounds_toArray, List.set_cons_zero, List.set_cons_succ]
        generalize u2.alloc (.cells #[.int .i64 0, .int .i64 0, .slice none 0 0] 25) = u5 at *
        refine wpAnyH_one (i := 4) (by kernel_rfl) rfl (fun K hK => ?_)
        go_simp
        refine (CS.out _ _ _ (HRT.out.next HB5.out) (Nat.le_refl _) HT_5.out).mono ?_
        rintro e u6 ⟨A0, c0, rfl, hc0, ho0, b6⟩
        have HCC := Lib.hid hc0
        have HOW := Lib.hid ho0
        have HWL := Lib.hid HB5.out.size
        clear hc0 ho0
        have HLOB := HLO5
        have HB6 := Lib.hid (HB5.out.trans (b6.mono HB5.out.size))
        have HZ6 := Lib.hid (Box.below HZ5.out b6 (Box.lt HZ5.out))
        have HLO6 : Hid (u2.heap.size < u6.heap.size) := Lib.hid (Nat.lt_of_lt_of_le (Box.lt HZ5.out) b6.size)
        refine hK.out _ _ HB6.out ?_
        clear hK b6
        try simp only [Act.put, List.setIfInBounds_toArray, List.set_cons_zero, List.set_cons_succ]
        refine wpAnyH_takeD (i := 5) (d := 79) (v := .tuple #[.agg #[.int .i64 (s.w : Int), .int .i64 (s.h : Int), .slice A0 s.p.length c0], .bool b]) rfl rfl (by kernel_rfl) (by kernel_rfl) (by kernel_rfl) (fun _ _ _ h => hQ _ _ _ _ _ h) HB6.out (Or.inl ⟨by rfl, fun w' hS' => ?_⟩) ?_
        · go_simp
        simp only [Act.put, List.setIfInBounds_toArray, List.set_cons_zero, List.set_cons_succ]
        refine wpAnyH_takeD (i := 6) (d := 85) (v := .agg #[.int .i64 (s.w : Int), .int .i64 (s.h : Int), .slice A0 s.p.length c0]) rfl rfl (by kernel_rfl) (by kernel_rfl) (by kernel_rfl) (fun _ _ _ h => hQ _ _ _ _ _ h) HB6.out (Or.inl ⟨by rfl, fun w' hS' => ?_⟩) ?_
        · go_simp
        simp only [Act.put, List.setIfInBounds_toArray, List.set_cons_zero, List.set_cons_succ]
        refine wpAnyH_takeD (i := 7) (d := 86) (v := .bool b) rfl rfl (by kernel_rfl) (by kernel_rfl) (by kernel_rfl) (fun _ _ _ h => hQ _ _ _ _ _ h) HB6.out (Or.inl ⟨by rfl, fun w' hS' => ?_⟩) ?_
        · go_simp
        simp only [Act.put, List.setIfInBounds_toArray, List.set_cons_zero, List.set_cons_succ]
        have HNE : Hid (∀ q, (Value.slice A0 s.p.length c0).ownBlock = some q → q ≠ u2.heap.size) := Lib.hid fun q e => by have := (World.ownsRow.lt HOW.out q e).1; have := HLOB.out; omega
        have z0 := RasAtB.c0 HZ6.out
        have z1 := RasAtB.c1 HZ6.out
        have z2 := RasAtB.c2 HZ6.out
        have f0 := RasAtB.free HZ6.out 0
        have f1 := RasAtB.free HZ6.out 1
        have f2 := RasAtB.free HZ6.out 2
        have HE := Lib.hid (laid_store (w := w) HZ6.out HCC.out (HOW.out.lower HWL.out) HNE.out HGA.out HB6.out)
        refine wpAnyH_one (i := 9) (by kernel_rfl) rfl (fun K hK => ?_)
        go_simp
        refine hK.out _ _ HE.out.2.2.2.2.2 ?_
        clear hK z0 z1 z2 f0 f1 f2
        try simp only [Act.put, List.setIfInBounds_toArray, List.set_cons_zero, List.set_cons_succ]
        refine wpAnyH_one (i := 10) (by kernel_rfl) rfl (fun K hK => ?_)
        go_simp
        refine hK.out _ _ HE.out.2.2.2.2.2 ?_
        clear hK
        refine wpAnyH_done (by kernel_rfl) ?_ _
        exact hq.out _ _ _ _ _ _ _ _ _ _ _ _ HE.out
    · go_simp
      have b7 : Below u1.heap.size u1 (u1.alloc (.cells #[.int .i64 0, .int .i64 0, .slice none 0 0] 25)) := (Below.refl _ _).alloc (Nat.le_refl _) _
      have HZ7 := Lib.hid (laid_zero u1)
      have HLO7 : Hid (u1.heap.size < (u1.alloc (.cells #[.int .i64 0, .int .i64 0, .slice none 0 0] 25)).heap.size) := Lib.hid (by simp)
      have HGA := Lib.hid HB1.out.size
      have HB7 := Lib.hid (HB1.out.trans (b7.mono HB1.out.size))
      have HT_7 := Lib.hid (HT.out.carry b7 (Nat.le_refl _) b7.size)
      clear HT
      refine hK.out _ _ HB7.out ?_
      clear hK b7
      try simp only [Act.put, List.setIfInBounds_toArray, List.set_cons_zero, List.set_cons_succ]
      generalize u1.alloc (.cells #[.int .i64 0, .int .i64 0, .slice none 0 0] 25) = u7 at *
      refine wpAnyH_one (i := 3) (by kernel_rfl) rfl (fun K hK => ?_)
      go_simp
      refine (CO.out _).mono ?_
      rintro e u8 ⟨rfl, b8⟩
      have HB8 := Lib.hid (HB7.out.trans (b8.mono HB7.out.size))
      have HT_8 := Lib.hid (HT_7.out.carry b8 (Nat.le_refl _) b8.size)
      clear HT_7
      have HZ8 := Lib.hid (Box.below HZ7.out b8 (Box.lt HZ7.out))
      have HLO8 : Hid (u1.heap.size < u8.heap.size) := Lib.hid (Nat.lt_of_lt_of_le (Box.lt HZ7.out) b8.size)
      refine hK.out _ _ HB8.out ?_
      clear hK b8
      try simp only [Act.put, List.setIfInBounds_toArray, List.set_cons_zero, List.set_cons_succ]
      refine wpAnyH_one (i := 4) (by kernel_rfl) rfl (fun K hK => ?_)
      go_simp
      refine (CS.out _ _ _ (HRT.out.next HB8.out) (Nat.le_refl _) HT_8.out).mono ?_
      rintro e u9 ⟨A0, c0, rfl, hc0, ho0, b9⟩
      have HCC := Lib.hid hc0
      have HOW := Lib.hid ho0
      have HWL := Lib.hid HB8.out.size
      clear hc0 ho0
      have HLOB := HLO8
      have HB9 := Lib.hid (HB8.out.trans (b9.mono HB8.out.size))
      have HZ9 := Lib.hid (Box.below HZ8.out b9 (Box.lt HZ8.out))
      have HLO9 : Hid (u1.heap.size < u9.heap.size) := Lib.hid (Nat.lt_of_lt_of_le (Box.lt HZ8.out) b9.size)
      refine hK.out _ _ HB9.out ?_
      clear hK b9
      try simp only [Act.put, List.setIfInBounds_toArray, List.set_cons_zero, List.set_cons_succ]
      refine wpAnyH_takeD (i := 5) (d := 79) (v := .tuple #[.agg #[.int .i64 (s.w : Int), .int .i64 (s.h : Int), .slice A0 s.p.length c0], .bool b]) rfl rfl (by kernel_rfl) (by kernel_rfl) (by kernel_rfl) (fun _ _ _ h => hQ _ _ _ _ _ h) HB9.out (Or.inl ⟨by rfl, fun w' hS' => ?_⟩) ?_
      · go_simp
      simp only [Act.put, List.setIfInBounds_toArray, List.set_cons_zero, List.set_cons_succ]
      refine wpAnyH_takeD (i := 6) (d := 85) (v := .agg #[.int .i64 (s.w : Int), .int .i64 (s.h : Int), .slice A0 s.p.length c0]) rfl rfl (by kernel_rfl) (by kernel_rfl) (by kernel_rfl) (fun _ _ _ h => hQ _ _ _ _ _ h) HB9.out (Or.inl ⟨by rfl, fun w' hS' => ?_⟩) ?_
      · go_simp
      simp only [Act.put, List.setIfInBounds_toArray, List.set_cons_zero, List.set_cons_succ]
      refine wpAnyH_takeD (i := 7) (d := 86) (v := .bool b) rfl rfl (by kernel_rfl) (by kernel_rfl) (by kernel_rfl) (fun _ _ _ h => hQ _ _ _ _ _ h) HB9.out (Or.inl ⟨by rfl, fun w' hS' => ?_⟩) ?_
      · go_simp
      simp only [Act.put, List.setIfInBounds_toArray, List.set_cons_zero, List.set_cons_succ]
      have HNE : Hid (∀ q, (Value.slice A0 s.p.length c0).ownBlock = some q → q ≠ u1.heap.size) := Lib.hid fun q e => by have := (World.ownsRow.lt HOW.out q e).1; have := HLOB.out; omega
      have z0 := RasAtB.c0 HZ9.out
      have z1 := RasAtB.c1 HZ9.out
      have z2 := RasAtB.c2 HZ9.out
      have f0 := RasAtB.free HZ9.out 0
      have f1 := RasAtB.free HZ9.out 1
      have f2 := RasAtB.free HZ9.out 2
      have HE := Lib.hid (laid_store (w := w) HZ9.out HCC.out (HOW.out.lower HWL.out) HNE.out HGA.out HB9.out)
      refine wpAnyH_one (i := 9) (by kernel_rfl) rfl (fun K hK => ?_)
      go_simp
      refine hK.out _ _ HE.out.2.2.2.2.2 ?_
      clear hK z0 z1 z2 f0 f1 f2
      try simp only [Act.put, List.setIfInBounds_toArray, List.set_cons_zero, List.set_cons_succ]
      refine wpAnyH_one (i := 10) (by kernel_rfl) rfl (fun K hK => ?_)
      go_simp
      refine hK.out _ _ HE.out.2.2.2.2.2 ?_
      clear hK
      refine wpAnyH_done (by kernel_rfl) ?_ _
      exact hq.out _ _ _ _ _ _ _ _ _ _ _ _ HE.out
  · go_simp
    have b10 : Below u0.heap.size u0 (u0.alloc (.cells #[.int .i64 0, .int .i64 0, .slice none 0 0] 25)) := (Below.refl _ _).alloc (Nat.le_refl _) _
    have HZ10 := Lib.hid (laid_zero u0)
    have HLO10 : Hid (u0.heap.size < (u0.alloc (.cells #[.int .i64 0, .int .i64 0, .slice none 0 0] 25)).heap.size) := Lib.hid (by simp)
    have HGA := Lib.hid HB0.out.size
    have HB10 := Lib.hid (HB0.out.trans (b10.mono HB0.out.size))
    refine hK.out _ _ HB10.out ?_
    clear hK b10
    try simp only [Act.put, List.setIfInBounds_toArray, List.set_cons_zero, List.set_cons_succ]
    generalize u0.alloc (.cells #[.int .i64 0, .int .i64 0, .slice none 0 0] 25) = u10 at *
    refine wpAnyH_one (i := 1) (by kernel_rfl) rfl (fun K hK => ?_)
    go_simp
    refine (CT.out _ (HH.out.carry HB10.out (Nat.le_refl _) HB10.out.size)).mono ?_
    rintro e u11 ⟨g1, rfl, o1, b11⟩
    have HT := Lib.hid o1.reads
    clear o1
    have HB11 := Lib.hid (HB10.out.trans (b11.mono HB10.out.size))
    have HZ11 := Lib.hid (Box.below HZ10.out b11 (Box.lt HZ10.out))
    have HLO11 : Hid (u0.heap.size < u11.heap.size) := Lib.hid (Nat.lt_of_lt_of_le (Box.lt HZ10.out) b11.size)
    refine hK.out _ _ HB11.out ?_
    clear hK b11
    try simp only [Act.put, List.setIfInBounds_toArray, List.set_cons_zero, List.set_cons_succ]
    refine wpAnyH_one (i := 3) (by kernel_rfl) rfl (fun K hK => ?_)
    go_simp
    refine (CO.out _).mono ?_
    rintro e u12 ⟨rfl, b12⟩
    have HB12 := Lib.hid (HB11.out.trans (b12.mono HB11.out.size))
    have HT_12 := Lib.hid (HT.out.carry b12 (Nat.le_refl _) b12.size)
    clear HT
    have HZ12 := Lib.hid (Box.below HZ11.out b12 (Box.lt HZ11.out))
    have HLO12 : Hid (u0.heap.size < u12.heap.size) := Lib.hid (Nat.lt_of_lt_of_le (Box.lt HZ11.out) b12.size)
    refine hK.out _ _ HB12.out ?_
    clear hK b12
    try simp only [Act.put, List.setIfInBounds_toArray, List.set_cons_zero, List.set_cons_succ]
    refine wpAnyH_one (i := 4) (by kernel_rfl) rfl (fun K hK => ?_)
    go_simp
    refine (CS.out _ _ _ (HRT.out.next HB12.out) (Nat.le_refl _) HT_12.out).mono ?_
    rintro e u13 ⟨A0, c0, rfl, hc0, ho0, b13⟩
    have HCC := Lib.hid hc0
    have HOW := Lib.hid ho0
    have HWL := Lib.hid HB12.out.size
    clear hc0 ho0
    have HLOB := HLO12
    have HB13 := Lib.hid (HB12.out.trans (b13.mono HB12.out.size))
    have HZ13 := Lib.hid (Box.below HZ12.out b13 (Box.lt HZ12.out))
    have HLO13 : Hid (u0.heap.size < u13.heap.size) := Lib.hid (Nat.lt_of_lt_of_le (Box.lt HZ12.out) b13.size)
    refine hK.out _ _ HB13.out ?_
    clear hK b13
    try simp only [Act.put, List.setIfInBounds_toArray, List.set_cons_zero, List.set_cons_succ]
    refine wpAnyH_takeD (i := 5) (d := 79) (v := .tuple #[.agg #[.int .i64 (s.w : Int), .int .i64 (s.h : Int), .slice A0 s.p.length c0], .bool b]) rfl rfl (by kernel_rfl) (by kernel_rfl) (by kernel_rfl) (fun _ _ _ h => hQ _ _ _ _ _ h) HB13.out (Or.inl ⟨by rfl, fun w' hS' => ?_⟩) ?_
    · go_simp
    simp only [Act.put, List.setIfInBounds_toArray, List.set_cons_zero, List.set_cons_succ]
    refine wpAnyH_takeD (i := 6) (d := 85) (v := .agg #[.int .i64 (s.w : Int), .int .i64 (s.h : Int), .slice A0 s.p.length c0]) rfl rfl (by kernel_rfl) (by kernel_rfl) (by kernel_rfl) (fun _ _ _ h => hQ _ _ _ _ _ h) HB13.out (Or.inl ⟨by rfl, fun w' hS' => ?_⟩) ?_
    · go_simp
    simp only [Act.put, List.setIfInBounds_toArray, List.set_cons_zero, List.set_cons_succ]
    refine wpAnyH_takeD (i := 7) (d := 86) (v := .bool b) rfl rfl (by kernel_rfl) (by kernel_rfl) (by kernel_rfl) (fun _ _ _ h => hQ _ _ _ _ _ h) HB13.out (Or.inl ⟨by rfl, fun w' hS' => ?_⟩) ?_
    · go_simp
    simp only [Act.put, List.setIfInBounds_toArray, List.set_cons_zero, List.set_cons_succ]
    have HNE : Hid (∀ q, (Value.slice A0 s.p.length c0).ownBlock = some q → q ≠ u0.heap.size) := Lib.hid fun q e => by have := (World.ownsRow.lt HOW.out q e).1; have := HLOB.out; omega
    have z0 := RasAtB.c0 HZ13.out
    have z1 := RasAtB.c1 HZ13.out
    have z2 := RasAtB.c2 HZ13.out
    have f0 := RasAtB.free HZ13.out 0
    have f1 := RasAtB.free HZ13.out 1
    have f2 := RasAtB.free HZ13.out 2
    have HE := Lib.hid (laid_store (w := w) HZ13.out HCC.out (HOW.out.lower HWL.out) HNE.out HGA.out HB13.out)
    refine wpAnyH_one (i := 9) (by kernel_rfl) rfl (fun K hK => ?_)
    go_simp
    refine hK.out _ _ HE.out.2.2.2.2.2 ?_
    clear hK z0 z1 z2 f0 f1 f2
    try simp only [Act.put, List.setIfInBounds_toArray, List.set_cons_zero, List.set_cons_succ]
    refine wpAnyH_one (i := 10) (by kernel_rfl) rfl (fun K hK => ?_)
    go_simp
    refine hK.out _ _ HE.out.2.2.2.2.2 ?_
    clear hK
    refine wpAnyH_done (by kernel_rfl) ?_ _
    exact hq.out _ _ _ _ _ _ _ _ _ _ _ _ HE.out
end Go.Proofs.YtiemlakjallphaaDoor
