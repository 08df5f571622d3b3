/-
  The reference's l1Step is one round. Conditions: eight words, a constant and a word of 32 bits.
-/
import Derived.Test.YtbejafbpipdbjaaDoorRow
import Derived.Test.YtbejafbpipdbjaaDoorShaW
import Derived.StillTailTactics
import Derived.Deep.RegionHeld3
namespace Go.Proofs.YtbejafbpipdbjaaDoor
set_option maxRecDepth 4000
open Go.RowKit

theorem x64 {a b : Nat} (ha : a < 4294967296) (hb : b < 4294967296) : bits .xor .u64 (a : Int) (b : Int) = ((a ^^^ b : Nat) : Int) := u64_xor_nat a b (by omega) (by omega)
theorem a64 {a b : Nat} (ha : a < 4294967296) (hb : b < 4294967296) : bits .and .u64 (a : Int) (b : Int) = ((a &&& b : Nat) : Int) := u64_and_nat a b (by omega) (by omega)

/-- A callee that leaves the world, in a region behind another one. -/
theorem quiet2 {P : Program} {f : FuncId} {args : Array Value} {w : World} {a n : Nat} {v : Value} (h : Calls P f args (w.drewN (a + n)) fun e w' => e = .returned v ∧ w' = w.drewN (a + n)) :
    Calls P f args (w.drewN (a + n)) fun e w'' => e = .returned v ∧ ∃ m, w'' = w.drewN (a + m) := h.mono fun _ _ ⟨he, hw⟩ => ⟨he, n, hw⟩

set_option maxRecDepth 100000 in
set_option maxHeartbeats 2000000 in
theorem l1Step_any (b o c : Nat) (s : Eight) (k x : Nat) (w : World) (hs : s.Ok) (hk : k < 4294967296) (hx : x < 4294967296)
    (h : HasK .u64 w w.heap.size (some ⟨b, o, none⟩) s.list) :
    Calls Tryd.prog 114 #[.slice (some ⟨b, o, none⟩) 8 c, .int .u64 (k : Int), .int .u64 (x : Int)] w fun e w' => e = .returned (.slice (some ⟨w.heap.size, 0, none⟩) 8 8) ∧
      OwnK .u64 137 w' w.heap.size (.slice (some ⟨w.heap.size, 0, none⟩) 8 8) (s.step (k + x)).list ∧ Below w.heap.size w w' := by
  obtain ⟨ha, hb, hc, hd, he, hf, hg, hh⟩ := hs
  have hcell : ∀ (i y : Nat), s.list[i]? = some y → w.cell? ⟨b, o + i, none⟩ = some (.int .u64 (y : Int)) := by
    rcases h with h | ⟨b', o', e, _, hc⟩
    · simp [Eight.list] at h
    · injection e with e
      injection e with e1 e2 _
      subst e1 e2
      exact hc
  have c0 := hcell 0 _ rfl
  have c1 := hcell 1 _ rfl
  have c2 := hcell 2 _ rfl
  have c3 := hcell 3 _ rfl
  have c4 := hcell 4 _ rfl
  have c5 := hcell 5 _ rfl
  have c6 := hcell 6 _ rfl
  have c7 := hcell 7 _ rfl
  clear hcell h
  simp only [Nat.add_zero] at c0
  obtain ⟨sa, sb, sc, sd, se, sf, sg, sh⟩ := s
  simp only at ha hb hc hd he hf hg hh c0 c1 c2 c3 c4 c5 c6 c7
  have r1 := rotr_lt se 6
  have r2 := rotr_lt se 11
  have r3 := rotr_lt se 25
  have r4 := rotr_lt sa 2
  have r5 := rotr_lt sa 13
  have r6 := rotr_lt sa 22
  have x1 := x64 r1 r2
  have x2 : bits .xor .u64 ((rotr se 6 ^^^ rotr se 11 : Nat) : Int) (rotr se 25 : Int) = (bigS1 se : Int) := x64 (xor32 r1 r2) r3
  have x3 := x64 r4 r5
  have x4 : bits .xor .u64 ((rotr sa 2 ^^^ rotr sa 13 : Nat) : Int) (rotr sa 22 : Int) = (bigS0 sa : Int) := x64 (xor32 r4 r5) r6
  have y1 := a64 he hf
  have y2 : bits .xor .u64 4294967295 (se : Int) = ((4294967295 ^^^ se : Nat) : Int) := x64 (a := 4294967295) (by omega) he
  have y3 := a64 (a := 4294967295 ^^^ se) (xor32 (by omega) he) hg
  have y4 : bits .xor .u64 ((se &&& sf : Nat) : Int) (((4294967295 ^^^ se) &&& sg : Nat) : Int) = (choose se sf sg : Int) := x64 (and32 hf) (and32 hg)
  have z1 := a64 ha hb
  have z2 := a64 ha hc
  have z3 := a64 hb hc
  have z4 := x64 (and32 (a := sa) hb) (and32 (a := sa) hc)
  have z5 : bits .xor .u64 ((sa &&& sb ^^^ sa &&& sc : Nat) : Int) ((sb &&& sc : Nat) : Int) = (most sa sb sc : Int) := x64 (xor32 (and32 hb) (and32 hc)) (and32 hc)
  have lS1 := bigS1_lt se
  have lS0 := bigS0_lt sa
  have lch := choose_lt (e := se) hf hg
  have lmo := most_lt (a := sa) hb hc
  have HF := Lib.hid (show (Eight.step ⟨sa, sb, sc, sd, se, sf, sg, sh⟩ (k + x)).list = [((sh + bigS1 se + choose se sf sg + (k + x)) % 4294967296 + (bigS0 sa + most sa sb sc) % 4294967296) % 4294967296, sa, sb, sc, (sd + (sh + bigS1 se + choose se sf sg + (k + x)) % 4294967296) % 4294967296, se, sf, sg] from rfl)
  clear r1 r2 r3 r4 r5 r6
  go_enter Tryd.func114, Tryd.ntmps114
  go_wp2_with fail
  go_quiet ((go_at_call 138; exact Calls.quiet_of_same (l1Turn_any _ _ _ (by omega) (by omega) (by omega))))
  generalize nq = n1 at *
  go_wp2_with fail
  go_quiet (fail)
  generalize nq = n2 at *
  go_wp2_with fail
  refine (l1Word_any _ _ (by omega) (by omega)).mono ?_
  rintro e w' ⟨rfl, rfl⟩
  rw [show ((sh : Int) + (bigS1 se : Int) + (choose se sf sg : Int) + (k : Int) + (x : Int)) % 4294967296 = (((sh + bigS1 se + choose se sf sg + (k + x)) % 4294967296 : Nat) : Int) from by omega]
  have lT1 : (sh + bigS1 se + choose se sf sg + (k + x)) % 4294967296 < 4294967296 := Nat.mod_lt _ (by decide)
  generalize (sh + bigS1 se + choose se sf sg + (k + x)) % 4294967296 = T1 at *
  clear lS1 lch x1 x2 y1 y2 y3 y4
  go_wp2_with fail
  go_quiet ((go_at_call 138; exact quiet2 (l1Turn_any _ _ _ (by omega) (by omega) (by omega))))
  generalize nq = n3 at *
  go_wp2_with fail
  go_quiet (fail)
  generalize nq = n4 at *
  go_wp2_with fail
  refine (l1Word_any _ _ (by omega) (by omega)).mono ?_
  rintro e w' ⟨rfl, rfl⟩
  rw [show ((bigS0 sa : Int) + (most sa sb sc : Int)) % 4294967296 = (((bigS0 sa + most sa sb sc) % 4294967296 : Nat) : Int) from by omega]
  have lT2 : (bigS0 sa + most sa sb sc) % 4294967296 < 4294967296 := Nat.mod_lt _ (by decide)
  generalize (bigS0 sa + most sa sb sc) % 4294967296 = T2 at *
  clear lS0 lmo x3 x4 z1 z2 z3 z4 z5
  obtain ⟨m1, hm1⟩ : ∃ m, (T1 + T2) % 4294967296 = m := ⟨_, rfl⟩
  obtain ⟨m2, hm2⟩ : ∃ m, (sd + T1) % 4294967296 = m := ⟨_, rfl⟩
  have v1 : ((T1 : Int) + (T2 : Int)) % 4294967296 = (m1 : Int) := by omega
  have v2 : ((sd : Int) + (T1 : Int)) % 4294967296 = (m2 : Int) := by omega
  have u1 := wrap64u ((T1 : Int) + (T2 : Int)) (by omega) (by omega)
  have u2 := wrap64u ((sd : Int) + (T1 : Int)) (by omega) (by omega)
  have HM1 := Lib.hid hm1
  have HM2 := Lib.hid hm2
  clear hm1 hm2
  go_wp2_with fail
  have d0 : (w.drewN (n1 + n2 + n3 + n4)).cell? _ = _ := c0
  have d1 : (w.drewN (n1 + n2 + n3 + n4)).cell? _ = _ := c1
  have d2 : (w.drewN (n1 + n2 + n3 + n4)).cell? _ = _ := c2
  have d3 : (w.drewN (n1 + n2 + n3 + n4)).cell? _ = _ := c3
  have d4 : (w.drewN (n1 + n2 + n3 + n4)).cell? _ = _ := c4
  have d5 : (w.drewN (n1 + n2 + n3 + n4)).cell? _ = _ := c5
  have d6 : (w.drewN (n1 + n2 + n3 + n4)).cell? _ = _ := c6
  have hbel := below_draws (Below.refl w.heap.size w) (n1 + n2 + n3 + n4)
  have hsz : (w.drewN (n1 + n2 + n3 + n4)).heap.size = w.heap.size := rfl
  clear c0 c1 c2 c3 c4 c5 c6 c7
  generalize w.drewN (n1 + n2 + n3 + n4) = w2 at *
  have HZ := Lib.hid hsz
  clear hsz
  refine wp_region_still_tail 28 (by kernel_rfl) (by kernel_rfl) ?_
  simp only [List.take_succ_cons, List.take_zero, List.drop_succ_cons, List.drop_zero]
  repeat (first | still_call (l1Word_any _ _ (by omega) (by omega)) | still_step)
  refine wpStill_nil ?_
  clear u1 u2 v1 v2
  go_wp2
  go_ret
  refine ⟨by rw [← HZ.out]; rfl, ?_, (hbel.alloc (by rw [HZ.out]; exact Nat.le_refl _) _).drew⟩
  rw [HF.out, HM1.out, HM2.out, ← HZ.out]
  exact OwnK.lit (w := w2) (l := [m1, sa, sb, sc, m2, se, sf, sg]) (Nat.le_refl _) (by simp)
end Go.Proofs.YtbejafbpipdbjaaDoor
