/-
  The program's shaRound is one round. Conditions: eight words and one word of 32 bits.
-/
import Derived.Test.YtbejafbpipdbjaaDoorShaIR
namespace Go.Proofs.YtbejafbpipdbjaaDoor
set_option maxRecDepth 4000
open Go.RowKit

set_option maxRecDepth 100000 in
set_option maxHeartbeats 2000000 in
theorem shaRound_any (s : Eight) (x : Nat) (w : World) (hs : s.Ok) :
    Calls Tryd.prog 147 #[s.agg, .int .u32 (x : Int)] w fun e w' => e = .returned (s.step x).agg ∧ Below w.heap.size w w' := by
  obtain ⟨ha, hb, hc, hd, he, hf, hg, hh⟩ := hs
  obtain ⟨sa, sb, sc, sd, se, sf, sg, sh⟩ := s
  simp only at ha hb hc hd he hf hg hh
  have r1 := rotr_lt se 6
  have r2 := rotr_lt se 11
  have r3 := rotr_lt se 25
  have r4 := rotr_lt sa 2
  have r5 := rotr_lt sa 13
  have r6 := rotr_lt sa 22
  have x1 := x32 r1 r2
  have x2 : bits .xor .u32 ((rotr se 6 ^^^ rotr se 11 : Nat) : Int) (rotr se 25 : Int) = (bigS1 se : Int) := x32 (xor32 r1 r2) r3
  have x3 := x32 r4 r5
  have x4 : bits .xor .u32 ((rotr sa 2 ^^^ rotr sa 13 : Nat) : Int) (rotr sa 22 : Int) = (bigS0 sa : Int) := x32 (xor32 r4 r5) r6
  have y1 := a32 he hf
  have y2 : bits .xor .u32 IntKind.u32.max (se : Int) = ((4294967295 ^^^ se : Nat) : Int) := x32 (a := 4294967295) (by omega) he
  have y3 := a32 (a := 4294967295 ^^^ se) (xor32 (by omega) he) hg
  have y4 : bits .xor .u32 ((se &&& sf : Nat) : Int) (((4294967295 ^^^ se) &&& sg : Nat) : Int) = (choose se sf sg : Int) := x32 (and32 hf) (and32 hg)
  have z1 := a32 ha hb
  have z2 := a32 ha hc
  have z3 := a32 hb hc
  have z4 := x32 (and32 (a := sa) hb) (and32 (a := sa) hc)
  have z5 : bits .xor .u32 ((sa &&& sb ^^^ sa &&& sc : Nat) : Int) ((sb &&& sc : Nat) : Int) = (most sa sb sc : Int) := x32 (xor32 (and32 hb) (and32 hc)) (and32 hc)
  obtain ⟨q1, hq1⟩ : ∃ q, (sh + bigS1 se) % 4294967296 = q := ⟨_, rfl⟩
  obtain ⟨q2, hq2⟩ : ∃ q, (q1 + choose se sf sg) % 4294967296 = q := ⟨_, rfl⟩
  obtain ⟨q3, hq3⟩ : ∃ q, (q2 + x) % 4294967296 = q := ⟨_, rfl⟩
  obtain ⟨q4, hq4⟩ : ∃ q, (bigS0 sa + most sa sb sc) % 4294967296 = q := ⟨_, rfl⟩
  obtain ⟨q5, hq5⟩ : ∃ q, (q3 + q4) % 4294967296 = q := ⟨_, rfl⟩
  obtain ⟨q6, hq6⟩ : ∃ q, (sd + q3) % 4294967296 = q := ⟨_, rfl⟩
  have m1 := wrap32u sh (bigS1 se)
  have m2 := wrap32u q1 (choose se sf sg)
  have m3 := wrap32u q2 x
  have m4 := wrap32u (bigS0 sa) (most sa sb sc)
  have m5 := wrap32u q3 q4
  have m6 := wrap32u sd q3
  rw [hq1] at m1
  rw [hq2] at m2
  rw [hq3] at m3
  rw [hq4] at m4
  rw [hq5] at m5
  rw [hq6] at m6
  have hT1 : t1Of ⟨sa, sb, sc, sd, se, sf, sg, sh⟩ x = q3 := by unfold t1Of; simp only; omega
  have hT2 : t2Of ⟨sa, sb, sc, sd, se, sf, sg, sh⟩ = q4 := hq4
  have hstep : (Eight.step ⟨sa, sb, sc, sd, se, sf, sg, sh⟩ x).agg = .agg #[.int .u32 (q5 : Int), .int .u32 (sa : Int), .int .u32 (sb : Int), .int .u32 (sc : Int), .int .u32 (q6 : Int), .int .u32 (se : Int), .int .u32 (sf : Int), .int .u32 (sg : Int)] := by
    simp only [Eight.step, Eight.agg, hT1, hT2, hq5, hq6]
  rw [hstep]
  clear hstep hT1 hT2 hq1 hq2 hq3 hq4 hq5 hq6 r1 r2 r3 r4 r5 r6
  unfold Eight.agg
  simp only
  go_enter Tryd.func147, Tryd.ntmps147
  go_wp2_with fail
  go_quiet (fail)
  generalize nq = n1 at *
  go_wp2_with fail
  refine (rotateRight_any _ _ _ (by assumption) (by decide) (by decide)).mono ?_
  rintro e w' ⟨rfl, rfl⟩
  go_wp2_with fail
  refine (rotateRight_any _ _ _ (by assumption) (by decide) (by decide)).mono ?_
  rintro e w' ⟨rfl, rfl⟩
  go_wp2_with fail
  refine (rotateRight_any _ _ _ (by assumption) (by decide) (by decide)).mono ?_
  rintro e w' ⟨rfl, rfl⟩
  go_wp2_with fail
  refine (rotateRight_any _ _ _ (by assumption) (by decide) (by decide)).mono ?_
  rintro e w' ⟨rfl, rfl⟩
  go_wp2_with fail
  refine (rotateRight_any _ _ _ (by assumption) (by decide) (by decide)).mono ?_
  rintro e w' ⟨rfl, rfl⟩
  go_wp2_with fail
  refine (rotateRight_any _ _ _ (by assumption) (by decide) (by decide)).mono ?_
  rintro e w' ⟨rfl, rfl⟩
  go_wp2
  refine bodyPost_ret (v := .agg #[.int .u32 (q5 : Int), .int .u32 (sa : Int), .int .u32 (sb : Int), .int .u32 (sc : Int), .int .u32 (q6 : Int), .int .u32 (se : Int), .int .u32 (sf : Int), .int .u32 (sg : Int)]) ?_ rfl ⟨rfl, ?_⟩
  · clear x1 x2 x3 x4 y1 y2 y3 y4 z1 z2 z3 z4 z5 m1 m2 m3 m4 m5 m6
    simp [results, Tryd.results147, go_sem]
  · have hb0 : Below w.heap.size w ((w.alloc (.cells #[.int .u32 (sa : Int), .int .u32 (sb : Int), .int .u32 (sc : Int), .int .u32 (sd : Int), .int .u32 (se : Int), .int .u32 (sf : Int), .int .u32 (sg : Int), .int .u32 (sh : Int)] 174)).alloc (.cells #[.int .u32 0, .int .u32 0, .int .u32 0, .int .u32 0, .int .u32 0, .int .u32 0, .int .u32 0, .int .u32 0] 174)) := ((Below.refl _ w).alloc (Nat.le_refl _) _).alloc (by simp) _
    have hb1 := below_draws hb0 n1
    exact (((((((hb1.setCell (by simp) _).setCell (by simp) _).setCell (by simp) _).setCell (by simp) _).setCell (by simp) _).setCell (by simp) _).setCell (by simp) _).setCell (by simp) _
end Go.Proofs.YtbejafbpipdbjaaDoor
