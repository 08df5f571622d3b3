/-
  ShaSum of the program and of the reference is the sum of bytes, none where they are too many. Condition: the program's two tables are the standard's.
-/
import Derived.Test.YtbejafbpipdbjaaDoorShaA
import Derived.Test.YtbejafbpipdbjaaDoorRow
import Derived.Deep.RegionHeld3
import Derived.StillTailTactics
import Derived.Deep.MidRow
import Derived.Laws.Tables
import Derived.Laws.CopyOwn
namespace Go.Proofs.YtbejafbpipdbjaaDoor
set_option maxRecDepth 4000
open Go.RowKit

theorem turn32 (x n : Nat) (hx : x < 4294967296) : bits .or .u32 (IntKind.u32.wrap ((x : Int) * 2 ^ (32 - n))) ((x : Int) / 2 ^ n) = (rotr x n : Int) := by
  have e1 : (x : Int) / 2 ^ n = ((x >>> n : Nat) : Int) := by rw [Nat.shiftRight_eq_div_pow]; simp
  have e2 : IntKind.u32.wrap ((x : Int) * 2 ^ (32 - n)) = ((x <<< (32 - n) % 4294967296 : Nat) : Int) := by
    rw [IntKind.wrap_u32, Nat.shiftLeft_eq, Int.natCast_emod, Int.natCast_mul]
    simp
  rw [e1, e2, u32_or_nat _ _ (Nat.mod_lt _ (by decide)) (shr32 n hx)]
  have hr : rotr x n = (x >>> n ||| x <<< (32 - n)) % 2 ^ 32 := rfl
  rw [hr, Nat.or_mod_two_pow, Nat.mod_eq_of_lt (shr32 n hx), Nat.or_comm]
theorem mask32 (n : Nat) (h0 : 0 < n) (hn : n < 32) : bits .and .u64 (IntKind.u64.wrap (-(n : Int))) 31 = ((32 - n : Nat) : Int) := by
  have e : IntKind.u64.wrap (-(n : Int)) = ((18446744073709551616 - n : Nat) : Int) := by rw [IntKind.wrap_u64]; omega
  rw [e]
  have := u64_and_nat (18446744073709551616 - n) 31 (by omega) (by omega)
  rw [show ((31 : Nat) : Int) = 31 from rfl] at this
  rw [this, nat_mask5]
  congr 1
  omega

set_option maxHeartbeats 400000 in
theorem rotateLeft_any (x n : Nat) (w : World) (hx : x < 4294967296) (h0 : 0 < n) (hn : n < 32) :
    Calls Tryd.prog 151 #[.int .u32 (x : Int), .int .i64 (-(n : Int))] w fun e w' => e = .returned (.int .u32 (rotr x n : Int)) ∧ w' = w := by
  have hm := mask32 n h0 hn
  have HT := Lib.hid (turn32 x n hx)
  generalize rotr x n = r at *
  go_enter Tryd.func151, Tryd.ntmps151
  go_wp2
  go_ret
  refine ⟨?_, rfl⟩
  show Ending.returned (.int .u32 (bits .or .u32 ((x : Int) * 2 ^ (32 - n) % 4294967296) ((x : Int) / 2 ^ (32 - (32 - n))))) = _
  rw [show 32 - (32 - n) = n from by omega, ← IntKind.wrap_u32, HT.out]

set_option maxHeartbeats 400000 in
theorem rotateRight_any (x : Nat) (t : Int) (w : World) (hx : x < 4294967296) (h0 : 0 < t) (hn : t < 32) :
    Calls Tryd.prog 150 #[.int .u32 (x : Int), .int .i64 t] w fun e w' => e = .returned (.int .u32 (rotr x t.toNat : Int)) ∧ w' = w := by
  obtain ⟨n, rfl⟩ := Int.eq_ofNat_of_zero_le (show 0 ≤ t by omega)
  rw [Int.toNat_natCast]
  go_enter Tryd.func150, Tryd.ntmps150
  go_wp2_with fail
  refine (rotateLeft_any x n _ hx (by omega) (by omega)).mono ?_
  rintro e w' ⟨rfl, rfl⟩
  go_wp2
  go_ret
  exact ⟨rfl, rfl⟩

theorem x32 {a b : Nat} (ha : a < 4294967296) (hb : b < 4294967296) : bits .xor .u32 (a : Int) (b : Int) = ((a ^^^ b : Nat) : Int) := u32_xor_nat a b ha hb
theorem a32 {a b : Nat} (ha : a < 4294967296) (hb : b < 4294967296) : bits .and .u32 (a : Int) (b : Int) = ((a &&& b : Nat) : Int) := u32_and_nat a b ha hb
theorem wrap32u (a b : Nat) : IntKind.u32.wrap ((a : Int) + (b : Int)) = (((a + b) % 4294967296 : Nat) : Int) := by rw [IntKind.wrap_u32]; omega

/-- Eight words as an array's value. -/
def Eight.agg (s : Eight) : Value := .agg #[.int .u32 (s.a : Int), .int .u32 (s.b : Int), .int .u32 (s.c : Int), .int .u32 (s.d : Int), .int .u32 (s.e : Int), .int .u32 (s.f : Int), .int .u32 (s.g : Int), .int .u32 (s.h : Int)]
end Go.Proofs.YtbejafbpipdbjaaDoor
namespace Go.Proofs.YtbejafbpipdbjaaDoor
set_option maxRecDepth 4000
open Go.RowKit

set_option maxRecDepth 100000 in
set_option maxHeartbeats 2000000 in
theorem shaRound_any (s : Eight) (x : Nat) (w : World) (hs : s.Ok) :
    Calls Tryd.prog 147 #[s.agg, .int .u32 (x : Int)] w fun e w' => e = .returned (s.step x).agg ∧ Below w.heap.size w w' := by
  obtain ⟨ha, hb, hc, hd, he, hf, hg, hh⟩ := hs
  obtain ⟨sa, sb, sc, sd, se, sf, sg, sh⟩ := s
  simp only at ha hb hc hd he hf hg hh
  have r1 := rotr_lt se 6
  have r2 := rotr_lt se 11
  have r3 := rotr_lt se 25
  have r4 := rotr_lt sa 2
  have r5 := rotr_lt sa 13
  have r6 := rotr_lt sa 22
  have x1 := x32 r1 r2
  have x2 : bits .xor .u32 ((rotr se 6 ^^^ rotr se 11 : Nat) : Int) (rotr se 25 : Int) = (bigS1 se : Int) := x32 (xor32 r1 r2) r3
  have x3 := x32 r4 r5
  have x4 : bits .xor .u32 ((rotr sa 2 ^^^ rotr sa 13 : Nat) : Int) (rotr sa 22 : Int) = (bigS0 sa : Int) := x32 (xor32 r4 r5) r6
  have y1 := a32 he hf
  have y2 : bits .xor .u32 IntKind.u32.max (se : Int) = ((4294967295 ^^^ se : Nat) : Int) := x32 (a := 4294967295) (by omega) he
  have y3 := a32 (a := 4294967295 ^^^ se) (xor32 (by omega) he) hg
  have y4 : bits .xor .u32 ((se &&& sf : Nat) : Int) (((4294967295 ^^^ se) &&& sg : Nat) : Int) = (choose se sf sg : Int) := x32 (and32 hf) (and32 hg)
  have z1 := a32 ha hb
  have z2 := a32 ha hc
  have z3 := a32 hb hc
  have z4 := x32 (and32 (a := sa) hb) (and32 (a := sa) hc)
  have z5 : bits .xor .u32 ((sa &&& sb ^^^ sa &&& sc : Nat) : Int) ((sb &&& sc : Nat) : Int) = (most sa sb sc : Int) := x32 (xor32 (and32 hb) (and32 hc)) (and32 hc)
  obtain ⟨q1, hq1⟩ : ∃ q, (sh + bigS1 se) % 4294967296 = q := ⟨_, rfl⟩
  obtain ⟨q2, hq2⟩ : ∃ q, (q1 + choose se sf sg) % 4294967296 = q := ⟨_, rfl⟩
  obtain ⟨q3, hq3⟩ : ∃ q, (q2 + x) % 4294967296 = q := ⟨_, rfl⟩
  obtain ⟨q4, hq4⟩ : ∃ q, (bigS0 sa + most sa sb sc) % 4294967296 = q := ⟨_, rfl⟩
  obtain ⟨q5, hq5⟩ : ∃ q, (q3 + q4) % 4294967296 = q := ⟨_, rfl⟩
  obtain ⟨q6, hq6⟩ : ∃ q, (sd + q3) % 4294967296 = q := ⟨_, rfl⟩
  have m1 := wrap32u sh (bigS1 se)
  have m2 := wrap32u q1 (choose se sf sg)
  have m3 := wrap32u q2 x
  have m4 := wrap32u (bigS0 sa) (most sa sb sc)
  have m5 := wrap32u q3 q4
  have m6 := wrap32u sd q3
  rw [hq1] at m1
  rw [hq2] at m2
  rw [hq3] at m3
  rw [hq4] at m4
  rw [hq5] at m5
  rw [hq6] at m6
  have hT1 : t1Of ⟨sa, sb, sc, sd, se, sf, sg, sh⟩ x = q3 := by unfold t1Of; simp only; omega
  have hT2 : t2Of ⟨sa, sb, sc, sd, se, sf, sg, sh⟩ = q4 := hq4
  have hstep : (Eight.step ⟨sa, sb, sc, sd, se, sf, sg, sh⟩ x).agg = .agg #[.int .u32 (q5 : Int), .int .u32 (sa : Int), .int .u32 (sb : Int), .int .u32 (sc : Int), .int .u32 (q6 : Int), .int .u32 (se : Int), .int .u32 (sf : Int), .int .u32 (sg : Int)] := by
    simp only [Eight.step, Eight.agg, hT1, hT2, hq5, hq6]
  rw [hstep]
  clear hstep hT1 hT2 hq1 hq2 hq3 hq4 hq5 hq6 r1 r2 r3 r4 r5 r6
  unfold Eight.agg
  simp only
  go_enter Tryd.func147, Tryd.ntmps147
  go_wp2_with fail
  go_quiet (fail)
  generalize nq = n1 at *
  go_wp2_with fail
  refine (rotateRight_any _ _ _ (by assumption) (by decide) (by decide)).mono ?_
  rintro e w' ⟨rfl, rfl⟩
  go_wp2_with fail
  refine (rotateRight_any _ _ _ (by assumption) (by decide) (by decide)).mono ?_
  rintro e w' ⟨rfl, rfl⟩
  go_wp2_with fail
  refine (rotateRight_any _ _ _ (by assumption) (by decide) (by decide)).mono ?_
  rintro e w' ⟨rfl, rfl⟩
  go_wp2_with fail
  refine (rotateRight_any _ _ _ (by assumption) (by decide) (by decide)).mono ?_
  rintro e w' ⟨rfl, rfl⟩
  go_wp2_with fail
  refine (rotateRight_any _ _ _ (by assumption) (by decide) (by decide)).mono ?_
  rintro e w' ⟨rfl, rfl⟩
  go_wp2_with fail
  refine (rotateRight_any _ _ _ (by assumption) (by decide) (by decide)).mono ?_
  rintro e w' ⟨rfl, rfl⟩
  go_wp2
  refine bodyPost_ret (v := .agg #[.int .u32 (q5 : Int), .int .u32 (sa : Int), .int .u32 (sb : Int), .int .u32 (sc : Int), .int .u32 (q6 : Int), .int .u32 (se : Int), .int .u32 (sf : Int), .int .u32 (sg : Int)]) ?_ rfl ⟨rfl, ?_⟩
  · clear x1 x2 x3 x4 y1 y2 y3 y4 z1 z2 z3 z4 z5 m1 m2 m3 m4 m5 m6
    simp [results, Tryd.results147, go_sem]
  · have hb0 : Below w.heap.size w ((w.alloc (.cells #[.int .u32 (sa : Int), .int .u32 (sb : Int), .int .u32 (sc : Int), .int .u32 (sd : Int), .int .u32 (se : Int), .int .u32 (sf : Int), .int .u32 (sg : Int), .int .u32 (sh : Int)] 174)).alloc (.cells #[.int .u32 0, .int .u32 0, .int .u32 0, .int .u32 0, .int .u32 0, .int .u32 0, .int .u32 0, .int .u32 0] 174)) := ((Below.refl _ w).alloc (Nat.le_refl _) _).alloc (by simp) _
    have hb1 := below_draws hb0 n1
    exact (((((((hb1.setCell (by simp) _).setCell (by simp) _).setCell (by simp) _).setCell (by simp) _).setCell (by simp) _).setCell (by simp) _).setCell (by simp) _).setCell (by simp) _
end Go.Proofs.YtbejafbpipdbjaaDoor
namespace Go.Proofs.YtbejafbpipdbjaaDoor
set_option maxRecDepth 4000
open Go.RowKit

/-- The first k words of a block's schedule, and noughts. -/
def planL (l : List UInt8) (k : Nat) : List Nat := sched l k ++ List.replicate (64 - k) 0
theorem planL_zero (l : List UInt8) : planL l 0 = List.replicate 64 0 := rfl
theorem planL_all (l : List UInt8) : planL l 64 = sched l 64 := by simp [planL]
theorem planL_length (l : List UInt8) (k : Nat) (hk : k ≤ 64) : (planL l k).length = 64 := by simp [planL, sched_length]; omega
theorem planL_set (l : List UInt8) (k v : Nat) (hk : k < 64) (hv : sched l (k + 1) = sched l k ++ [v]) : (planL l k).set k v = planL l (k + 1) := by
  unfold planL
  rw [List.set_append_right _ _ (by rw [sched_length]; exact Nat.le_refl _), sched_length, Nat.sub_self, hv]
  obtain ⟨m, hm⟩ : ∃ m, 64 - k = m + 1 := ⟨63 - k, by omega⟩
  rw [hm, show 64 - (k + 1) = m from by omega, List.replicate_succ, List.set_cons_zero, List.append_assoc]
  rfl
/-- A block of 64 words of 32 bits. -/
def planA (l : List Nat) : Array Value := (l.map (kv .u32)).toArray

theorem sched_word' (l : List UInt8) (k : Nat) (x0 x1 x2 x3 : UInt8) (hk : k < 16) (h0 : l[4 * k]? = some x0) (h1 : l[4 * k + 1]? = some x1) (h2 : l[4 * k + 2]? = some x2) (h3 : l[4 * k + 3]? = some x3) :
    sched l (k + 1) = sched l k ++ [((x0.toNat <<< 24 ||| x1.toNat <<< 16) ||| x2.toNat <<< 8) ||| x3.toNat] := by
  rw [sched, nextW, if_pos hk, be32]
  simp [List.getD, h0, h1, h2, h3]
theorem sched_more' (l : List UInt8) (k a16 a15 a7 a2 : Nat) (hk : 16 ≤ k) (h16 : (sched l k)[k - 16]? = some a16) (h15 : (sched l k)[k - 15]? = some a15) (h7 : (sched l k)[k - 7]? = some a7) (h2 : (sched l k)[k - 2]? = some a2) :
    sched l (k + 1) = sched l k ++ [(a16 + smallS0 a15 + a7 + smallS1 a2) % 4294967296] := by
  rw [sched, nextW, if_neg (by omega)]
  simp [List.getD, h16, h15, h7, h2]

/-- What stands in the call's three blocks behind k words. -/
def Plan (w : World) (l : List UInt8) (k : Nat) (wr : World) : Prop :=
  wr.heap[w.heap.size]? = some (.cells (l.map bv).toArray 131 (0, 0)) ∧ wr.heap[w.heap.size + 1]? = some (.cells (planA (List.replicate 64 0)) 185 (0, 0)) ∧
    wr.heap[w.heap.size + 1 + 1]? = some (.cells (planA (planL l k)) 185 (0, 0)) ∧ Below w.heap.size w wr ∧ w.heap.size + 3 ≤ wr.heap.size
theorem Plan.byte {w wr : World} {l : List UInt8} {k : Nat} (h : Plan w l k wr) (i : Nat) (x : UInt8) (hx : l[i]? = some x) : wr.cell? ⟨w.heap.size, i, none⟩ = some (.int .u8 (x.toNat : Int)) := by
  rw [cell_of_row wr w.heap.size i _ _ _ h.1]
  simp [hx, bv]
theorem Plan.word {w wr : World} {l : List UInt8} {k : Nat} (h : Plan w l k wr) (i x : Nat) (hx : (planL l k)[i]? = some x) : wr.cell? ⟨w.heap.size + 1 + 1, i, none⟩ = some (.int .u32 (x : Int)) := by
  rw [cell_of_row wr (w.heap.size + 1 + 1) i _ _ _ h.2.2.1]
  simp [planA, hx, kv]
theorem Plan.free {w wr : World} {l : List UInt8} {k : Nat} (h : Plan w l k wr) (i : Nat) : wr.frozen? ⟨w.heap.size + 1 + 1, i, none⟩ = false := by
  have := h.2.2.1
  simp [World.frozen?, this]
theorem Plan.drewN {w wr : World} {l : List UInt8} {k : Nat} (h : Plan w l k wr) (n : Nat) : Plan w l k (wr.drewN n) := ⟨h.1, h.2.1, h.2.2.1, below_draws h.2.2.2.1 n, h.2.2.2.2⟩
theorem Plan.next {w wr : World} {l : List UInt8} {k v : Nat} (h : Plan w l k wr) (hk : k < 64) (hv : sched l (k + 1) = sched l k ++ [v]) : Plan w l (k + 1) (wr.drew.setCell ⟨w.heap.size + 1 + 1, k, none⟩ (.int .u32 (v : Int))) := by
  obtain ⟨h1, h2, h3, h4, h5⟩ := h
  refine ⟨(Below.heap_setCell wr.drew _ _ _ (by simp; omega)).trans h1, (Below.heap_setCell wr.drew _ _ _ (by simp)).trans h2, ?_, h4.drew.setCell (by show _ ≤ w.heap.size + 1 + 1; omega) _, by show _ ≤ (wr.drew.setCell _ _).heap.size; simp; exact h5⟩
  have h3' : wr.drew.heap[w.heap.size + 1 + 1]? = _ := h3
  rw [heap_setCell_same wr.drew (w.heap.size + 1 + 1) k _ _ (.int .u32 (v : Int)) h3']
  congr 2
  rw [← planL_set l k v hk hv]
  simp [planA, kv]

theorem planL_at (l : List UInt8) (k i x : Nat) (h : (sched l k)[i]? = some x) : (planL l k)[i]? = some x := by
  unfold planL
  rw [List.getElem?_append_left (List.getElem?_eq_some_iff.1 h).1]
  exact h
theorem infoPlan : (Tryd.prog.info? 185).map (·.size) = some 64 := by kernel_rfl
theorem three_new (w : World) (o1 o2 o3 : Obj) : (((w.alloc o1).alloc o2).alloc o3).heap[w.heap.size]? = some o1 ∧ (((w.alloc o1).alloc o2).alloc o3).heap[w.heap.size + 1]? = some o2 ∧ (((w.alloc o1).alloc o2).alloc o3).heap[w.heap.size + 1 + 1]? = some o3 := by
  have e1 : (w.alloc o1).heap.size = w.heap.size + 1 := by simp
  have e2 : ((w.alloc o1).alloc o2).heap.size = w.heap.size + 1 + 1 := by simp
  refine ⟨?_, ?_, ?_⟩
  · rw [Below.heap_alloc _ _ _ (by omega), Below.heap_alloc _ _ _ (by omega)]
    exact heap_alloc_new w o1
  · rw [Below.heap_alloc _ _ _ (by omega), ← e1]
    exact heap_alloc_new _ o2
  · rw [← e2]
    exact heap_alloc_new _ o3

set_option maxRecDepth 100000 in
set_option maxHeartbeats 2000000 in
theorem shaSchedule_any (l : List UInt8) (w : World) (hl : l.length = 64) :
    Calls Tryd.prog 146 #[.agg (l.map bv).toArray] w fun e w' => e = .returned (.agg (planA (sched l 64))) ∧ Below w.heap.size w w' := by
  go_enter Tryd.func146, Tryd.ntmps146
  go_wp2_with fail
  go_loopw [10] (fun i wr => ∃ k : Nat, k ≤ 16 ∧ i = .int .i64 k ∧ Plan w l k wr) (fun i _ => 16 - (intOf i).toNat)
  case atStart =>
    obtain ⟨a1, a2, a3⟩ := three_new w (.cells (l.map bv).toArray 131) (.cells (planA (List.replicate 64 0)) 185) (.cells (planA (planL l 0)) 185)
    exact ⟨0, by omega, rfl, a1, a2, a3, (((Below.refl _ w).alloc (Nat.le_refl _) _).alloc (by simp) _).alloc (by simp; omega) _, by simp⟩
  case round =>
    obtain ⟨k, hk, rfl, hpl⟩ := hrel
    by_cases hlt : k < 16
    · obtain ⟨x0, hx0⟩ : ∃ x, l[4 * k]? = some x := ⟨_, List.getElem?_eq_getElem (by omega)⟩
      obtain ⟨x1, hx1⟩ : ∃ x, l[4 * k + 1]? = some x := ⟨_, List.getElem?_eq_getElem (by omega)⟩
      obtain ⟨x2, hx2⟩ : ∃ x, l[4 * k + 2]? = some x := ⟨_, List.getElem?_eq_getElem (by omega)⟩
      obtain ⟨x3, hx3⟩ : ∃ x, l[4 * k + 3]? = some x := ⟨_, List.getElem?_eq_getElem (by omega)⟩
      have d0 : wr.drew.cell? _ = _ := hpl.byte _ x0 hx0
      have d1 : wr.drew.cell? _ = _ := hpl.byte _ x1 hx1
      have d2 : wr.drew.cell? _ = _ := hpl.byte _ x2 hx2
      have d3 : wr.drew.cell? _ = _ := hpl.byte _ x3 hx3
      obtain ⟨p, hp⟩ : ∃ p, (planL l k)[k]? = some p := ⟨_, List.getElem?_eq_getElem (by rw [planL_length l k (by omega)]; omega)⟩
      have dP : wr.drew.cell? _ = _ := hpl.word k p hp
      have fP : wr.drew.frozen? _ = _ := hpl.free k
      obtain ⟨y0, hy0⟩ : ∃ y, x0.toNat <<< 24 = y := ⟨_, rfl⟩
      obtain ⟨y1, hy1⟩ : ∃ y, x1.toNat <<< 16 = y := ⟨_, rfl⟩
      obtain ⟨y2, hy2⟩ : ∃ y, x2.toNat <<< 8 = y := ⟨_, rfl⟩
      obtain ⟨z1, hz1'⟩ : ∃ y, y0 ||| y1 = y := ⟨_, rfl⟩
      obtain ⟨z2, hz2'⟩ : ∃ y, z1 ||| y2 = y := ⟨_, rfl⟩
      obtain ⟨z3, hz3'⟩ : ∃ y, z2 ||| x3.toNat = y := ⟨_, rfl⟩
      have HS := sched_word' l k x0 x1 x2 x3 hlt hx0 hx1 hx2 hx3
      rw [hy0, hy1, hy2, hz1', hz2', hz3'] at HS
      have HN := Lib.hid (hpl.next (by omega) HS)
      have b0 := x0.toNat_lt
      have b1 := x1.toNat_lt
      have b2 := x2.toNat_lt
      have b3 := x3.toNat_lt
      have w32 : ∀ n : Nat, n < 4294967296 → IntKind.u32.wrap (n : Int) = (n : Int) := fun n hn => by rw [IntKind.wrap_u32]; omega
      have i0' := w32 x0.toNat (by omega)
      have i1' := w32 x1.toNat (by omega)
      have i2' := w32 x2.toNat (by omega)
      have i3' := w32 x3.toNat (by omega)
      have j0 : IntKind.u32.wrap ((x0.toNat : Int) * 16777216) = (y0 : Int) := by rw [IntKind.wrap_u32, ← hy0, Nat.shiftLeft_eq]; omega
      have j1 : IntKind.u32.wrap ((x1.toNat : Int) * 65536) = (y1 : Int) := by rw [IntKind.wrap_u32, ← hy1, Nat.shiftLeft_eq]; omega
      have j2 : IntKind.u32.wrap ((x2.toNat : Int) * 256) = (y2 : Int) := by rw [IntKind.wrap_u32, ← hy2, Nat.shiftLeft_eq]; omega
      have ly0 : y0 < 4294967296 := by rw [← hy0, Nat.shiftLeft_eq]; omega
      have ly1 : y1 < 4294967296 := by rw [← hy1, Nat.shiftLeft_eq]; omega
      have ly2 : y2 < 4294967296 := by rw [← hy2, Nat.shiftLeft_eq]; omega
      have lz1 : z1 < 4294967296 := by rw [← hz1']; exact Nat.or_lt_two_pow (n := 32) ly0 ly1
      have lz2 : z2 < 4294967296 := by rw [← hz2']; exact Nat.or_lt_two_pow (n := 32) lz1 ly2
      have o1 : bits .or .u32 (y0 : Int) (y1 : Int) = (z1 : Int) := by rw [u32_or_nat y0 y1 ly0 ly1, hz1']
      have o2 : bits .or .u32 (z1 : Int) (y2 : Int) = (z2 : Int) := by rw [u32_or_nat z1 y2 lz1 ly2, hz2']
      have o3 : bits .or .u32 (z2 : Int) (x3.toNat : Int) = (z3 : Int) := by rw [u32_or_nat z2 _ lz2 (by omega), hz3']
      clear hy0 hy1 hy2 hz1' hz2' hz3' b0 b1 b2 b3 ly0 ly1 ly2 lz1 lz2 hx0 hx1 hx2 hx3 hp HS hpl w32
      have q0 := IntWalk.i64_in (4 * (k : Int)) (by omega)
      have q1 := IntWalk.i64_in (4 * (k : Int) + 1) (by omega)
      have q2 := IntWalk.i64_in (4 * (k : Int) + 2) (by omega)
      have q3 := IntWalk.i64_in (4 * (k : Int) + 3) (by omega)
      have t0 : (4 * (k : Int)).toNat = 4 * k := by omega
      have t1 : (4 * (k : Int) + 1).toNat = 4 * k + 1 := by omega
      have t2 : (4 * (k : Int) + 2).toNat = 4 * k + 2 := by omega
      have t3 : (4 * (k : Int) + 3).toNat = 4 * k + 3 := by omega
      have p0 : 0 ≤ 4 * (k : Int) ∧ 4 * (k : Int) < 64 := by omega
      have p1 : 0 ≤ 4 * (k : Int) + 1 ∧ 4 * (k : Int) + 1 < 64 := by omega
      have p2 : 0 ≤ 4 * (k : Int) + 2 ∧ 4 * (k : Int) + 2 < 64 := by omega
      have p3 : 0 ≤ 4 * (k : Int) + 3 ∧ 4 * (k : Int) + 3 < 64 := by omega
      have pk : 0 ≤ (k : Int) ∧ (k : Int) < 64 := by omega
      go_wp2_with fail
      refine wp_region_still_tail 31 (by kernel_rfl) (by kernel_rfl) ?_
      simp only [List.take_succ_cons, List.take_zero, List.drop_succ_cons, List.drop_zero]
      change wpStill _ _ wr.drew _ _ _
      repeat still_step
      refine wpStill_nil ?_
      clear q0 q1 q2 q3 t0 t1 t2 t3 p0 p1 p2 p3 o1 o2 o3 i0' i1' i2' i3' j0 j1 j2 d0 d1 d2 d3
      go_wp2
      go_roundw
      case rel => exact ⟨k + 1, by omega, by go_num, HN.out⟩
      case measure => simp [intOf]; omega
    · obtain rfl : k = 16 := by omega
      rw [show ((16 : Nat) : Int) = 16 from rfl]
      go_wp2
      go_loopw [5] (fun i wr => ∃ k : Nat, 16 ≤ k ∧ k ≤ 64 ∧ i = .int .i64 k ∧ Plan w l k wr) (fun i _ => 64 - (intOf i).toNat)
      case atStart => exact ⟨16, by omega, by omega, rfl, hpl⟩
      case round =>
        clear hpl
        obtain ⟨k, hk16, hk, rfl, hpl⟩ := hrel
        by_cases hlt2 : k < 64
        · obtain ⟨a16, ha16⟩ : ∃ x, (sched l k)[k - 16]? = some x := ⟨_, List.getElem?_eq_getElem (by rw [sched_length]; omega)⟩
          obtain ⟨a15, ha15⟩ : ∃ x, (sched l k)[k - 15]? = some x := ⟨_, List.getElem?_eq_getElem (by rw [sched_length]; omega)⟩
          obtain ⟨a7, ha7⟩ : ∃ x, (sched l k)[k - 7]? = some x := ⟨_, List.getElem?_eq_getElem (by rw [sched_length]; omega)⟩
          obtain ⟨a2, ha2⟩ : ∃ x, (sched l k)[k - 2]? = some x := ⟨_, List.getElem?_eq_getElem (by rw [sched_length]; omega)⟩
          obtain ⟨p, hp⟩ : ∃ p, (planL l k)[k]? = some p := ⟨_, List.getElem?_eq_getElem (by rw [planL_length l k (by omega)]; omega)⟩
          have l15 := sched_lt l k a15 (List.mem_of_getElem? ha15)
          have l2 := sched_lt l k a2 (List.mem_of_getElem? ha2)
          have HS := sched_more' l k a16 a15 a7 a2 hk16 ha16 ha15 ha7 ha2
          have c15 := hpl.word _ a15 (planL_at l k _ _ ha15)
          have c2 := hpl.word _ a2 (planL_at l k _ _ ha2)
          have HC16 := Lib.hid (hpl.word _ a16 (planL_at l k _ _ ha16))
          have HC7 := Lib.hid (hpl.word _ a7 (planL_at l k _ _ ha7))
          have HCP := Lib.hid (hpl.word _ p hp)
          have HFP := Lib.hid (hpl.free k)
          obtain ⟨s0, hs0⟩ : ∃ z, (a16 + smallS0 a15) % 4294967296 = z := ⟨_, rfl⟩
          obtain ⟨s1, hs1⟩ : ∃ z, (s0 + a7) % 4294967296 = z := ⟨_, rfl⟩
          obtain ⟨s2, hs2⟩ : ∃ z, (s1 + smallS1 a2) % 4294967296 = z := ⟨_, rfl⟩
          have m0 := wrap32u a16 (smallS0 a15)
          have m1 := wrap32u s0 a7
          have m2 := wrap32u s1 (smallS1 a2)
          rw [hs0] at m0
          rw [hs1] at m1
          rw [hs2] at m2
          rw [show (a16 + smallS0 a15 + a7 + smallS1 a2) % 4294967296 = s2 from by omega] at HS
          have HN := Lib.hid fun n => (hpl.drewN n).next hlt2 HS
          have r1 := rotr_lt a15 7
          have r2 := rotr_lt a15 18
          have r3 := rotr_lt a2 17
          have r4 := rotr_lt a2 19
          obtain ⟨y1, hy1⟩ : ∃ y, a15 >>> 3 = y := ⟨_, rfl⟩
          obtain ⟨y2, hy2⟩ : ∃ y, a2 >>> 10 = y := ⟨_, rfl⟩
          have e1 : (a15 : Int) / 8 = (y1 : Int) := by rw [← hy1, Nat.shiftRight_eq_div_pow]; omega
          have e2 : (a2 : Int) / 1024 = (y2 : Int) := by rw [← hy2, Nat.shiftRight_eq_div_pow]; omega
          have x1 := x32 r1 r2
          have x2 : bits .xor .u32 ((rotr a15 7 ^^^ rotr a15 18 : Nat) : Int) (y1 : Int) = (smallS0 a15 : Int) := by rw [← hy1]; exact x32 (xor32 r1 r2) (shr32 _ l15)
          have x3 := x32 r3 r4
          have x4 : bits .xor .u32 ((rotr a2 17 ^^^ rotr a2 19 : Nat) : Int) (y2 : Int) = (smallS1 a2 : Int) := by rw [← hy2]; exact x32 (xor32 r3 r4) (shr32 _ l2)
          have q16 := IntWalk.i64_in ((k : Int) - 16) (by omega)
          have q15 := IntWalk.i64_in ((k : Int) - 15) (by omega)
          have q7 := IntWalk.i64_in ((k : Int) - 7) (by omega)
          have q2 := IntWalk.i64_in ((k : Int) - 2) (by omega)
          have t16 : ((k : Int) - 16).toNat = k - 16 := by omega
          have t15 : ((k : Int) - 15).toNat = k - 15 := by omega
          have t7 : ((k : Int) - 7).toNat = k - 7 := by omega
          have t2 : ((k : Int) - 2).toNat = k - 2 := by omega
          have k16 : (16 : Int) ≤ (k : Int) := by omega
          have k15 : (15 : Int) ≤ (k : Int) := by omega
          have k7 : (7 : Int) ≤ (k : Int) := by omega
          have k2 : (2 : Int) ≤ (k : Int) := by omega
          have p16 : 0 ≤ (k : Int) - 16 ∧ (k : Int) - 16 < 64 := by omega
          have p15 : 0 ≤ (k : Int) - 15 ∧ (k : Int) - 15 < 64 := by omega
          have p7 : 0 ≤ (k : Int) - 7 ∧ (k : Int) - 7 < 64 := by omega
          have p2 : 0 ≤ (k : Int) - 2 ∧ (k : Int) - 2 < 64 := by omega
          have o16 : (k : Int) - 16 < 64 := by omega
          have o15 : (k : Int) - 15 < 64 := by omega
          have o7 : (k : Int) - 7 < 64 := by omega
          have o2 : (k : Int) - 2 < 64 := by omega
          clear hpl ha16 ha15 ha7 ha2 hp HS hs0 hs1 hs2 hy1 hy2 r1 r2 r3 r4
          go_wp2_with fail
          go_quiet (fail)
          generalize nq = n1 at *
          go_wp2_with fail
          refine (rotateRight_any _ _ _ (by assumption) (by decide) (by decide)).mono ?_
          rintro e w' ⟨rfl, rfl⟩
          go_wp2_with fail
          refine (rotateRight_any _ _ _ (by assumption) (by decide) (by decide)).mono ?_
          rintro e w' ⟨rfl, rfl⟩
          go_wp2_with fail
          refine (rotateRight_any _ _ _ (by assumption) (by decide) (by decide)).mono ?_
          rintro e w' ⟨rfl, rfl⟩
          go_wp2_with fail
          refine (rotateRight_any _ _ _ (by assumption) (by decide) (by decide)).mono ?_
          rintro e w' ⟨rfl, rfl⟩
          go_wp2_with fail
          clear c15 c2 q15 q2 t15 t2 k15 k2 p15 p2 o15 o2 x1 x2 x3 x4 e1 e2 l15 l2
          have d16 : ((wr.drewN n1).drew).cell? _ = _ := HC16.out
          have d7 : ((wr.drewN n1).drew).cell? _ = _ := HC7.out
          have dP : ((wr.drewN n1).drew).cell? _ = _ := HCP.out
          have fP : ((wr.drewN n1).drew).frozen? _ = _ := HFP.out
          have HN2 := Lib.hid (HN.out n1)
          have pk : 0 ≤ (k : Int) ∧ (k : Int) < 64 := by omega
          generalize wr.drewN n1 = W2 at *
          refine wp_region_still_tail 15 (by kernel_rfl) (by kernel_rfl) ?_
          simp only [List.take_succ_cons, List.take_zero, List.drop_succ_cons, List.drop_zero]
          change wpStill _ _ W2.drew _ _ _
          repeat still_step
          refine wpStill_nil ?_
          clear q16 q7 t16 t7 p16 p7 m0 m1 m2
          go_wp2
          go_roundw
          case rel => exact ⟨k + 1, by omega, by omega, by go_num, HN2.out⟩
          case measure => simp [intOf]; omega
        · obtain rfl : k = 64 := by omega
          rw [show ((64 : Nat) : Int) = 64 from rfl]
          obtain ⟨h1, h2, h3, h4, h5⟩ := hpl
          rw [planL_all] at h3
          have hps : (planA (sched l 64)).size = 64 := by simp [planA, sched_length]
          have hin : (Tryd.prog.info? 185).map (·.size) = some (planA (sched l 64)).size := by rw [hps]; exact infoPlan
          have hold : (planA (List.replicate 64 0)).size = (planA (sched l 64)).size := by rw [hps]; rfl
          have hone : (planA (sched l 64)).all (·.oneCell') = true := all_oneCell_toArray (kvs_one _ _)
          obtain ⟨pl, hpe⟩ : ∃ pl, planA (sched l 64) = pl := ⟨_, rfl⟩
          rw [hpe] at h3 hps hin hold hone
          have HH := Lib.hid h2
          have H3 := Lib.hid h3
          have HPE := Lib.hid hpe
          have HPS := Lib.hid hps
          clear hpe hps
          clear h1 h2 h3
          go_wp2_with (first
            | (refine wpList_load_row rfl 185 (.tmp 3) rfl (w.heap.size + 1 + 1) rfl 185 pl (0, 0) _ H3.out Tryd.underlying185 rfl hin ?_)
            | (refine wpList_store_row rfl 185 (.tmp 2) (.tmp 88) rfl (w.heap.size + 1) pl rfl rfl 185 _ HH.out hin hold hone ?_))
          refine bodyPost_ret (results_cell_row rfl _ _ (w.heap.size + 1) 185 pl (0, 0) _ rfl (setRow_heap _ _ _ _ _ _ HH.out) Tryd.underlying185 rfl hin) rfl ⟨by rw [HPE.out], below_setRow h4 (by omega) pl⟩
end Go.Proofs.YtbejafbpipdbjaaDoor
namespace Go.Proofs.YtbejafbpipdbjaaDoor
set_option maxRecDepth 4000
open Go.RowKit

/-- The two tables are the standard's. -/
def Tabs (w : World) : Prop := w.rangeAt 3 0 (first8.list.map (kv .u32)) ∧ w.rangeAt 7 0 (round64.map (kv .u32)) ∧ 7 + 1 ≤ w.heap.size
theorem Tabs.kept {w w' : World} (h : Tabs w) (hk : ∀ k, k < 7 + 1 → w'.heap[k]? = w.heap[k]?) (hz : 7 + 1 ≤ w'.heap.size) : Tabs w' :=
  ⟨fun j v hv => (World.cell?_of_block (hk 3 (by omega))).trans (h.1 j v hv), fun j v hv => (World.cell?_of_block (hk 7 (by omega))).trans (h.2.1 j v hv), hz⟩
theorem Tabs.below {w w' : World} {B : Nat} (h : Tabs w) (hb : Below B w w') (hB : 7 + 1 ≤ B) : Tabs w' := h.kept (fun k hk => hb.block k (by omega)) (Nat.le_trans h.2.2 hb.size)
theorem Tabs.grown {w w' : World} {row : Option Nat} (h : Tabs w) (hg : w.grownBy w' row) (hr : ∀ k, row = some k → 7 + 1 ≤ k) : Tabs w' :=
  h.kept (fun k hk => hg.block k (by have := h.2.2; omega) (fun e => by have := hr k e.symm; omega)) (Nat.le_trans h.2.2 hg.size)
theorem Tabs.round {w : World} (h : Tabs w) (k x : Nat) (hx : round64[k]? = some x) : w.cell? ⟨7, k, none⟩ = some (.int .u32 (x : Int)) := by
  have := h.2.1 k (kv .u32 x) (by rw [List.getElem?_map, hx]; rfl)
  rw [Nat.zero_add] at this
  exact this

/-- The cells of a hash under way: eight words, a block, how many bytes. -/
def hcells (ws : List Nat) (blk : List UInt8) (n : Nat) : List Value := ws.map (kv .u32) ++ (blk.map bv ++ [.int .u64 (n : Int)])
/-- Block g is a hash under way. -/
def HashAt (w : World) (g : Nat) (ws : List Nat) (blk : List UInt8) (n : Nat) : Prop :=
  w.heap[g]? = some (.cells (hcells ws blk n).toArray 176 (0, 0)) ∧ ws.length = 8 ∧ blk.length = 64
section
variable {w w' : World} {g n : Nat} {ws : List Nat} {blk : List UInt8}
theorem HashAt.lt (h : HashAt w g ws blk n) : g < w.heap.size := (Array.getElem?_eq_some_iff.1 h.1).1
theorem HashAt.word (h : HashAt w g ws blk n) (i x : Nat) (hx : ws[i]? = some x) : w.cell? ⟨g, i, none⟩ = some (.int .u32 (x : Int)) := by
  have hi : i < ws.length := (List.getElem?_eq_some_iff.1 hx).1
  rw [cell_of_row w g i _ _ _ h.1]
  simp only [hcells, List.getElem?_toArray]
  rw [List.getElem?_append_left (by simpa using hi), List.getElem?_map, hx]
  rfl
theorem HashAt.byte (h : HashAt w g ws blk n) (i : Nat) (x : UInt8) (hx : blk[i]? = some x) : w.cell? ⟨g, 8 + i, none⟩ = some (.int .u8 (x.toNat : Int)) := by
  have hi : i < blk.length := (List.getElem?_eq_some_iff.1 hx).1
  rw [cell_of_row w g _ _ _ _ h.1]
  simp only [hcells, List.getElem?_toArray]
  rw [List.getElem?_append_right (by simp [h.2.1]), List.length_map, h.2.1, Nat.add_sub_cancel_left, List.getElem?_append_left (by simpa using hi), List.getElem?_map, hx]
  rfl
theorem HashAt.many (h : HashAt w g ws blk n) : w.cell? ⟨g, 72, none⟩ = some (.int .u64 (n : Int)) := by
  rw [cell_of_row w g _ _ _ _ h.1]
  simp only [hcells, List.getElem?_toArray]
  rw [List.getElem?_append_right (by simp [h.2.1]), List.length_map, h.2.1, List.getElem?_append_right (by simp [h.2.2]), List.length_map, h.2.2]
  rfl
theorem HashAt.free (h : HashAt w g ws blk n) (i : Nat) : w.frozen? ⟨g, i, none⟩ = false := by
  have := h.1
  simp [World.frozen?, this]
theorem HashAt.kept (h : HashAt w g ws blk n) (hk : w'.heap[g]? = w.heap[g]?) : HashAt w' g ws blk n := ⟨hk.trans h.1, h.2⟩
theorem HashAt.below {B : Nat} (h : HashAt w g ws blk n) (hb : Below B w w') (hB : g < B) : HashAt w' g ws blk n := h.kept (hb.block g hB)
theorem HashAt.drewN (h : HashAt w g ws blk n) (k : Nat) : HashAt (w.drewN k) g ws blk n := h
theorem HashAt.setWord (h : HashAt w g ws blk n) (i x : Nat) (hi : i < 8) : HashAt (w.setCell ⟨g, i, none⟩ (.int .u32 (x : Int))) g (ws.set i x) blk n := by
  refine ⟨?_, by rw [List.length_set]; exact h.2.1, h.2.2⟩
  rw [heap_setCell_same w g i _ _ _ h.1]
  congr 2
  simp only [hcells, List.setIfInBounds_toArray]
  rw [List.set_append_left _ _ (by rw [List.length_map, h.2.1]; exact hi), List.map_set]
  rfl
theorem HashAt.setByte (h : HashAt w g ws blk n) (i : Nat) (x : UInt8) (hi : i < 64) : HashAt (w.setCell ⟨g, 8 + i, none⟩ (.int .u8 (x.toNat : Int))) g ws (blk.set i x) n := by
  refine ⟨?_, h.2.1, by rw [List.length_set]; exact h.2.2⟩
  rw [heap_setCell_same w g _ _ _ _ h.1]
  congr 2
  simp only [hcells, List.setIfInBounds_toArray]
  rw [List.set_append_right _ _ (by rw [List.length_map, h.2.1]; omega), List.length_map, h.2.1, Nat.add_sub_cancel_left, List.set_append_left _ _ (by rw [List.length_map, h.2.2]; exact hi), List.map_set]
  rfl
theorem HashAt.setMany (h : HashAt w g ws blk n) (m : Nat) : HashAt (w.setCell ⟨g, 72, none⟩ (.int .u64 (m : Int))) g ws blk m := by
  refine ⟨?_, h.2⟩
  rw [heap_setCell_same w g _ _ _ _ h.1]
  congr 2
  simp only [hcells, List.setIfInBounds_toArray]
  rw [List.set_append_right _ _ (by rw [List.length_map, h.2.1]; omega), List.length_map, h.2.1, List.set_append_right _ _ (by rw [List.length_map, h.2.2]; omega), List.length_map, h.2.2]
  rfl
end
end Go.Proofs.YtbejafbpipdbjaaDoor
namespace Go.Proofs.YtbejafbpipdbjaaDoor
set_option maxRecDepth 4000
open Go.RowKit

theorem info8w : (Tryd.prog.info? 174).map (·.size) = some 8 := by kernel_rfl
theorem info64b : (Tryd.prog.info? 131).map (·.size) = some 64 := by kernel_rfl
/-- Eight words as an array's cells. -/
def Eight.cells (s : Eight) : List Value := s.list.map (kv .u32)
theorem Eight.agg_eq (s : Eight) : s.agg = .agg s.cells.toArray := rfl
theorem HashAt.range {w : World} {g n : Nat} {s : Eight} {blk : List UInt8} (h : HashAt w g s.list blk n) : w.rangeAt g 0 s.cells := fun j v hv => by
  simp only [Eight.cells, List.getElem?_map, Option.map_eq_some_iff] at hv
  obtain ⟨x, hx, rfl⟩ := hv
  rw [Nat.zero_add]
  exact h.word j x hx
theorem HashAt.range8 {w : World} {g n : Nat} {ws : List Nat} {blk : List UInt8} (h : HashAt w g ws blk n) : w.rangeAt g 8 (blk.map bv) := fun j v hv => by
  simp only [List.getElem?_map, Option.map_eq_some_iff] at hv
  obtain ⟨x, hx, rfl⟩ := hv
  exact h.byte j x hx

section
variable {P : Program}
/-- In a region that draws its order: a whole row is loaded. -/
theorem wpStill_load_mid {ops : Array Oper} {w : World} {Q : Act → Prop} {a : Act} {o : Oper} {rest : List Oper} (hw : Region.wanted o (yielded ops a.tmps) = true) (ty : TypeId) (x : Operand) (ho : o.op = .load ty x)
    (b c : Nat) (hx : a.eval x = .pointer (some ⟨b, c, none⟩)) (cs : List Value) (d : TypeDesc) (hc : w.rangeAt b c cs) (hu : P.underlying ty = some d) (hd : d.isRow = true)
    (hi : (P.info? ty).map (·.size) = some cs.length) (h : wpStill P ops w Q rest (a.put o.dst (.agg cs.toArray))) : wpStill P ops w Q (o :: rest) a := by
  refine wpStill_step fun K hK => ?_
  rw [if_pos hw]
  unfold Oper.still execOp
  simp only [ho, hx, Instr.loadAt, Instr.sureAddr, Sem.run_bind, Sem.run_pure, Result.andThen_ok, run_loadVar_mid w b c ty cs d hc hu hd hi]
  exact ⟨rfl, hK _ h⟩
end
theorem at64 (cs : List Value) (k : Nat) (x : Nat) (hk : k < 64) (hx : cs[k]? = some (.int .u32 (x : Int))) (w : World) : (Instr.index 185 (.agg cs.toArray) (.int .i64 (k : Int))).run Tryd.prog w = .ok (.int .u32 (x : Int)) w := by
  have h1 : (0 : Int) ≤ (k : Int) ∧ (k : Int) < 64 := by omega
  simp [Instr.index, run_underlying Tryd.underlying185, asIntOf, part, hk, hx, go_sem]
theorem at8 (cs : List Value) (k : Nat) (x : Nat) (hk : k < 8) (hx : cs[k]? = some (.int .u32 (x : Int))) (w : World) : (Instr.index 174 (.agg cs.toArray) (.int .i64 (k : Int))).run Tryd.prog w = .ok (.int .u32 (x : Int)) w := by
  have h1 : (0 : Int) ≤ (k : Int) ∧ (k : Int) < 8 := by omega
  simp [Instr.index, run_underlying Tryd.underlying174, asIntOf, part, hk, hx, go_sem]
theorem Eight.step_mod (s : Eight) (x : Nat) : s.step (x % 4294967296) = s.step x := by
  have h : t1Of s (x % 4294967296) = t1Of s x := by unfold t1Of; omega
  simp only [Eight.step, h]
theorem rounds_step (s : Eight) (ws : List Nat) (k x y : Nat) (hx : round64[k]? = some x) (hy : ws[k]? = some y) : rounds s ws (k + 1) = (rounds s ws k).step ((x + y) % 4294967296) := by
  rw [Eight.step_mod, rounds, List.getD, hx, List.getD, hy]
  rfl

/-- What stands in the call's own block behind k rounds. -/
def Mixed (w : World) (s : Eight) (blk : List UInt8) (k : Nat) (wr : World) : Prop :=
  wr.heap[w.heap.size]? = some (.cells (rounds s (sched blk 64) k).cells.toArray 174 (0, 0)) ∧ Below w.heap.size w wr ∧ w.heap.size < wr.heap.size
theorem Mixed.range {w wr : World} {s : Eight} {blk : List UInt8} {k : Nat} (h : Mixed w s blk k wr) : wr.rangeAt w.heap.size 0 (rounds s (sched blk 64) k).cells := fun j v hv => by
  rw [Nat.zero_add, cell_of_row wr _ j _ _ _ h.1]
  simpa using hv
theorem grown_set {a w : World} {g : Nat} (h : a.grownBy w (some g)) (i : Nat) (v : Value) : a.grownBy (w.setCell ⟨g, i, none⟩ v) (some g) :=
  ⟨h.os, h.tape, h.output, by simpa using h.size, fun k hk hne => (Below.heap_setCell w _ v k (fun e => hne (by rw [e]))).trans (h.block k hk hne)⟩
theorem range_held (w : World) (g k c : Nat) (o : Obj) (cs : Array Value) {vs : List Value} (hne : g ≠ k) (hg : g < w.heap.size) (h : w.rangeAt g c vs) : ((w.alloc o).setRow k cs).rangeAt g c vs :=
  fun j v hv => (World.cell?_of_block ((setRow_other _ _ _ _ hne).trans (Below.heap_alloc _ _ _ hg))).trans (h j v hv)
set_option maxRecDepth 100000 in
set_option maxHeartbeats 4000000 in
theorem mixBlock_any (g n : Nat) (s : Eight) (blk : List UInt8) (w : World) (hs : s.Ok) (hT : Tabs w) (h : HashAt w g s.list blk n) :
    Calls Tryd.prog 139 #[.pointer (some ⟨g, 0, none⟩)] w fun e w' => e = .returned (.tuple #[]) ∧ HashAt w' g (mix s blk).list blk n ∧ w.grownBy w' (some g) := by
  have hbl := h.2.2
  have hgw := h.lt
  have hr := h.range
  have hr8 := h.range8
  have hin1 : (Tryd.prog.info? 174).map (·.size) = some s.cells.length := info8w
  have hin2 : (Tryd.prog.info? 131).map (·.size) = some (blk.map bv).length := by rw [List.length_map, hbl]; exact info64b
  have HR := Lib.hid hr
  have HR8 := Lib.hid hr8
  clear hr hr8
  go_enter Tryd.func139, Tryd.ntmps139
  go_wp2_with (first
    | (refine wpList_load_mid rfl 174 (.tmp 9) rfl g 0 rfl s.cells _ HR.out Tryd.underlying174 rfl hin1 ?_)
    | (refine wpList_store_row rfl 174 (.tmp 2) (.tmp 10) rfl w.heap.size s.cells.toArray rfl rfl 174 _ (heap_alloc_new w _) hin1 rfl (all_oneCell_toArray (kvs_one _ _)) ?_)
    | (refine wpList_load_mid rfl 131 (.tmp 13) rfl g 8 rfl (blk.map bv) _ (range_held _ _ _ _ _ _ (Nat.ne_of_lt hgw) hgw HR8.out) Tryd.underlying131 rfl hin2 ?_))
  refine (shaSchedule_any blk _ hbl).mono ?_
  rintro e w1 ⟨rfl, hb1⟩
  have hT1 : ∀ wr : World, Below w.heap.size w wr → Tabs wr := fun wr hb => hT.below hb hT.2.2
  generalize hwp : ((w.alloc (.cells #[.int .u32 0, .int .u32 0, .int .u32 0, .int .u32 0, .int .u32 0, .int .u32 0, .int .u32 0, .int .u32 0] 174)).setRow w.heap.size s.cells.toArray) = wp at hb1
  have M0 : Mixed w s blk 0 w1 := by
    have hb0 : Below w.heap.size w wp := by rw [← hwp]; exact below_setRow ((Below.refl _ w).alloc (Nat.le_refl _) _) (Nat.le_refl _) _
    have hz : wp.heap.size = w.heap.size + 1 := by rw [← hwp]; simp [World.setRow]
    have hh : wp.heap[w.heap.size]? = some (.cells s.cells.toArray 174 (0, 0)) := by rw [← hwp]; exact setRow_heap _ _ _ _ _ _ (heap_alloc_new w _)
    exact ⟨(hb1.block _ (by omega)).trans hh, hb0.trans (hb1.mono (by omega)), by have := hb1.size; omega⟩
  clear hb1 hwp
  go_wp2_with fail
  go_loopw [16] (fun i wr => ∃ k : Nat, k ≤ 64 ∧ i = .int .i64 k ∧ Mixed w s blk k wr) (fun i _ => 64 - (intOf i).toNat)
  case atStart => exact ⟨0, by omega, rfl, M0⟩
  case round =>
    clear M0
    obtain ⟨k, hk, rfl, hm⟩ := hrel
    by_cases hlt : k < 64
    · obtain ⟨x, hx⟩ : ∃ x, round64[k]? = some x := ⟨_, List.getElem?_eq_getElem (by exact hlt)⟩
      obtain ⟨y, hy⟩ : ∃ y, (sched blk 64)[k]? = some y := ⟨_, List.getElem?_eq_getElem (by rw [sched_length]; exact hlt)⟩
      have hix := at64 ((sched blk 64).map (kv .u32)) k y hlt (by rw [List.getElem?_map, hy]; rfl)
      change ∀ w, (Instr.index 185 (.agg (planA (sched blk 64))) (.int .i64 (k : Int))).run Tryd.prog w = _ at hix
      have hcx : wr.drew.cell? ⟨7, k, none⟩ = _ := (hT1 wr hm.2.1).round k x hx
      have pk : 0 ≤ (k : Int) ∧ (k : Int) < 64 := by omega
      obtain ⟨q, hq⟩ : ∃ q, (x + y) % 4294967296 = q := ⟨_, rfl⟩
      have hadd := wrap32u x y
      rw [hq] at hadd
      have HN := Lib.hid (rounds_step s (sched blk 64) k x y hx hy)
      rw [hq] at HN
      have HM := Lib.hid hm
      have HRM : Hid (wr.drew.rangeAt w.heap.size 0 (rounds s (sched blk 64) k).cells) := Lib.hid hm.range
      have HOk := Lib.hid (rounds_ok hs (sched blk 64) k)
      have hinM : (Tryd.prog.info? 174).map (·.size) = some (rounds s (sched blk 64) k).cells.length := info8w
      clear hx hy hm hq hT hT1
      go_wp2_with fail
      refine wp_region_still_tail 6 (by kernel_rfl) (by kernel_rfl) ?_
      simp only [List.take_succ_cons, List.take_zero, List.drop_succ_cons, List.drop_zero]
      change wpStill _ _ wr.drew _ _ _
      refine wpStill_load_mid rfl 174 (.tmp 2) rfl w.heap.size 0 rfl _ _ HRM.out Tryd.underlying174 rfl hinM ?_
      repeat still_step
      refine wpStill_nil ?_
      go_wp2_with fail
      refine (shaRound_any _ q _ HOk.out).mono ?_
      rintro e w2 ⟨rfl, hb2⟩
      have HN1 := HN.out
      clear HN
      obtain ⟨t1, ht1⟩ : ∃ t, rounds s (sched blk 64) (k + 1) = t := ⟨_, rfl⟩
      rw [← HN1, ht1]
      have hh2 : w2.heap[w.heap.size]? = some (.cells (rounds s (sched blk 64) k).cells.toArray 174 (0, 0)) := (hb2.block _ HM.out.2.2).trans HM.out.1
      have hN : Mixed w s blk (k + 1) (w2.setRow w.heap.size t1.cells.toArray) :=
        ⟨by rw [ht1]; exact setRow_heap _ _ _ _ _ _ hh2, below_setRow (HM.out.2.1.drew.trans (hb2.mono (Nat.le_of_lt HM.out.2.2))) (Nat.le_refl _) _, by
          have h1 := HM.out.2.2
          have h2 : wr.heap.size ≤ w2.heap.size := hb2.size
          simp only [World.setRow, Array.size_modify]
          omega⟩
      have HNN := Lib.hid hN
      have HH2 := Lib.hid hh2
      clear hb2 hh2 hN hix hcx hadd pk ht1 HN1 HM HOk HRM hinM
      generalize rounds s (sched blk 64) k = t0 at *
      rw [Eight.agg_eq t1]
      go_wp2_with (refine wpList_store_row rfl 174 (.tmp 2) (.tmp 26) rfl w.heap.size t1.cells.toArray rfl rfl 174 _ HH2.out info8w rfl (all_oneCell_toArray (kvs_one _ _)) ?_)
      go_roundw
      case rel => exact ⟨k + 1, by omega, by go_num, HNN.out⟩
      case measure => simp [intOf]; omega
    · obtain rfl : k = 64 := by omega
      rw [show ((64 : Nat) : Int) = 64 from rfl]
      have HM := Lib.hid hm
      have hHa : HashAt wr g (plusTo s (rounds s (sched blk 64) 64) 0) blk n := h.below hm.2.1 hgw
      have hGr : w.grownBy wr (some g) := ⟨hm.2.1.os, hm.2.1.tape, hm.2.1.output, hm.2.1.size, fun i hi _ => hm.2.1.block i hi⟩
      have HRM : Hid (wr.rangeAt w.heap.size 0 (rounds s (sched blk 64) 64).cells) := Lib.hid hm.range
      have hinM : (Tryd.prog.info? 174).map (·.size) = some (rounds s (sched blk 64) 64).cells.length := info8w
      have HP8 : Hid ((mix s blk).list = plusTo s (rounds s (sched blk 64) 64) 8) := Lib.hid rfl
      generalize rounds s (sched blk 64) 64 = t at *
      clear hm hT hT1 h
      go_wp2_with (refine wpList_load_mid rfl 174 (.tmp 2) rfl w.heap.size 0 rfl _ _ HRM.out Tryd.underlying174 rfl hinM ?_)
      go_loopw [29] (fun i wq => ∃ k : Nat, k ≤ 8 ∧ i = .int .i64 k ∧ HashAt wq g (plusTo s t k) blk n ∧ w.grownBy wq (some g)) (fun i _ => 8 - (intOf i).toNat)
      case atStart => exact ⟨0, by omega, rfl, hHa, hGr⟩
      case round =>
        clear hHa hGr
        obtain ⟨k, hk, rfl, ha, hgr⟩ := hrel
        by_cases hlt : k < 8
        · obtain ⟨x, hx⟩ : ∃ x, (plusTo s t k)[k]? = some x := ⟨_, List.getElem?_eq_getElem (by rw [plusTo_length s t k hk]; exact hlt)⟩
          obtain ⟨y, hy⟩ : ∃ y, t.list[k]? = some y := ⟨_, List.getElem?_eq_getElem (by exact hlt)⟩
          have hix := at8 t.cells k y hlt (by rw [Eight.cells, List.getElem?_map, hy]; rfl)
          have hcx : wr.drew.cell? ⟨g, k, none⟩ = _ := ha.word k x hx
          have hfx : wr.drew.frozen? ⟨g, k, none⟩ = _ := ha.free k
          have pk : 0 ≤ (k : Int) ∧ (k : Int) < 8 := by omega
          obtain ⟨q, hq⟩ : ∃ q, (x + y) % 4294967296 = q := ⟨_, rfl⟩
          have hadd := wrap32u x y
          rw [hq] at hadd
          have hst := plusTo_step s t k x y hlt hx hy
          rw [hq] at hst
          have HA : Hid (HashAt (wr.drew.setCell ⟨g, k, none⟩ (.int .u32 (q : Int))) g (plusTo s t (k + 1)) blk n) := Lib.hid (by
            have := (ha.drewN 1).setWord k q hlt
            rw [hst] at this
            exact this)
          have HG : Hid (w.grownBy (wr.drew.setCell ⟨g, k, none⟩ (.int .u32 (q : Int))) (some g)) := Lib.hid (grown_set (only_drew1 hgr) _ _)
          clear hx hy hq ha hgr hst
          go_wp2_with fail
          refine wp_region_still_tail 11 (by kernel_rfl) (by kernel_rfl) ?_
          simp only [List.take_succ_cons, List.take_zero, List.drop_succ_cons, List.drop_zero]
          change wpStill _ _ wr.drew _ _ _
          repeat still_step
          refine wpStill_nil ?_
          clear hix hadd pk
          go_wp2
          go_roundw
          case rel => exact ⟨k + 1, by omega, by go_num, HA.out, HG.out⟩
          case measure => simp [intOf]; omega
        · obtain rfl : k = 8 := by omega
          rw [show ((8 : Nat) : Int) = 8 from rfl]
          rw [← HP8.out] at ha
          have HA := Lib.hid ha
          have HG := Lib.hid hgr
          clear ha hgr
          go_wp2
          exact bodyPost_end (results_none Tryd.results139 _ _ _) rfl ⟨rfl, HA.out, HG.out⟩
end Go.Proofs.YtbejafbpipdbjaaDoor
namespace Go.Proofs.YtbejafbpipdbjaaDoor
set_option maxRecDepth 4000
open Go.RowKit

/-- Block g is a hash that the bytes l were written to. -/
def Fed (w : World) (g : Nat) (l : List UInt8) : Prop :=
  ∃ blk, HashAt w g (blocks l (l.length / 64)).list blk l.length ∧ blk.take (l.length % 64) = l.drop (64 * (l.length / 64))
theorem Fed.lt {w : World} {g : Nat} {l : List UInt8} (h : Fed w g l) : g < w.heap.size := h.elim fun _ h => h.1.lt
theorem Fed.below {w w' : World} {g B : Nat} {l : List UInt8} (h : Fed w g l) (hb : Below B w w') (hB : g < B) : Fed w' g l := h.elim fun blk h => ⟨blk, h.1.below hb hB, h.2⟩
/-- A byte that leaves the block open. -/
theorem Fed.open {w : World} {g : Nat} {l blk : List UInt8} {b : UInt8} (hn : l.length % 64 ≠ 63) (hb : blk.take (l.length % 64) = l.drop (64 * (l.length / 64)))
    (h : HashAt w g (blocks l (l.length / 64)).list (blk.set (l.length % 64) b) (l.length + 1)) : Fed w g (l ++ [b]) := by
  have e1 : (l ++ [b]).length = l.length + 1 := by simp
  have e2 : (l.length + 1) / 64 = l.length / 64 := by omega
  have e3 : (l.length + 1) % 64 = l.length % 64 + 1 := by omega
  have hbl : (blk.set (l.length % 64) b).length = 64 := h.2.2
  rw [List.length_set] at hbl
  refine ⟨blk.set (l.length % 64) b, ?_, ?_⟩
  · rw [e1, e2, blocks_append l [b] _ (by omega)]
    exact h
  · rw [e1, e2, e3, List.drop_append_of_le_length (by omega), ← hb, List.take_succ_eq_append_getElem (by rw [List.length_set]; omega), List.take_set_of_le (Nat.le_refl _)]
    simp
/-- A byte that fills the block. -/
theorem Fed.full {w : World} {g : Nat} {l blk : List UInt8} {b : UInt8} (hn : l.length % 64 = 63) (hb : blk.take (l.length % 64) = l.drop (64 * (l.length / 64)))
    (h : HashAt w g (mix (blocks l (l.length / 64)) (blk.set (l.length % 64) b)).list (blk.set (l.length % 64) b) (l.length + 1)) : Fed w g (l ++ [b]) := by
  have e1 : (l ++ [b]).length = l.length + 1 := by simp
  have e2 : (l.length + 1) / 64 = l.length / 64 + 1 := by omega
  have e3 : (l.length + 1) % 64 = 0 := by omega
  have hbl : (blk.set (l.length % 64) b).length = 64 := h.2.2
  rw [List.length_set] at hbl
  have e4 : blk.set (l.length % 64) b = l.drop (64 * (l.length / 64)) ++ [b] := by
    rw [← hb]
    have h1 : (blk.set (l.length % 64) b).take 64 = blk.set (l.length % 64) b := List.take_of_length_le (by rw [List.length_set]; omega)
    rw [← h1, hn, show (64 : Nat) = 63 + 1 from rfl, List.take_succ_eq_append_getElem (by rw [List.length_set]; omega), List.take_set_of_le (Nat.le_refl _)]
    simp
  refine ⟨blk.set (l.length % 64) b, ?_, ?_⟩
  · rw [e1, e2, blocks, blocks_append l [b] _ (by omega), List.drop_append_of_le_length (by omega), ← e4, List.take_of_length_le (by rw [List.length_set]; omega)]
    exact h
  · rw [e1, e2, e3, List.take_zero, List.drop_eq_nil_of_le (by rw [e1]; omega)]

set_option maxRecDepth 100000 in
set_option maxHeartbeats 4000000 in
theorem writeOne_any (g : Nat) (l : List UInt8) (b : UInt8) (w : World) (hl : l.length < 4294967295) (hg : 7 + 1 ≤ g) (hT : Tabs w) (h : Fed w g l) :
    Calls Tryd.prog 118 #[.pointer (some ⟨g, 0, none⟩), .int .u8 (b.toNat : Int)] w fun e w' => e = .returned (.tuple #[]) ∧ Fed w' g (l ++ [b]) ∧ w.grownBy w' (some g) := by
  obtain ⟨blk, ha, hb⟩ := h
  obtain ⟨N, hN⟩ : ∃ N, l.length = N := ⟨_, rfl⟩
  obtain ⟨r, hr⟩ : ∃ r, N % 64 = r := ⟨_, rfl⟩
  obtain ⟨M, hM⟩ : ∃ M, N + 1 = M := ⟨_, rfl⟩
  obtain ⟨q, hq⟩ : ∃ q, M % 64 = q := ⟨_, rfl⟩
  have hr64 : r < 64 := by omega
  have pr : 0 ≤ (r : Int) ∧ (r : Int) < 64 := by omega
  have e1 : (N : Int).tmod 64 = (r : Int) := by rw [Int.tmod_eq_emod_of_nonneg (by omega)]; omega
  have e2 : (M : Int).tmod 64 = (q : Int) := by rw [Int.tmod_eq_emod_of_nonneg (by omega)]; omega
  have e3 : IntKind.u64.wrap ((N : Int) + 1) = (M : Int) := by rw [IntKind.wrap_u64]; omega
  have HO := Lib.hid fun w' => @Fed.open w' g l blk b
  have HF := Lib.hid fun w' => @Fed.full w' g l blk b
  rw [hN] at ha hb HO HF
  rw [hr] at hb HO HF
  rw [hM] at HO HF
  have HB := Lib.hid hb
  obtain ⟨s, hs⟩ : ∃ s, blocks l (N / 64) = s := ⟨_, rfl⟩
  have hsOk : s.Ok := by rw [← hs]; exact blocks_ok _ _
  rw [hs] at ha HO HF
  clear hb
  obtain ⟨p, hp⟩ : ∃ p, blk[r]? = some p := ⟨_, List.getElem?_eq_getElem (by have := ha.2.2; omega)⟩
  have ha1 : HashAt w.drew g s.list blk N := ha
  have c1 := ha1.many
  have c2 := ha1.byte r p hp
  have f2 := ha1.free (8 + r)
  have ha2 := ha1.setByte r b hr64
  have ha3 := ha2.setMany M
  have HA3 := Lib.hid ha3
  have c0 := ha.many
  have f0 := ha.free 72
  have HG : Hid (w.grownBy ((w.drew.setCell ⟨g, 8 + r, none⟩ (.int .u8 (b.toNat : Int))).setCell ⟨g, 72, none⟩ (.int .u64 (M : Int))) (some g)) := Lib.hid (grown_set (grown_set (only_drew1 (only_below (Below.refl _ w)) |> fun h => ⟨h.os, h.tape, h.output, h.size, fun k hk _ => h.block k hk (by simp)⟩) _ _) _ _)
  have HT := Lib.hid hT
  have HGe : Hid (∀ k, some g = some k → 7 + 1 ≤ k) := Lib.hid fun k e => by cases e; exact hg
  have HOk := Lib.hid hsOk
  have HE : Hid (q = 0 ↔ r = 63) := Lib.hid (by omega)
  clear ha ha1 ha2 ha3 hp hN hr hM hq hs hT hsOk hl
  go_enter Tryd.func118, Tryd.ntmps118
  go_wp2_with fail
  refine wp_region_still_tail 10 (by kernel_rfl) (by kernel_rfl) ?_
  simp only [List.take_succ_cons, List.take_zero, List.drop_succ_cons, List.drop_zero]
  change wpStill _ _ w.drew _ _ _
  repeat still_step
  refine wpStill_nil ?_
  clear e1 pr c1
  by_cases hq0 : (q : Int) = 0
  · go_wp2_with fail
    refine (mixBlock_any g M s (blk.set r b) _ HOk.out (HT.out.grown HG.out HGe.out) HA3.out).mono ?_
    rintro e w2 ⟨rfl, k1, k2⟩
    have HK : Hid (Fed w2 g (l ++ [b]) ∧ w.grownBy w2 (some g)) := Lib.hid ⟨HF.out w2 (HE.out.1 (by omega)) HB.out k1, grown_trans HG.out k2⟩
    clear k1 k2
    go_wp2
    exact bodyPost_end (results_none Tryd.results118 _ _ _) rfl ⟨rfl, HK.out.1, HK.out.2⟩
  · go_wp2_with fail
    exact bodyPost_end (results_none Tryd.results118 _ _ _) rfl ⟨rfl, HO.out _ (fun e => hq0 (by have := HE.out.2 e; omega)) HB.out HA3.out, HG.out⟩
end Go.Proofs.YtbejafbpipdbjaaDoor
namespace Go.Proofs.YtbejafbpipdbjaaDoor
set_option maxRecDepth 4000
open Go.RowKit

theorem wpList_built {P : Program} {ops : Array Oper} {rest : List Oper} {o : Oper} {a : Act} {w : World} {Q : Exit → Act → World → Prop} (hg : o.guard = none) (t : TypeId) (parts : Array (Nat × Operand)) (ho : o.op = .build t parts)
    (cells : Array Value) (hb : P.built t (parts.map fun (i, x) => (i, a.eval x)).toList = some cells) (h : wpList P ops Q rest (a.put o.dst (.agg cells)) w) : wpList P ops Q (o :: rest) a w :=
  wpList_build hg t parts ho (by rw [hb]; rfl) (by rw [hb]; exact h)
theorem Fed.many {w : World} {g : Nat} {l : List UInt8} (h : Fed w g l) : w.cell? ⟨g, 72, none⟩ = some (.int .u64 (l.length : Int)) := h.elim fun _ h => h.1.many
theorem Has.grownAt {w w' : World} {g : Nat} {A : Option Addr} {l : List UInt8} (h : Has w g A l) (hg : w.grownBy w' (some g)) (hz : g ≤ w.heap.size) : Has w' g A l :=
  h.kept fun p hp => World.cell?_of_block (hg.block p.block (by omega) (fun e => by cases e; omega))
set_option maxRecDepth 100000 in
set_option maxHeartbeats 4000000 in
theorem write_any (g : Nat) (A : Option Addr) (c : Nat) (l0 l : List UInt8) (w : World) (hl : l0.length + l.length < 4294967295) (hg : 7 + 1 ≤ g) (hT : Tabs w) (h : Fed w g l0) (hh : Has w g A l) :
    Calls Tryd.prog 119 #[.pointer (some ⟨g, 0, none⟩), .slice A l.length c] w fun e w' => e = .returned (.tuple #[]) ∧ Fed w' g (l0 ++ l) ∧ w.grownBy w' (some g) := by
  have hgw := h.lt
  go_enter Tryd.func119, Tryd.ntmps119
  go_wp2_with fail
  go_loopw [8] (fun i wr => ∃ k : Nat, k ≤ l.length ∧ i = .int .i64 k ∧ Fed wr g (l0 ++ l.take k) ∧ w.grownBy wr (some g)) (fun i _ => l.length - (intOf i).toNat)
  case atStart => exact ⟨0, by omega, rfl, by simpa using h, ⟨rfl, rfl, rfl, Nat.le_refl _, fun _ _ _ => rfl⟩⟩
  case round =>
    obtain ⟨k, hk, rfl, hf, hgr⟩ := hrel
    by_cases hlt : k < l.length
    · obtain ⟨bb, o, x, rfl, hbB, hx, hc⟩ := (hh.grownAt hgr (by omega)).spot hlt
      have HTw : Hid (Tabs wr) := Lib.hid (hT.grown hgr (fun q e => by cases e; exact hg))
      have HF := Lib.hid hf
      have HG := Lib.hid hgr
      have HX : Hid (l0 ++ l.take k ++ [x] = l0 ++ l.take (k + 1)) := Lib.hid (by rw [List.append_assoc, List.take_add_one, hx]; rfl)
      have HL : Hid ((l0 ++ l.take k).length < 4294967295) := Lib.hid (by rw [List.length_append, List.length_take]; omega)
      clear hf hgr hT h hh hx
      go_wp2_with fail
      refine (writeOne_any g _ x _ HL.out hg HTw.out HF.out).mono ?_
      rintro e w2 ⟨rfl, k1, k2⟩
      rw [HX.out] at k1
      have k3 := grown_trans HG.out k2
      clear k2 hc
      go_wp2
      go_roundw
      case rel => exact ⟨k + 1, by omega, by go_num, k1, k3⟩
      case measure => simp [intOf]; omega
    · obtain rfl : k = l.length := by omega
      rw [List.take_length] at hf
      go_wp2
      exact bodyPost_end (results_none Tryd.results119 _ _ _) rfl ⟨rfl, hf, hgr⟩
set_option maxRecDepth 100000 in
set_option maxHeartbeats 4000000 in
theorem newShaHash_any (w : World) (hT : Tabs w) :
    Calls Tryd.prog 117 #[] w fun e w' => e = .returned (.pointer (some ⟨w.heap.size, 0, none⟩)) ∧ Fed w' w.heap.size [] ∧ Below w.heap.size w w' := by
  have c0 : w.cell? ⟨3, 0, none⟩ = some (.int .u32 0x6a09e667) := hT.1 0 _ rfl
  have c1 : w.cell? ⟨3, 1, none⟩ = some (.int .u32 0xbb67ae85) := hT.1 1 _ rfl
  have c2 : w.cell? ⟨3, 2, none⟩ = some (.int .u32 0x3c6ef372) := hT.1 2 _ rfl
  have c3 : w.cell? ⟨3, 3, none⟩ = some (.int .u32 0xa54ff53a) := hT.1 3 _ rfl
  have c4 : w.cell? ⟨3, 4, none⟩ = some (.int .u32 0x510e527f) := hT.1 4 _ rfl
  have c5 : w.cell? ⟨3, 5, none⟩ = some (.int .u32 0x9b05688c) := hT.1 5 _ rfl
  have c6 : w.cell? ⟨3, 6, none⟩ = some (.int .u32 0x1f83d9ab) := hT.1 6 _ rfl
  have c7 : w.cell? ⟨3, 7, none⟩ = some (.int .u32 0x5be0cd19) := hT.1 7 _ rfl
  go_enter Tryd.func117, Tryd.ntmps117
  go_wp2_with (refine wpList_built rfl 176 _ rfl (hcells first8.list (List.replicate 64 0) 0).toArray (by kernel_rfl) ?_)
  refine bodyPost_ret (v := .pointer (some ⟨w.heap.size, 0, none⟩)) ?_ rfl ⟨rfl, ⟨List.replicate 64 0, ⟨heap_alloc_new w _, rfl, rfl⟩, rfl⟩, (Below.refl _ w).alloc (Nat.le_refl _) _⟩
  simp [results, Tryd.results117, go_sem]
end Go.Proofs.YtbejafbpipdbjaaDoor
namespace Go.Proofs.YtbejafbpipdbjaaDoor
set_option maxRecDepth 4000
open Go.RowKit

theorem Fed.words {w : World} {g : Nat} {l : List UInt8} (h : Fed w g l) : w.rangeAt g 0 (blocks l (l.length / 64)).cells := h.elim fun _ h => h.1.range
theorem laid4 (w : World) (t : TypeId) (l : List UInt8) : Has (w.alloc (.cells (l.map bv).toArray t)) (w.heap.size + 1) (some ⟨w.heap.size, 0, none⟩) l :=
  .inr ⟨_, _, rfl, Nat.lt_succ_self _, fun i x hx => by have := laid_new w l t i x hx; rw [plain_add] at this; exact this⟩
set_option maxRecDepth 100000 in
set_option maxHeartbeats 4000000 in
theorem sum_any (g : Nat) (l : List UInt8) (w : World) (hl : l.length ≤ 100000) (hg : 7 + 1 ≤ g) (hT : Tabs w) (h : Fed w g l) :
    Calls Tryd.prog 120 #[.pointer (some ⟨g, 0, none⟩)] w fun e w' => ∃ v, e = .returned v ∧ Own w' w.heap.size v (sha l) ∧ w.grownBy w' (some g) := by
  obtain ⟨i0, hi, hz0, hz1, hz2⟩ := info_parts info8
  have hzl : zeros l.length < 64 := Nat.mod_lt _ (by decide)
  have hz56 : (l.length + 1 + zeros l.length) % 64 = 56 := by unfold zeros; omega
  have hzn : ∀ z, z < zeros l.length → (l.length + 1 + z) % 64 ≠ 56 := by unfold zeros; intro z hz; omega
  have HZN := Lib.hid hzn
  have HZ56 := Lib.hid hz56
  have hgw := h.lt
  have c0 := h.many
  have HT := Lib.hid hT
  have HTg : Hid (∀ wr, w.grownBy wr (some g) → Tabs wr) := Lib.hid fun wr hgr => hT.grown hgr (fun q e => by cases e; exact hg)
  obtain ⟨L8, hL8⟩ : ∃ L, 8 * l.length = L := ⟨_, rfl⟩
  have hw8 : IntKind.u64.wrap (8 * (l.length : Int)) = (L8 : Int) := by rw [IntKind.wrap_u64]; omega
  clear hzn hz56 hT
  go_enter Tryd.func120, Tryd.ntmps120
  go_wp2_with fail
  refine (writeOne_any g l 128 _ (by omega) hg HT.out h).mono ?_
  rintro e w1 ⟨rfl, hf1, hg1⟩
  have hf1 : Fed w1 g (padTo l 0) := hf1
  clear h c0 hw8
  go_wp2_with fail
  go_loopw [20] (fun _ wr => ∃ z : Nat, z ≤ zeros l.length ∧ Fed wr g (padTo l z) ∧ w.grownBy wr (some g)) (fun _ wr => zeros l.length + l.length + 1 - (match wr.cell? ⟨g, 72, none⟩ with | some (.int _ i) => i.toNat | _ => 0))
  case atStart => exact ⟨0, by omega, hf1, hg1⟩
  case round =>
    clear hf1 hg1
    obtain ⟨z, hz, hf, hgr⟩ := hrel
    have c1 := hf.many
    rw [padTo_length] at c1
    obtain ⟨m, hm⟩ : ∃ m, l.length + 1 + z = m := ⟨_, rfl⟩
    rw [hm] at c1
    obtain ⟨r, hr⟩ : ∃ r, m % 64 = r := ⟨_, rfl⟩
    have e1 : (m : Int).tmod 64 = (r : Int) := by rw [Int.tmod_eq_emod_of_nonneg (by omega)]; omega
    have HF := Lib.hid hf
    have HG := Lib.hid hgr
    by_cases hlt : z < zeros l.length
    · have hr56 : ¬ (r : Int) = 56 := by have := HZN.out z hlt; omega
      have HL : Hid ((padTo l z).length < 4294967295) := Lib.hid (by rw [padTo_length]; omega)
      clear hf hgr
      go_wp2_with fail
      refine (writeOne_any g (padTo l z) 0 _ HL.out hg (HTg.out _ HG.out) HF.out).mono ?_
      rintro e w2 ⟨rfl, k1, k2⟩
      rw [← padTo_succ] at k1
      have k3 := grown_trans HG.out k2
      have c2 := k1.many
      rw [padTo_length] at c2
      clear k2
      have M1 : (match wr.cell? ⟨g, 72, none⟩ with | some (.int _ i) => i.toNat | _ => 0) = m := by rw [c1]; simp
      have M2 : (match w2.cell? ⟨g, 72, none⟩ with | some (.int _ i) => i.toNat | _ => 0) = m + 1 := by rw [c2]; simp; omega
      have HM1 := Lib.hid M1
      have HM2 := Lib.hid M2
      clear c1 c2 M1 M2
      go_wp2
      go_roundw
      case rel => exact ⟨z + 1, by omega, k1, k3⟩
      case measure => rw [HM1.out, HM2.out]; omega
    · obtain rfl : z = zeros l.length := by omega
      have hr56 : (r : Int) = 56 := by have := HZ56.out; omega
      rw [← padLen_none] at hf
      clear HF
      go_wp2_with fail
      clear c1 hm hr e1 hr56 HG HZN HZ56 hlt hz
      go_loopw [4] (fun i wr => ∃ j : Nat, j ≤ 8 ∧ i = .int .i64 (56 - 8 * (j : Int)) ∧ Fed wr g (padLen l j) ∧ w.grownBy wr (some g)) (fun i _ => (intOf i + 8).toNat)
      case atStart => exact ⟨0, by omega, rfl, hf, hgr⟩
      case round =>
        clear hf hgr
        obtain ⟨j, hj, rfl, hf, hgr⟩ := hrel
        have HF := Lib.hid hf
        have HG := Lib.hid hgr
        by_cases hlt : j < 8
        · have HL : Hid ((padLen l j).length < 4294967295) := Lib.hid (by rw [padLen_length l j hj]; omega)
          have HS := Lib.hid (padLen_succ l j hlt)
          have e8 : IntKind.u8.wrap ((L8 : Int) / 2 ^ (8 * (7 - j))) = ((UInt8.ofNat ((8 * l.length) >>> (8 * (7 - j)))).toNat : Int) := by
            rw [IntKind.wrap_u8, Nat.shiftRight_eq_div_pow, hL8, show (L8 : Int) / 2 ^ (8 * (7 - j)) = ((L8 / 2 ^ (8 * (7 - j)) : Nat) : Int) from by simp]
            simp
          generalize UInt8.ofNat ((8 * l.length) >>> (8 * (7 - j))) = x at *
          have hj0 : 0 ≤ 56 - 8 * (j : Int) := by omega
          have hj1 : 8 * (j : Int) ≤ 56 := by omega
          have tn : (56 - 8 * (j : Int)).toNat = 8 * (7 - j) := by omega
          clear hf hgr
          go_wp2_with fail
          refine (writeOne_any g (padLen l j) x _ HL.out hg (HTg.out _ HG.out) HF.out).mono ?_
          rintro e w2 ⟨rfl, k1, k2⟩
          rw [← HS.out] at k1
          have k3 := grown_trans HG.out k2
          clear k2 e8 tn
          go_wp2
          go_roundw
          case rel => exact ⟨j + 1, by omega, by go_num, k1, k3⟩
          case measure => simp [intOf]; omega
        · obtain rfl : j = 8 := by omega
          rw [show (56 - 8 * ((8 : Nat) : Int)) = -8 from rfl]
          rw [padLen_all] at hf
          have hrg := hf.words
          have HSH : Hid (sha l = out32 (blocks (whole l) ((whole l).length / 64))) := Lib.hid rfl
          generalize blocks (whole l) ((whole l).length / 64) = s at *
          have HRG := Lib.hid hrg
          have hsz := hgr.size
          have hin1 : (Tryd.prog.info? 174).map (·.size) = some s.cells.length := info8w
          clear hrg hf HF hL8 HTg HT HG
          obtain ⟨W9, hW9⟩ : ∃ W9, W9 = wr := ⟨_, rfl⟩
          subst hW9
          have hgW : g < W9.heap.size := by omega
          go_wp2_with (first
            | (at_make; refine wpList_make_own _ rfl _ _ 44 rfl W9.heap.size 5 i0 (.int .u8 0) 1 Tryd.underlying44 hi hz0 hz1 _ _ _ 32 rfl rfl (by omega) (by rw [hz2]; omega) (by unfold maxLen; omega) (Nat.le_refl _) ?_; intro w3 hown hgrow)
            | (refine wpList_load_mid rfl 174 (.tmp 36) rfl g 0 rfl s.cells _ (fun j v hv => (World.cell?_of_block (hgrow.block g hgW (by simp))).trans (HRG.out j v hv)) Tryd.underlying174 rfl hin1 ?_))
          have hb3 : Below W9.heap.size W9 w3 := (Below.refl _ W9).grown hgrow (Nat.le_refl _) (fun _ e => by cases e)
          have ho3 : Own w3 W9.heap.size (.slice (some ⟨W9.heap.size, 0, none⟩) 0 32) (outTo s 0) := hown
          clear hown hgrow HRG hin1 hi hz0 hz1 hz2
          go_loopw [5, 38] (fun v i w' => ∃ k : Nat, k ≤ 8 ∧ i = .int .i64 k ∧ Own w' W9.heap.size v (outTo s k) ∧ Below W9.heap.size W9 w') (fun _ i _ => 8 - (intOf i).toNat)
          case atStart => exact ⟨0, by omega, rfl, ho3, hb3⟩
          case round =>
            clear ho3 hb3
            obtain ⟨k, hk, rfl, hown, hbel⟩ := hrel
            have hws := hbel.size
            by_cases hlt6 : k < 8
            · obtain ⟨y, hy⟩ : ∃ y, s.list[k]? = some y := ⟨_, List.getElem?_eq_getElem (by exact hlt6)⟩
              have hix := at8 s.cells k y hlt6 (by rw [Eight.cells, List.getElem?_map, hy]; rfl)
              have HO := Lib.hid (outTo_succ s k y hy)
              have hol := outTo_length s k hk
              obtain ⟨b0, e0, b1, e1, b2, e2, b3, e3, hb4⟩ := out4_bytes y
              rw [hb4] at HO
              clear hy hb4
              go_wp2_with (at_builtin; refine wpList_pushAll rfl (.tmp 41) (.tmp 53) rfl W9.heap.size u5 (outTo s k) rfl (hown.alloc _) (wr.heap.size + 1) (some ⟨wr.heap.size, 0, none⟩) 4 [b0, b1, b2, b3] rfl (laid4 wr 5 [b0, b1, b2, b3]) (by simp; omega) (by simp; omega) ?_; intro v4 w4 ho4 hg4)
              have hb4 : Below W9.heap.size W9 w4 := (hbel.alloc hws _).grown hg4 (by simp; omega) (fun q hq => (World.ownsRow.lt hown q hq).1)
              rw [← HO.out] at ho4
              clear hg4 hown hix e0 e1 e2 e3 hol
              go_wp2
              go_roundw
              case rel => exact ⟨k + 1, by omega, by go_num, ho4, hb4⟩
              case measure => simp [intOf]; omega
            · obtain rfl : k = 8 := by omega
              rw [outTo_all, ← HSH.out] at hown
              have hg10 : w.grownBy wr (some g) := ⟨hbel.os.trans hgr.os, hbel.tape.trans hgr.tape, hbel.output.trans hgr.output, by omega, fun q hq hne => (hbel.block q (by omega)).trans (hgr.block q hq hne)⟩
              have ho10 : Own wr w.heap.size u5 (sha l) := by
                refine ⟨hown.1, ?_⟩
                rcases hown.2 with hn | ⟨g, cap, cur, e, hg, rest⟩
                · exact .inl hn
                · exact .inr ⟨g, cap, cur, e, Nat.le_trans hsz hg, rest⟩
              clear hown hbel
              go_wp2
              go_ret
              exact ⟨_, rfl, ho10, hg10⟩
end Go.Proofs.YtbejafbpipdbjaaDoor
namespace Go.Proofs.YtbejafbpipdbjaaDoor
set_option maxRecDepth 4000
open Go.RowKit

/-- What ShaSum answers. -/
def shaOut (l : List UInt8) : List UInt8 := if 500 < l.length then [] else sha l
theorem shaOut_length_le (l : List UInt8) : (shaOut l).length ≤ 32 := by unfold shaOut; split <;> simp [sha_length]
set_option maxHeartbeats 1000000 in
theorem implShaSum_any (A : Option Addr) (c : Nat) (l : List UInt8) (w : World) (hl : l.length ≤ 1073741824) (hT : Tabs w) (h : Has w w.heap.size A l) :
    Calls Tryd.prog 116 #[.slice A l.length c] w fun e w' => ∃ v, e = .returned v ∧ Own w' w.heap.size v (shaOut l) ∧ Below w.heap.size w w' := by
  unfold shaOut
  by_cases hlt : 500 < l.length
  · rw [if_pos hlt]
    go_enter Tryd.func116, Tryd.ntmps116
    go_wp2
    go_ret
    exact ⟨_, rfl, own_nil _ _, Below.refl _ _⟩
  · rw [if_neg hlt]
    have h2 := hT.2.2
    go_enter Tryd.func116, Tryd.ntmps116
    go_wp2_with fail
    refine (newShaHash_any w hT).mono ?_
    rintro e w1 ⟨rfl, hf1, hb1⟩
    have hT1 : Tabs w1 := hT.below hb1 h2
    have hz1 := hf1.lt
    go_wp2_with fail
    refine (write_any w.heap.size A c [] l w1 (by simp; omega) h2 hT1 hf1 (h.below hb1)).mono ?_
    rintro e w2 ⟨rfl, hf2, hg2⟩
    have hT2 : Tabs w2 := hT1.grown hg2 (fun q e => by cases e; exact h2)
    have hb2 : Below w.heap.size w w2 := hb1.grown hg2 (by omega) (fun q e => by cases e; exact Nat.le_refl _)
    have hz2 := hg2.size
    rw [List.nil_append] at hf2
    clear hf1 hb1 hT1 hg2 hT h
    go_wp2_with fail
    refine (sum_any w.heap.size l w2 (by omega) h2 hT2 hf2).mono ?_
    rintro e w3 ⟨v, rfl, ho3, hg3⟩
    have hb3 : Below w.heap.size w w3 := hb2.grown hg3 (by omega) (fun q e => by cases e; exact Nat.le_refl _)
    have ho4 : Own w3 w.heap.size v (sha l) := by
      refine ⟨ho3.1, ?_⟩
      rcases ho3.2 with hn | ⟨g, cap, cur, e, hg, rest⟩
      · exact .inl hn
      · exact .inr ⟨g, cap, cur, e, Nat.le_trans (by omega) hg, rest⟩
    clear hf2 hT2 hb2 hg3 ho3
    go_wp2
    go_ret
    exact ⟨_, rfl, ho4, hb3⟩
end Go.Proofs.YtbejafbpipdbjaaDoor
