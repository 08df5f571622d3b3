/-
  The program's shaSchedule is the schedule of a block. Condition: a block of 64 bytes.
-/
import Derived.Test.YtbejafbpipdbjaaDoorShaIR
import Derived.Test.YtbejafbpipdbjaaDoorRow
import Derived.Deep.RegionHeld3
import Derived.StillTailTactics
import Derived.Deep.MidRow
import Derived.Laws.Tables
import Derived.Laws.CopyOwn
namespace Go.Proofs.YtbejafbpipdbjaaDoor
set_option maxRecDepth 4000
open Go.RowKit

/-- The first k words of a block's schedule, and noughts. -/
def planL (l : List UInt8) (k : Nat) : List Nat := sched l k ++ List.replicate (64 - k) 0
theorem planL_zero (l : List UInt8) : planL l 0 = List.replicate 64 0 := rfl
theorem planL_all (l : List UInt8) : planL l 64 = sched l 64 := by simp [planL]
theorem planL_length (l : List UInt8) (k : Nat) (hk : k ≤ 64) : (planL l k).length = 64 := by simp [planL, sched_length]; omega
theorem planL_set (l : List UInt8) (k v : Nat) (hk : k < 64) (hv : sched l (k + 1) = sched l k ++ [v]) : (planL l k).set k v = planL l (k + 1) := by
  unfold planL
  rw [List.set_append_right _ _ (by rw [sched_length]; exact Nat.le_refl _), sched_length, Nat.sub_self, hv]
  obtain ⟨m, hm⟩ : ∃ m, 64 - k = m + 1 := ⟨63 - k, by omega⟩
  rw [hm, show 64 - (k + 1) = m from by omega, List.replicate_succ, List.set_cons_zero, List.append_assoc]
  rfl
/-- A block of 64 words of 32 bits. -/
def planA (l : List Nat) : Array Value := (l.map (kv .u32)).toArray

theorem sched_word' (l : List UInt8) (k : Nat) (x0 x1 x2 x3 : UInt8) (hk : k < 16) (h0 : l[4 * k]? = some x0) (h1 : l[4 * k + 1]? = some x1) (h2 : l[4 * k + 2]? = some x2) (h3 : l[4 * k + 3]? = some x3) :
    sched l (k + 1) = sched l k ++ [((x0.toNat <<< 24 ||| x1.toNat <<< 16) ||| x2.toNat <<< 8) ||| x3.toNat] := by
  rw [sched, nextW, if_pos hk, be32]
  simp [List.getD, h0, h1, h2, h3]
theorem sched_more' (l : List UInt8) (k a16 a15 a7 a2 : Nat) (hk : 16 ≤ k) (h16 : (sched l k)[k - 16]? = some a16) (h15 : (sched l k)[k - 15]? = some a15) (h7 : (sched l k)[k - 7]? = some a7) (h2 : (sched l k)[k - 2]? = some a2) :
    sched l (k + 1) = sched l k ++ [(a16 + smallS0 a15 + a7 + smallS1 a2) % 4294967296] := by
  rw [sched, nextW, if_neg (by omega)]
  simp [List.getD, h16, h15, h7, h2]

/-- What stands in the call's three blocks behind k words. -/
def Plan (w : World) (l : List UInt8) (k : Nat) (wr : World) : Prop :=
  wr.heap[w.heap.size]? = some (.cells (l.map bv).toArray 131 (0, 0)) ∧ wr.heap[w.heap.size + 1]? = some (.cells (planA (List.replicate 64 0)) 185 (0, 0)) ∧
    wr.heap[w.heap.size + 1 + 1]? = some (.cells (planA (planL l k)) 185 (0, 0)) ∧ Below w.heap.size w wr ∧ w.heap.size + 3 ≤ wr.heap.size
theorem Plan.byte {w wr : World} {l : List UInt8} {k : Nat} (h : Plan w l k wr) (i : Nat) (x : UInt8) (hx : l[i]? = some x) : wr.cell? ⟨w.heap.size, i, none⟩ = some (.int .u8 (x.toNat : Int)) := by
  rw [cell_of_row wr w.heap.size i _ _ _ h.1]
  simp [hx, bv]
theorem Plan.word {w wr : World} {l : List UInt8} {k : Nat} (h : Plan w l k wr) (i x : Nat) (hx : (planL l k)[i]? = some x) : wr.cell? ⟨w.heap.size + 1 + 1, i, none⟩ = some (.int .u32 (x : Int)) := by
  rw [cell_of_row wr (w.heap.size + 1 + 1) i _ _ _ h.2.2.1]
  simp [planA, hx, kv]
theorem Plan.free {w wr : World} {l : List UInt8} {k : Nat} (h : Plan w l k wr) (i : Nat) : wr.frozen? ⟨w.heap.size + 1 + 1, i, none⟩ = false := by
  have := h.2.2.1
  simp [World.frozen?, this]
theorem Plan.drewN {w wr : World} {l : List UInt8} {k : Nat} (h : Plan w l k wr) (n : Nat) : Plan w l k (wr.drewN n) := ⟨h.1, h.2.1, h.2.2.1, below_draws h.2.2.2.1 n, h.2.2.2.2⟩
theorem Plan.next {w wr : World} {l : List UInt8} {k v : Nat} (h : Plan w l k wr) (hk : k < 64) (hv : sched l (k + 1) = sched l k ++ [v]) : Plan w l (k + 1) (wr.drew.setCell ⟨w.heap.size + 1 + 1, k, none⟩ (.int .u32 (v : Int))) := by
  obtain ⟨h1, h2, h3, h4, h5⟩ := h
  refine ⟨(Below.heap_setCell wr.drew _ _ _ (by simp; omega)).trans h1, (Below.heap_setCell wr.drew _ _ _ (by simp)).trans h2, ?_, h4.drew.setCell (by show _ ≤ w.heap.size + 1 + 1; omega) _, by show _ ≤ (wr.drew.setCell _ _).heap.size; simp; exact h5⟩
  have h3' : wr.drew.heap[w.heap.size + 1 + 1]? = _ := h3
  rw [heap_setCell_same wr.drew (w.heap.size + 1 + 1) k _ _ (.int .u32 (v : Int)) h3']
  congr 2
  rw [← planL_set l k v hk hv]
  simp [planA, kv]

theorem planL_at (l : List UInt8) (k i x : Nat) (h : (sched l k)[i]? = some x) : (planL l k)[i]? = some x := by
  unfold planL
  rw [List.getElem?_append_left (List.getElem?_eq_some_iff.1 h).1]
  exact h
theorem infoPlan : (Tryd.prog.info? 185).map (·.size) = some 64 := by kernel_rfl
theorem three_new (w : World) (o1 o2 o3 : Obj) : (((w.alloc o1).alloc o2).alloc o3).heap[w.heap.size]? = some o1 ∧ (((w.alloc o1).alloc o2).alloc o3).heap[w.heap.size + 1]? = some o2 ∧ (((w.alloc o1).alloc o2).alloc o3).heap[w.heap.size + 1 + 1]? = some o3 := by
  have e1 : (w.alloc o1).heap.size = w.heap.size + 1 := by simp
  have e2 : ((w.alloc o1).alloc o2).heap.size = w.heap.size + 1 + 1 := by simp
  refine ⟨?_, ?_, ?_⟩
  · rw [Below.heap_alloc _ _ _ (by omega), Below.heap_alloc _ _ _ (by omega)]
    exact heap_alloc_new w o1
  · rw [Below.heap_alloc _ _ _ (by omega), ← e1]
    exact heap_alloc_new _ o2
  · rw [← e2]
    exact heap_alloc_new _ o3

set_option maxRecDepth 100000 in
set_option maxHeartbeats 2000000 in
theorem shaSchedule_any (l : List UInt8) (w : World) (hl : l.length = 64) :
    Calls Tryd.prog 146 #[.agg (l.map bv).toArray] w fun e w' => e = .returned (.agg (planA (sched l 64))) ∧ Below w.heap.size w w' := by
  go_enter Tryd.func146, Tryd.ntmps146
  go_wp2_with fail
  go_loopw [10] (fun i wr => ∃ k : Nat, k ≤ 16 ∧ i = .int .i64 k ∧ Plan w l k wr) (fun i _ => 16 - (intOf i).toNat)
  case atStart =>
    obtain ⟨a1, a2, a3⟩ := three_new w (.cells (l.map bv).toArray 131) (.cells (planA (List.replicate 64 0)) 185) (.cells (planA (planL l 0)) 185)
    exact ⟨0, by omega, rfl, a1, a2, a3, (((Below.refl _ w).alloc (Nat.le_refl _) _).alloc (by simp) _).alloc (by simp; omega) _, by simp⟩
  case round =>
    obtain ⟨k, hk, rfl, hpl⟩ := hrel
    by_cases hlt : k < 16
    · obtain ⟨x0, hx0⟩ : ∃ x, l[4 * k]? = some x := ⟨_, List.getElem?_eq_getElem (by omega)⟩
      obtain ⟨x1, hx1⟩ : ∃ x, l[4 * k + 1]? = some x := ⟨_, List.getElem?_eq_getElem (by omega)⟩
      obtain ⟨x2, hx2⟩ : ∃ x, l[4 * k + 2]? = some x := ⟨_, List.getElem?_eq_getElem (by omega)⟩
      obtain ⟨x3, hx3⟩ : ∃ x, l[4 * k + 3]? = some x := ⟨_, List.getElem?_eq_getElem (by omega)⟩
      have d0 : wr.drew.cell? _ = _ := hpl.byte _ x0 hx0
      have d1 : wr.drew.cell? _ = _ := hpl.byte _ x1 hx1
      have d2 : wr.drew.cell? _ = _ := hpl.byte _ x2 hx2
      have d3 : wr.drew.cell? _ = _ := hpl.byte _ x3 hx3
      obtain ⟨p, hp⟩ : ∃ p, (planL l k)[k]? = some p := ⟨_, List.getElem?_eq_getElem (by rw [planL_length l k (by omega)]; omega)⟩
      have dP : wr.drew.cell? _ = _ := hpl.word k p hp
      have fP : wr.drew.frozen? _ = _ := hpl.free k
      obtain ⟨y0, hy0⟩ : ∃ y, x0.toNat <<< 24 = y := ⟨_, rfl⟩
      obtain ⟨y1, hy1⟩ : ∃ y, x1.toNat <<< 16 = y := ⟨_, rfl⟩
      obtain ⟨y2, hy2⟩ : ∃ y, x2.toNat <<< 8 = y := ⟨_, rfl⟩
      obtain ⟨z1, hz1'⟩ : ∃ y, y0 ||| y1 = y := ⟨_, rfl⟩
      obtain ⟨z2, hz2'⟩ : ∃ y, z1 ||| y2 = y := ⟨_, rfl⟩
      obtain ⟨z3, hz3'⟩ : ∃ y, z2 ||| x3.toNat = y := ⟨_, rfl⟩
      have HS := sched_word' l k x0 x1 x2 x3 hlt hx0 hx1 hx2 hx3
      rw [hy0, hy1, hy2, hz1', hz2', hz3'] at HS
      have HN := Lib.hid (hpl.next (by omega) HS)
      have b0 := x0.toNat_lt
      have b1 := x1.toNat_lt
      have b2 := x2.toNat_lt
      have b3 := x3.toNat_lt
      have w32 : ∀ n : Nat, n < 4294967296 → IntKind.u32.wrap (n : Int) = (n : Int) := fun n hn => by rw [IntKind.wrap_u32]; omega
      have i0' := w32 x0.toNat (by omega)
      have i1' := w32 x1.toNat (by omega)
      have i2' := w32 x2.toNat (by omega)
      have i3' := w32 x3.toNat (by omega)
      have j0 : IntKind.u32.wrap ((x0.toNat : Int) * 16777216) = (y0 : Int) := by rw [IntKind.wrap_u32, ← hy0, Nat.shiftLeft_eq]; omega
      have j1 : IntKind.u32.wrap ((x1.toNat : Int) * 65536) = (y1 : Int) := by rw [IntKind.wrap_u32, ← hy1, Nat.shiftLeft_eq]; omega
      have j2 : IntKind.u32.wrap ((x2.toNat : Int) * 256) = (y2 : Int) := by rw [IntKind.wrap_u32, ← hy2, Nat.shiftLeft_eq]; omega
      have ly0 : y0 < 4294967296 := by rw [← hy0, Nat.shiftLeft_eq]; omega
      have ly1 : y1 < 4294967296 := by rw [← hy1, Nat.shiftLeft_eq]; omega
      have ly2 : y2 < 4294967296 := by rw [← hy2, Nat.shiftLeft_eq]; omega
      have lz1 : z1 < 4294967296 := by rw [← hz1']; exact Nat.or_lt_two_pow (n := 32) ly0 ly1
      have lz2 : z2 < 4294967296 := by rw [← hz2']; exact Nat.or_lt_two_pow (n := 32) lz1 ly2
      have o1 : bits .or .u32 (y0 : Int) (y1 : Int) = (z1 : Int) := by rw [u32_or_nat y0 y1 ly0 ly1, hz1']
      have o2 : bits .or .u32 (z1 : Int) (y2 : Int) = (z2 : Int) := by rw [u32_or_nat z1 y2 lz1 ly2, hz2']
      have o3 : bits .or .u32 (z2 : Int) (x3.toNat : Int) = (z3 : Int) := by rw [u32_or_nat z2 _ lz2 (by omega), hz3']
      clear hy0 hy1 hy2 hz1' hz2' hz3' b0 b1 b2 b3 ly0 ly1 ly2 lz1 lz2 hx0 hx1 hx2 hx3 hp HS hpl w32
      have q0 := IntWalk.i64_in (4 * (k : Int)) (by omega)
      have q1 := IntWalk.i64_in (4 * (k : Int) + 1) (by omega)
      have q2 := IntWalk.i64_in (4 * (k : Int) + 2) (by omega)
      have q3 := IntWalk.i64_in (4 * (k : Int) + 3) (by omega)
      have t0 : (4 * (k : Int)).toNat = 4 * k := by omega
      have t1 : (4 * (k : Int) + 1).toNat = 4 * k + 1 := by omega
      have t2 : (4 * (k : Int) + 2).toNat = 4 * k + 2 := by omega
      have t3 : (4 * (k : Int) + 3).toNat = 4 * k + 3 := by omega
      have p0 : 0 ≤ 4 * (k : Int) ∧ 4 * (k : Int) < 64 := by omega
      have p1 : 0 ≤ 4 * (k : Int) + 1 ∧ 4 * (k : Int) + 1 < 64 := by omega
      have p2 : 0 ≤ 4 * (k : Int) + 2 ∧ 4 * (k : Int) + 2 < 64 := by omega
      have p3 : 0 ≤ 4 * (k : Int) + 3 ∧ 4 * (k : Int) + 3 < 64 := by omega
      have pk : 0 ≤ (k : Int) ∧ (k : Int) < 64 := by omega
      go_wp2_with fail
      refine wp_region_still_tail 31 (by kernel_rfl) (by kernel_rfl) ?_
      simp only [List.take_succ_cons, List.take_zero, List.drop_succ_cons, List.drop_zero]
      change wpStill _ _ wr.drew _ _ _
      repeat still_step
      refine wpStill_nil ?_
      clear q0 q1 q2 q3 t0 t1 t2 t3 p0 p1 p2 p3 o1 o2 o3 i0' i1' i2' i3' j0 j1 j2 d0 d1 d2 d3
      go_wp2
      go_roundw
      case rel => exact ⟨k + 1, by omega, by go_num, HN.out⟩
      case measure => simp [intOf]; omega
    · obtain rfl : k = 16 := by omega
      rw [show ((16 : Nat) : Int) = 16 from rfl]
      go_wp2
      go_loopw [5] (fun i wr => ∃ k : Nat, 16 ≤ k ∧ k ≤ 64 ∧ i = .int .i64 k ∧ Plan w l k wr) (fun i _ => 64 - (intOf i).toNat)
      case atStart => exact ⟨16, by omega, by omega, rfl, hpl⟩
      case round =>
        clear hpl
        obtain ⟨k, hk16, hk, rfl, hpl⟩ := hrel
        by_cases hlt2 : k < 64
        · obtain ⟨a16, ha16⟩ : ∃ x, (sched l k)[k - 16]? = some x := ⟨_, List.getElem?_eq_getElem (by rw [sched_length]; omega)⟩
          obtain ⟨a15, ha15⟩ : ∃ x, (sched l k)[k - 15]? = some x := ⟨_, List.getElem?_eq_getElem (by rw [sched_length]; omega)⟩
          obtain ⟨a7, ha7⟩ : ∃ x, (sched l k)[k - 7]? = some x := ⟨_, List.getElem?_eq_getElem (by rw [sched_length]; omega)⟩
          obtain ⟨a2, ha2⟩ : ∃ x, (sched l k)[k - 2]? = some x := ⟨_, List.getElem?_eq_getElem (by rw [sched_length]; omega)⟩
          obtain ⟨p, hp⟩ : ∃ p, (planL l k)[k]? = some p := ⟨_, List.getElem?_eq_getElem (by rw [planL_length l k (by omega)]; omega)⟩
          have l15 := sched_lt l k a15 (List.mem_of_getElem? ha15)
          have l2 := sched_lt l k a2 (List.mem_of_getElem? ha2)
          have HS := sched_more' l k a16 a15 a7 a2 hk16 ha16 ha15 ha7 ha2
          have c15 := hpl.word _ a15 (planL_at l k _ _ ha15)
          have c2 := hpl.word _ a2 (planL_at l k _ _ ha2)
          have HC16 := Lib.hid (hpl.word _ a16 (planL_at l k _ _ ha16))
          have HC7 := Lib.hid (hpl.word _ a7 (planL_at l k _ _ ha7))
          have HCP := Lib.hid (hpl.word _ p hp)
          have HFP := Lib.hid (hpl.free k)
          obtain ⟨s0, hs0⟩ : ∃ z, (a16 + smallS0 a15) % 4294967296 = z := ⟨_, rfl⟩
          obtain ⟨s1, hs1⟩ : ∃ z, (s0 + a7) % 4294967296 = z := ⟨_, rfl⟩
          obtain ⟨s2, hs2⟩ : ∃ z, (s1 + smallS1 a2) % 4294967296 = z := ⟨_, rfl⟩
          have m0 := wrap32u a16 (smallS0 a15)
          have m1 := wrap32u s0 a7
          have m2 := wrap32u s1 (smallS1 a2)
          rw [hs0] at m0
          rw [hs1] at m1
          rw [hs2] at m2
          rw [show (a16 + smallS0 a15 + a7 + smallS1 a2) % 4294967296 = s2 from by omega] at HS
          have HN := Lib.hid fun n => (hpl.drewN n).next hlt2 HS
          have r1 := rotr_lt a15 7
          have r2 := rotr_lt a15 18
          have r3 := rotr_lt a2 17
          have r4 := rotr_lt a2 19
          obtain ⟨y1, hy1⟩ : ∃ y, a15 >>> 3 = y := ⟨_, rfl⟩
          obtain ⟨y2, hy2⟩ : ∃ y, a2 >>> 10 = y := ⟨_, rfl⟩
          have e1 : (a15 : Int) / 8 = (y1 : Int) := by rw [← hy1, Nat.shiftRight_eq_div_pow]; omega
          have e2 : (a2 : Int) / 1024 = (y2 : Int) := by rw [← hy2, Nat.shiftRight_eq_div_pow]; omega
          have x1 := x32 r1 r2
          have x2 : bits .xor .u32 ((rotr a15 7 ^^^ rotr a15 18 : Nat) : Int) (y1 : Int) = (smallS0 a15 : Int) := by rw [← hy1]; exact x32 (xor32 r1 r2) (shr32 _ l15)
          have x3 := x32 r3 r4
          have x4 : bits .xor .u32 ((rotr a2 17 ^^^ rotr a2 19 : Nat) : Int) (y2 : Int) = (smallS1 a2 : Int) := by rw [← hy2]; exact x32 (xor32 r3 r4) (shr32 _ l2)
          have q16 := IntWalk.i64_in ((k : Int) - 16) (by omega)
          have q15 := IntWalk.i64_in ((k : Int) - 15) (by omega)
          have q7 := IntWalk.i64_in ((k : Int) - 7) (by omega)
          have q2 := IntWalk.i64_in ((k : Int) - 2) (by omega)
          have t16 : ((k : Int) - 16).toNat = k - 16 := by omega
          have t15 : ((k : Int) - 15).toNat = k - 15 := by omega
          have t7 : ((k : Int) - 7).toNat = k - 7 := by omega
          have t2 : ((k : Int) - 2).toNat = k - 2 := by omega
          have k16 : (16 : Int) ≤ (k : Int) := by omega
          have k15 : (15 : Int) ≤ (k : Int) := by omega
          have k7 : (7 : Int) ≤ (k : Int) := by omega
          have k2 : (2 : Int) ≤ (k : Int) := by omega
          have p16 : 0 ≤ (k : Int) - 16 ∧ (k : Int) - 16 < 64 := by omega
          have p15 : 0 ≤ (k : Int) - 15 ∧ (k : Int) - 15 < 64 := by omega
          have p7 : 0 ≤ (k : Int) - 7 ∧ (k : Int) - 7 < 64 := by omega
          have p2 : 0 ≤ (k : Int) - 2 ∧ (k : Int) - 2 < 64 := by omega
          have o16 : (k : Int) - 16 < 64 := by omega
          have o15 : (k : Int) - 15 < 64 := by omega
          have o7 : (k : Int) - 7 < 64 := by omega
          have o2 : (k : Int) - 2 < 64 := by omega
          clear hpl ha16 ha15 ha7 ha2 hp HS hs0 hs1 hs2 hy1 hy2 r1 r2 r3 r4
          go_wp2_with fail
          go_quiet (fail)
          generalize nq = n1 at *
          go_wp2_with fail
          refine (rotateRight_any _ _ _ (by assumption) (by decide) (by decide)).mono ?_
          rintro e w' ⟨rfl, rfl⟩
          go_wp2_with fail
          refine (rotateRight_any _ _ _ (by assumption) (by decide) (by decide)).mono ?_
          rintro e w' ⟨rfl, rfl⟩
          go_wp2_with fail
          refine (rotateRight_any _ _ _ (by assumption) (by decide) (by decide)).mono ?_
          rintro e w' ⟨rfl, rfl⟩
          go_wp2_with fail
          refine (rotateRight_any _ _ _ (by assumption) (by decide) (by decide)).mono ?_
          rintro e w' ⟨rfl, rfl⟩
          go_wp2_with fail
          clear c15 c2 q15 q2 t15 t2 k15 k2 p15 p2 o15 o2 x1 x2 x3 x4 e1 e2 l15 l2
          have d16 : ((wr.drewN n1).drew).cell? _ = _ := HC16.out
          have d7 : ((wr.drewN n1).drew).cell? _ = _ := HC7.out
          have dP : ((wr.drewN n1).drew).cell? _ = _ := HCP.out
          have fP : ((wr.drewN n1).drew).frozen? _ = _ := HFP.out
          have HN2 := Lib.hid (HN.out n1)
          have pk : 0 ≤ (k : Int) ∧ (k : Int) < 64 := by omega
          generalize wr.drewN n1 = W2 at *
          refine wp_region_still_tail 15 (by kernel_rfl) (by kernel_rfl) ?_
          simp only [List.take_succ_cons, List.take_zero, List.drop_succ_cons, List.drop_zero]
          change wpStill _ _ W2.drew _ _ _
          repeat still_step
          refine wpStill_nil ?_
          clear q16 q7 t16 t7 p16 p7 m0 m1 m2
          go_wp2
          go_roundw
          case rel => exact ⟨k + 1, by omega, by omega, by go_num, HN2.out⟩
          case measure => simp [intOf]; omega
        · obtain rfl : k = 64 := by omega
          rw [show ((64 : Nat) : Int) = 64 from rfl]
          obtain ⟨h1, h2, h3, h4, h5⟩ := hpl
          rw [planL_all] at h3
          have hps : (planA (sched l 64)).size = 64 := by simp [planA, sched_length]
          have hin : (Tryd.prog.info? 185).map (·.size) = some (planA (sched l 64)).size := by rw [hps]; exact infoPlan
          have hold : (planA (List.replicate 64 0)).size = (planA (sched l 64)).size := by rw [hps]; rfl
          have hone : (planA (sched l 64)).all (·.oneCell') = true := all_oneCell_toArray (kvs_one _ _)
          obtain ⟨pl, hpe⟩ : ∃ pl, planA (sched l 64) = pl := ⟨_, rfl⟩
          rw [hpe] at h3 hps hin hold hone
          have HH := Lib.hid h2
          have H3 := Lib.hid h3
          have HPE := Lib.hid hpe
          have HPS := Lib.hid hps
          clear hpe hps
          clear h1 h2 h3
          go_wp2_with (first
            | (refine wpList_load_row rfl 185 (.tmp 3) rfl (w.heap.size + 1 + 1) rfl 185 pl (0, 0) _ H3.out Tryd.underlying185 rfl hin ?_)
            | (refine wpList_store_row rfl 185 (.tmp 2) (.tmp 88) rfl (w.heap.size + 1) pl rfl rfl 185 _ HH.out hin hold hone ?_))
          refine bodyPost_ret (results_cell_row rfl _ _ (w.heap.size + 1) 185 pl (0, 0) _ rfl (setRow_heap _ _ _ _ _ _ HH.out) Tryd.underlying185 rfl hin) rfl ⟨by rw [HPE.out], below_setRow h4 (by omega) pl⟩
end Go.Proofs.YtbejafbpipdbjaaDoor
