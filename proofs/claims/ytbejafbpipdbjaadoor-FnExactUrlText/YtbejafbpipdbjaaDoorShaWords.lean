/-
  The reference's l1Words is the schedule of a block. Condition: a block of 64 bytes.
-/
import Derived.Test.YtbejafbpipdbjaaDoorShaStep
namespace Go.Proofs.YtbejafbpipdbjaaDoor
set_option maxRecDepth 4000
open Go.RowKit

theorem info64 : (Tryd.prog.info? 137).map (fun i => (i.zero, i.size, i.bytes)) = some (some (.int .u64 0), 1, 8) := by kernel_rfl

theorem cell_new {w : World} {o : Obj} {b p : Nat} (hb : b < w.heap.size) : ((w.alloc o).drew).cell? ⟨b, p, none⟩ = w.cell? ⟨b, p, none⟩ := World.cell?_of_block (Below.heap_alloc w o b hb)
theorem far_kept {k : IntKind} {t : TypeId} {wr w2 : World} {B : Nat} {v : Value} {l : List Nat} {o : Obj} (ho : OwnK k t wr B v l) (hg : ((wr.alloc o).drew).grownBy w2 v.ownBlock) : ∀ p : Addr, p.block < B ∧ p.block < wr.heap.size → w2.cell? p = wr.cell? p := fun p hp =>
  (World.cell?_of_block (hg.block p.block (by show p.block < (wr.alloc o).heap.size; simp; omega) (fun e => by have := (World.ownsRow.lt ho p.block e.symm).1; omega))).trans (World.cell?_of_block (Below.heap_alloc wr o p.block hp.2))

theorem sched_word (l : List UInt8) (k : Nat) (x0 x1 x2 x3 : UInt8) (hk : k < 16) (h0 : l[4 * k]? = some x0) (h1 : l[4 * k + 1]? = some x1) (h2 : l[4 * k + 2]? = some x2) (h3 : l[4 * k + 3]? = some x3) :
    sched l (k + 1) = sched l k ++ [((x0.toNat <<< 24 ||| x1.toNat <<< 16) ||| x2.toNat <<< 8) ||| x3.toNat] := by
  rw [sched, nextW, if_pos hk, be32]
  simp [List.getD, h0, h1, h2, h3]

theorem sched_more (l : List UInt8) (k a16 a15 a7 a2 : Nat) (hk : 16 ≤ k) (h16 : (sched l k)[k - 16]? = some a16) (h15 : (sched l k)[k - 15]? = some a15) (h7 : (sched l k)[k - 7]? = some a7) (h2 : (sched l k)[k - 2]? = some a2) :
    sched l (k + 1) = sched l k ++ [(a16 + smallS0 a15 + a7 + smallS1 a2) % 4294967296] := by
  rw [sched, nextW, if_neg (by omega)]
  simp [List.getD, h16, h15, h7, h2]

set_option maxRecDepth 100000 in
set_option maxHeartbeats 2000000 in
theorem l1Words_any (A : Option Addr) (c : Nat) (l : List UInt8) (w : World) (hl : l.length = 64) (h : Has w w.heap.size A l) :
    Calls Tryd.prog 113 #[.slice A 64 c] w fun e w' => ∃ v, e = .returned v ∧ OwnK .u64 137 w' w.heap.size v (sched l 64) ∧ Below w.heap.size w w' := by
  obtain ⟨i0, hi, hz0, hz1, hz2⟩ := info_parts info64
  go_enter Tryd.func113, Tryd.ntmps113
  go_wp2
  go_loopw [3, 4] (fun v i wr => ∃ k : Nat, k ≤ 16 ∧ i = .int .i64 k ∧ OwnK .u64 137 wr w.heap.size v (sched l k) ∧ Below w.heap.size w wr) (fun _ i _ => 16 - (intOf i).toNat)
  case atStart => exact ⟨0, Nat.zero_le _, rfl, OwnK.empty (Nat.le_refl _), (Below.refl _ _).alloc (Nat.le_refl _) _⟩
  case round =>
    obtain ⟨k, hk, rfl, hown, hbel⟩ := hrel
    have hws := hbel.size
    by_cases hlt : k < 16
    · obtain ⟨b, o, x0, rfl, hbB, hx0, hc0⟩ := h.spot (k := 4 * k) (by omega)
      obtain ⟨b', o', x1, hA, _, hx1, hc1⟩ := h.spot (k := 4 * k + 1) (by omega)
      simp only [Option.some.injEq, Addr.mk.injEq, and_true] at hA
      obtain ⟨rfl, rfl⟩ := hA
      obtain ⟨b', o', x2, hA, _, hx2, hc2⟩ := h.spot (k := 4 * k + 2) (by omega)
      simp only [Option.some.injEq, Addr.mk.injEq, and_true] at hA
      obtain ⟨rfl, rfl⟩ := hA
      obtain ⟨b', o', x3, hA, _, hx3, hc3⟩ := h.spot (k := 4 * k + 3) (by omega)
      simp only [Option.some.injEq, Addr.mk.injEq, and_true] at hA
      obtain ⟨rfl, rfl⟩ := hA
      have d0 := (hbel.cell (p := ⟨b, o + 4 * k, none⟩) hbB).trans hc0
      have d1 := (hbel.cell (p := ⟨b, o + (4 * k + 1), none⟩) hbB).trans hc1
      have d2 := (hbel.cell (p := ⟨b, o + (4 * k + 2), none⟩) hbB).trans hc2
      have d3 := (hbel.cell (p := ⟨b, o + (4 * k + 3), none⟩) hbB).trans hc3
      have hbW : b < wr.heap.size := by omega
      have HX := Lib.hid (⟨hx0, hx1, hx2, hx3⟩ : _ ∧ _ ∧ _ ∧ _)
      clear hc0 hc1 hc2 hc3 hx0 hx1 hx2 hx3
      obtain ⟨y0, hy0⟩ : ∃ y, x0.toNat <<< 24 = y := ⟨_, rfl⟩
      obtain ⟨y1, hy1⟩ : ∃ y, x1.toNat <<< 16 = y := ⟨_, rfl⟩
      obtain ⟨y2, hy2⟩ : ∃ y, x2.toNat <<< 8 = y := ⟨_, rfl⟩
      obtain ⟨z1, hz1'⟩ : ∃ y, y0 ||| y1 = y := ⟨_, rfl⟩
      obtain ⟨z2, hz2'⟩ : ∃ y, z1 ||| y2 = y := ⟨_, rfl⟩
      obtain ⟨z3, hz3'⟩ : ∃ y, z2 ||| x3.toNat = y := ⟨_, rfl⟩
      have HS := Lib.hid (sched_word l k x0 x1 x2 x3 hlt HX.out.1 HX.out.2.1 HX.out.2.2.1 HX.out.2.2.2)
      rw [hy0, hy1, hy2, hz1', hz2', hz3'] at HS
      have b0 := x0.toNat_lt
      have b1 := x1.toNat_lt
      have b2 := x2.toNat_lt
      have b3 := x3.toNat_lt
      have i0' := wrap64u (x0.toNat : Int) (by omega) (by omega)
      have i1' := wrap64u (x1.toNat : Int) (by omega) (by omega)
      have i2' := wrap64u (x2.toNat : Int) (by omega) (by omega)
      have i3' := wrap64u (x3.toNat : Int) (by omega) (by omega)
      have j0 : IntKind.u64.wrap ((x0.toNat : Int) * 16777216) = (y0 : Int) := by rw [wrap64u _ (by omega) (by omega), ← hy0, Nat.shiftLeft_eq]; omega
      have j1 : IntKind.u64.wrap ((x1.toNat : Int) * 65536) = (y1 : Int) := by rw [wrap64u _ (by omega) (by omega), ← hy1, Nat.shiftLeft_eq]; omega
      have j2 : IntKind.u64.wrap ((x2.toNat : Int) * 256) = (y2 : Int) := by rw [wrap64u _ (by omega) (by omega), ← hy2, Nat.shiftLeft_eq]; omega
      have ly0 : y0 < 4294967296 := by rw [← hy0, Nat.shiftLeft_eq]; omega
      have ly1 : y1 < 4294967296 := by rw [← hy1, Nat.shiftLeft_eq]; omega
      have ly2 : y2 < 4294967296 := by rw [← hy2, Nat.shiftLeft_eq]; omega
      have lz1 : z1 < 4294967296 := by rw [← hz1']; exact Nat.or_lt_two_pow (n := 32) ly0 ly1
      have lz2 : z2 < 4294967296 := by rw [← hz2']; exact Nat.or_lt_two_pow (n := 32) lz1 ly2
      have o1 : bits .or .u64 (y0 : Int) (y1 : Int) = (z1 : Int) := by rw [u64_or_nat y0 y1 (by omega) (by omega), hz1']
      have o2 : bits .or .u64 (z1 : Int) (y2 : Int) = (z2 : Int) := by rw [u64_or_nat z1 y2 (by omega) (by omega), hz2']
      have o3 : bits .or .u64 (z2 : Int) (x3.toNat : Int) = (z3 : Int) := by rw [u64_or_nat z2 _ (by omega) (by omega), hz3']
      have hlen := sched_length l k
      clear hy0 hy1 hy2 hz1' hz2' hz3' b0 b1 b2 b3 ly0 ly1 ly2 lz1 lz2
      have q0 := IntWalk.i64_in (4 * (k : Int)) (by omega)
      have q1 := IntWalk.i64_in (4 * (k : Int) + 1) (by omega)
      have q2 := IntWalk.i64_in (4 * (k : Int) + 2) (by omega)
      have q3 := IntWalk.i64_in (4 * (k : Int) + 3) (by omega)
      have t0 : (4 * (k : Int)).toNat = 4 * k := by omega
      have t1 : (4 * (k : Int) + 1).toNat = 4 * k + 1 := by omega
      have t2 : (4 * (k : Int) + 2).toNat = 4 * k + 2 := by omega
      have t3 : (4 * (k : Int) + 3).toNat = 4 * k + 3 := by omega
      have p0 : 0 ≤ 4 * (k : Int) ∧ 4 * (k : Int) < 64 := by omega
      have p1 : 0 ≤ 4 * (k : Int) + 1 ∧ 4 * (k : Int) + 1 < 64 := by omega
      have p2 : 0 ≤ 4 * (k : Int) + 2 ∧ 4 * (k : Int) + 2 < 64 := by omega
      have p3 : 0 ≤ 4 * (k : Int) + 3 ∧ 4 * (k : Int) + 3 < 64 := by omega
      go_wp2_with fail
      go_region_held3 (fun w' => w'.cell? ⟨b, o + 4 * k, none⟩ = some (.int .u8 (x0.toNat : Int)) ∧ w'.cell? ⟨b, o + (4 * k + 1), none⟩ = some (.int .u8 (x1.toNat : Int)) ∧ w'.cell? ⟨b, o + (4 * k + 2), none⟩ = some (.int .u8 (x2.toNat : Int)) ∧ w'.cell? ⟨b, o + (4 * k + 3), none⟩ = some (.int .u8 (x3.toNat : Int)))
        (first | exact ⟨d0, d1, d2, d3⟩ | exact ⟨(HK.out _ ⟨hbB, hbW⟩).trans d0, (HK.out _ ⟨hbB, hbW⟩).trans d1, (HK.out _ ⟨hbB, hbW⟩).trans d2, (HK.out _ ⟨hbB, hbW⟩).trans d3⟩ | exact ⟨(cell_new hbW).trans d0, (cell_new hbW).trans d1, (cell_new hbW).trans d2, (cell_new hbW).trans d3⟩)
        (first | (refine step_pushK .u64 144 137 Tryd.underlying144 hi hz0 hz1 hz2 rfl (.tmp 13) (.tmp 47) rfl w.heap.size u3 (sched l k) rfl (by exact hown.alloc _) ⟨wr.heap.size, 0, none⟩ z3 rfl (by exact World.news_of_block (heap_alloc_new wr _) 0 _ rfl) (by omega) (by omega) (by simp; omega) ?_; intro g cap w2 ho2 hg2; have HK := Lib.hid (far_kept hown hg2)))
      have hb2 : Below w.heap.size w w2 := ((hbel.alloc hws (.cells #[.int .u64 (z3 : Int)] 137)).drew).grown hg2 (by simp; omega) (fun q hq => (World.ownsRow.lt hown q hq).1)
      rw [← HS.out, hlen] at ho2
      clear hg2 hown HK d0 d1 d2 d3 o1 o2 o3 i0' i1' i2' i3' j0 j1 j2 q0 q1 q2 q3 t0 t1 t2 t3 p0 p1 p2 p3 hlen
      go_wp2
      go_roundw
      case rel => exact ⟨k + 1, by omega, by go_num, ho2, hb2⟩
      case measure => simp [intOf]; omega
    · obtain rfl : k = 16 := by omega
      rw [show ((16 : Nat) : Int) = 16 from rfl]
      go_wp2
      go_loopw [3, 5] (fun v i wr => ∃ k : Nat, 16 ≤ k ∧ k ≤ 64 ∧ i = .int .i64 k ∧ OwnK .u64 137 wr w.heap.size v (sched l k) ∧ Below w.heap.size w wr) (fun _ i _ => 64 - (intOf i).toNat)
      case atStart => exact ⟨16, by omega, by omega, rfl, hown, hbel⟩
      case round =>
        clear hown hbel hws hlt h
        obtain ⟨k, hk16, hk, rfl, hown, hbel⟩ := hrel
        have hws := hbel.size
        by_cases hlt : k < 64
        · obtain ⟨A3, c3, hv, hc3, hh⟩ := hown.has
          have hlen := sched_length l k
          rw [hlen] at hv hc3
          subst hv
          obtain ⟨g, o, a16, rfl, hgW, ha16, d16⟩ := hh.spot (i := k - 16) (by omega)
          obtain ⟨g', o', a15, hA, _, ha15, d15⟩ := hh.spot (i := k - 15) (by omega)
          simp only [Option.some.injEq, Addr.mk.injEq, and_true] at hA
          obtain ⟨rfl, rfl⟩ := hA
          obtain ⟨g', o', a7, hA, _, ha7, d7⟩ := hh.spot (i := k - 7) (by omega)
          simp only [Option.some.injEq, Addr.mk.injEq, and_true] at hA
          obtain ⟨rfl, rfl⟩ := hA
          obtain ⟨g', o', a2, hA, _, ha2, d2⟩ := hh.spot (i := k - 2) (by omega)
          simp only [Option.some.injEq, Addr.mk.injEq, and_true] at hA
          obtain ⟨rfl, rfl⟩ := hA
          have l16 := sched_lt l k a16 (List.mem_of_getElem? ha16)
          have l15 := sched_lt l k a15 (List.mem_of_getElem? ha15)
          have l7 := sched_lt l k a7 (List.mem_of_getElem? ha7)
          have l2 := sched_lt l k a2 (List.mem_of_getElem? ha2)
          have HS := Lib.hid (sched_more l k a16 a15 a7 a2 hk16 ha16 ha15 ha7 ha2)
          clear hh ha16 ha15 ha7 ha2
          have r1 := rotr_lt a15 7
          have r2 := rotr_lt a15 18
          have r3 := rotr_lt a2 17
          have r4 := rotr_lt a2 19
          obtain ⟨y1, hy1⟩ : ∃ y, a15 >>> 3 = y := ⟨_, rfl⟩
          obtain ⟨y2, hy2⟩ : ∃ y, a2 >>> 10 = y := ⟨_, rfl⟩
          have ly1 : y1 < 4294967296 := by rw [← hy1]; exact shr32 _ l15
          have ly2 : y2 < 4294967296 := by rw [← hy2]; exact shr32 _ l2
          have e1 : (a15 : Int) / 8 = (y1 : Int) := by rw [← hy1, Nat.shiftRight_eq_div_pow]; omega
          have e2 : (a2 : Int) / 1024 = (y2 : Int) := by rw [← hy2, Nat.shiftRight_eq_div_pow]; omega
          have x1 := x64 r1 r2
          have x2 : bits .xor .u64 ((rotr a15 7 ^^^ rotr a15 18 : Nat) : Int) (y1 : Int) = (smallS0 a15 : Int) := by rw [← hy1]; exact x64 (xor32 r1 r2) (shr32 _ l15)
          have x3 := x64 r3 r4
          have x4 : bits .xor .u64 ((rotr a2 17 ^^^ rotr a2 19 : Nat) : Int) (y2 : Int) = (smallS1 a2 : Int) := by rw [← hy2]; exact x64 (xor32 r3 r4) (shr32 _ l2)
          have m1 := smallS0_lt l15
          have m2 := smallS1_lt l2
          clear hy1 hy2 r1 r2 r3 r4
          have q16 := IntWalk.i64_in ((k : Int) - 16) (by omega)
          have q15 := IntWalk.i64_in ((k : Int) - 15) (by omega)
          have q7 := IntWalk.i64_in ((k : Int) - 7) (by omega)
          have q2 := IntWalk.i64_in ((k : Int) - 2) (by omega)
          have t16 : ((k : Int) - 16).toNat = k - 16 := by omega
          have t15 : ((k : Int) - 15).toNat = k - 15 := by omega
          have t7 : ((k : Int) - 7).toNat = k - 7 := by omega
          have t2 : ((k : Int) - 2).toNat = k - 2 := by omega
          have p16 : 0 ≤ (k : Int) - 16 ∧ (k : Int) - 16 < (k : Int) := by omega
          have p15 : 0 ≤ (k : Int) - 15 ∧ (k : Int) - 15 < (k : Int) := by omega
          have p7 : 0 ≤ (k : Int) - 7 ∧ (k : Int) - 7 < (k : Int) := by omega
          have p2 : 0 ≤ (k : Int) - 2 ∧ (k : Int) - 2 < (k : Int) := by omega
          go_wp2_with fail
          go_quiet ((go_at_call 138; exact Calls.quiet_of_same (l1Turn_any _ _ _ (by assumption) (by decide) (by decide))))
          generalize nq = n1 at *
          go_wp2_with fail
          go_quiet ((go_at_call 138; exact quiet2 (l1Turn_any _ _ _ (by assumption) (by decide) (by decide))))
          generalize nq = n2 at *
          have hownW : OwnK .u64 137 ((wr.drewN n1).drewN n2) w.heap.size _ _ := hown
          have hbelW := below_draws (below_draws hbel n1) n2
          have d16W : ((wr.drewN n1).drewN n2).cell? _ = _ := d16
          have d7W : ((wr.drewN n1).drewN n2).cell? _ = _ := d7
          have hwsW : w.heap.size ≤ ((wr.drewN n1).drewN n2).heap.size := hws
          clear hown hbel d16 d15 d7 d2 q15 q2 t15 t2 p15 p2 x1 x2 x3 x4 e1 e2 hws hgW
          obtain ⟨z, hz⟩ : ∃ z, (a16 + smallS0 a15 + a7 + smallS1 a2) % 4294967296 = z := ⟨_, rfl⟩
          rw [hz] at HS
          generalize smallS0 a15 = S0 at *
          generalize smallS1 a2 = S1 at *
          have v1 : ((a16 : Int) + (S0 : Int) + (a7 : Int) + (S1 : Int)) % 4294967296 = (z : Int) := by omega
          have b1 : (a16 : Int) + (S0 : Int) + (a7 : Int) + (S1 : Int) < 18446744073709551616 := by omega
          have u1 := wrap64u ((a16 : Int) + (S0 : Int)) (by omega) (by omega)
          have u2 := wrap64u ((a16 : Int) + (S0 : Int) + (a7 : Int)) (by omega) (by omega)
          have u3' := wrap64u ((a16 : Int) + (S0 : Int) + (a7 : Int) + (S1 : Int)) (by omega) (by omega)
          have k16 : (16 : Int) ≤ (k : Int) := by omega
          have k7 : (7 : Int) ≤ (k : Int) := by omega
          clear hz
          go_wp2_with fail
          generalize (wr.drewN n1).drewN n2 = W2 at *
          go_region_law (first | (refine step_pushK .u64 144 137 Tryd.underlying144 hi hz0 hz1 hz2 rfl (.tmp 93) (.tmp 110) rfl w.heap.size _ (sched l k) rfl (by exact hownW.alloc _) ⟨W2.heap.size, 0, none⟩ z rfl (by exact World.news_of_block (heap_alloc_new W2 _) 0 _ rfl) (by omega) (by omega) (by simp; omega) ?_; intro g5 cap5 w5 ho5 hg5) | (go_simp; go_at_call 115; refine (l1Word_any _ _ (by omega) b1).mono ?_; rintro e w' ⟨rfl, rfl⟩))
          all_goals
            have hb5 : Below w.heap.size w w5 := ((hbelW.alloc hwsW (.cells #[.int .u64 (z : Int)] 137)).drew).grown hg5 (by simp; omega) (fun q hq => (World.ownsRow.lt hownW q hq).1)
            rw [← HS.out, hlen] at ho5
            clear hg5 hownW d16W d7W u1 u2 u3' v1 q16 q7 t16 t7 p16 p7
            go_wp2
            go_roundw
            case rel => exact ⟨k + 1, by omega, by omega, by go_num, ho5, hb5⟩
            case measure => simp [intOf]; omega
        · obtain rfl : k = 64 := by omega
          go_wp2
          go_ret
          exact ⟨_, rfl, hown, hbel⟩
end Go.Proofs.YtbejafbpipdbjaaDoor
