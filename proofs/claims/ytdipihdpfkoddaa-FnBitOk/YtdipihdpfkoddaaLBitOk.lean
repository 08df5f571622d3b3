/-
  DrawBitOk draws some bit number; the law FnBitOk returns true for every list of bytes. No condition.
-/
import Derived.Test.YtdipihdpfkoddaaDrawNum
import Derived.Test.YtdipihdpfkoddaaEaOk
namespace Go.Proofs.Ytdipihdpfkoddaa
open Go.RowKit

set_option maxHeartbeats 400000 in
theorem drawBitOk_any (A : Option Addr) (c : Nat) (l : List UInt8) (w : World) (hs : l.length ≤ 1073741824) (hc : l.length ≤ c) (h : Has w w.heap.size A l) :
    Calls Try.prog 6 #[.slice A l.length c] w fun e w' => ∃ n b : Int, e = .returned (.agg #[.int .i64 n, .int .i64 b]) ∧ Below w.heap.size w w' := by
  have h0 : Has (w.alloc (.cells #[.int .i64 0, .int .i64 0] 24)) (w.alloc (.cells #[.int .i64 0, .int .i64 0] 24)).heap.size A l := (h.kept fun p hp => World.cell?_of_block (Below.heap_alloc w _ p.block hp)).wider (by simp)
  have hb0 : Below w.heap.size w (w.alloc (.cells #[.int .i64 0, .int .i64 0] 24)) := (Below.refl _ w).alloc (Nat.le_refl _) _
  have hx0 : (w.alloc (.cells #[.int .i64 0, .int .i64 0] 24)).heap[w.heap.size]? = some (.cells #[.int .i64 0, .int .i64 0] 24 (0, 0)) := heap_alloc_new w _
  go_enter Try.func6, Try.ntmps6
  go_wp2_with fail
  generalize w.alloc (.cells #[.int .i64 0, .int .i64 0] 24) = w0 at *
  have hlt : w.heap.size < w0.heap.size := (Array.getElem?_eq_some_iff.1 hx0).1
  refine (l20Open_any A c l _ hs hc h0).mono ?_
  rintro e w1 ⟨rfl, hr, b1⟩
  have hx1 := (b1.block w.heap.size hlt).trans hx0
  have B1 : Below w.heap.size w w1 := hb0.trans (b1.mono (by omega))
  clear hb0 b1 hx0 h0 h hs hc
  go_wp2_with fail
  refine (l20Num_any _ 0 2 _ hr (by omega) (by omega) (by omega)).mono ?_
  rintro e w2 ⟨n, b, rfl, -, hg⟩
  have hx2 := (hg.block w.heap.size (Array.getElem?_eq_some_iff.1 hx1).1 (by simp; omega)).trans hx1
  have HB : Hid (Below w.heap.size w w2) := Lib.hid (below_of_grown B1 hg (by omega) B1.size)
  have r0 : w2.cell? ⟨w.heap.size, 0, none⟩ = some (.int .i64 0) := by rw [cell_of_row w2 _ 0 _ _ _ hx2]; rfl
  have r1 : w2.cell? ⟨w.heap.size, 1, none⟩ = some (.int .i64 0) := by rw [cell_of_row w2 _ 1 _ _ _ hx2]; rfl
  have q0 : w2.frozen? ⟨w.heap.size, 0, none⟩ = false := by simp [World.frozen?, hx2]
  have q1 : w2.frozen? ⟨w.heap.size, 1, none⟩ = false := by simp [World.frozen?, hx2]
  have HX := Lib.hid hx2
  clear hx1 hx2 hg hr B1 hlt
  go_wp2_with fail
  (try simp only [Exit.inBlock, Exit.then])
  refine bodyPost_ret (results_cell_row rfl _ _ w.heap.size 24 #[.int .i64 n, .int .i64 b] (0, 0) _ rfl (fin_row HX.out _ _) Try.underlying24 rfl (by kernel_rfl)) rfl ?_
  exact ⟨n, b, rfl, (HB.out.setCell (Nat.le_refl _) _).setCell (Nat.le_refl _) _⟩

theorem more_ok {n b : Int} (h : bitOkB n b = true) : bitOkB n (b + 1) = decide (b < 12) ∧ bitOkB (2 * n + 1) (b + 1) = decide (b < 12) := by
  obtain ⟨m, c, rfl, rfl, h1, h2, h3⟩ := bitOk_form0 h
  unfold bitOkB at h ⊢
  simp only [Bool.and_eq_true, decide_eq_true_eq, Int.toNat_natCast] at h
  have e : ((c : Int) + 1).toNat = c + 1 := by omega
  rw [e, Int.pow_succ]
  generalize (2 : Int) ^ c = P at *
  by_cases hc : (c : Int) < 12
  · rw [decide_eq_true hc, decide_eq_true (show 1 ≤ (c : Int) + 1 ∧ (c : Int) + 1 ≤ 12 by omega), decide_eq_true (by omega), decide_eq_true (by omega)]
    exact ⟨rfl, rfl⟩
  · rw [decide_eq_false hc, decide_eq_false (show ¬ (1 ≤ (c : Int) + 1 ∧ (c : Int) + 1 ≤ 12) by omega)]
    exact ⟨rfl, rfl⟩

set_option maxHeartbeats 2000000 in
theorem fnBitOk_small (A : Option Addr) (c : Nat) (l : List UInt8) (w : World) (h : Has w w.heap.size A l) (hc : l.length ≤ c) (hs : l.length ≤ 1048576) :
    Calls Try.prog 3 #[.slice A l.length c] w fun e w' => e = .returned (.bool true) ∧ Below w.heap.size w w' := by
  have hb : (l.length : Int) ≤ 1048576 := by omega
  go_enter Try.func3, Try.ntmps3
  go_wp2_with fail
  refine (drawBitOk_any A c l _ (by omega) hc h).mono ?_
  rintro e w1 ⟨n, b, rfl, B1⟩
  have z1 := B1.size
  have CI := Lib.hid (implBitOk_any n b)
  have CS := Lib.hid (specBitOk_any n b)
  have CM := Lib.hid (implBitOk_any n (b + 1))
  have CT := Lib.hid (implBitOk_any (2 * n + 1) (b + 1))
  unfold bnum at CI CS CM CT
  have hx : (w1.alloc (.cells #[.int .i64 n, .int .i64 b] 24)).heap[w1.heap.size]? = some (.cells #[.int .i64 n, .int .i64 b] 24 (0, 0)) := heap_alloc_new w1 _
  have HB0 := Lib.hid (B1.alloc z1 (.cells #[.int .i64 n, .int .i64 b] 24))
  have HX0 := Lib.hid hx
  clear h hc B1 hx
  go_wp2_with fail
  generalize w1.alloc (.cells #[.int .i64 n, .int .i64 b] 24) = w2 at *
  refine (CI.out _).mono ?_
  rintro e w3 ⟨rfl, b3⟩
  have HX3 := Lib.hid ((b3.block w1.heap.size (Array.getElem?_eq_some_iff.1 HX0.out).1).trans HX0.out)
  have HB3 := Lib.hid (HB0.out.trans (b3.mono HB0.out.size))
  have c0 : w3.cell? ⟨w1.heap.size, 0, none⟩ = some (.int .i64 n) := by rw [cell_of_row w3 _ 0 _ _ _ HX3.out]; rfl
  have c1 : w3.cell? ⟨w1.heap.size, 1, none⟩ = some (.int .i64 b) := by rw [cell_of_row w3 _ 1 _ _ _ HX3.out]; rfl
  clear b3 HX0 HB0
  go_wp2_with fail
  refine (CS.out _).mono ?_
  rintro e w4 ⟨rfl, b4⟩
  have HX4 := Lib.hid ((b4.block w1.heap.size (Array.getElem?_eq_some_iff.1 HX3.out).1).trans HX3.out)
  have HB4 := Lib.hid (HB3.out.trans (b4.mono HB3.out.size))
  have d0 : w4.cell? ⟨w1.heap.size, 0, none⟩ = some (.int .i64 n) := by rw [cell_of_row w4 _ 0 _ _ _ HX4.out]; rfl
  have d1 : w4.cell? ⟨w1.heap.size, 1, none⟩ = some (.int .i64 b) := by rw [cell_of_row w4 _ 1 _ _ _ HX4.out]; rfl
  clear b4 HX3 HB3 c0 c1 CI CS
  by_cases hok : bitOkB n b = true
  · obtain ⟨hm1, hm2⟩ := more_ok hok
    obtain ⟨m, q, hn, hq, hq1, hq2, hm3⟩ := bitOk_form0 hok
    rw [hm1] at CM
    rw [hm2] at CT
    rw [hok]
    clear hok hm1 hm2
    subst hn hq
    have hbb : (decide ((q : Int) < 12) == decide ((q : Int) < 12)) = true := beq_iff_eq.2 rfl
    have hm4 : (m : Int) < 4096 := by omega
    have hq3 : (q : Int) ≤ 12 := by omega
    generalize hD : decide ((q : Int) < 12) = D at *
    go_wp2_with fail
    refine (CM.out _).mono ?_
    rintro e w5 ⟨rfl, b5⟩
    have HX5 := Lib.hid ((b5.block w1.heap.size (Array.getElem?_eq_some_iff.1 HX4.out).1).trans HX4.out)
    have HB5 := Lib.hid (HB4.out.trans (b5.mono HB4.out.size))
    have e0 : w5.cell? ⟨w1.heap.size, 0, none⟩ = some (.int .i64 (m : Int)) := by rw [cell_of_row w5 _ 0 _ _ _ HX5.out]; rfl
    have e1 : w5.cell? ⟨w1.heap.size, 1, none⟩ = some (.int .i64 (q : Int)) := by rw [cell_of_row w5 _ 1 _ _ _ HX5.out]; rfl
    clear b5 HX4 HB4 d0 d1 CM
    go_wp2_with fail
    refine (CT.out _).mono ?_
    rintro e w6 ⟨rfl, b6⟩
    have HB6 := Lib.hid (HB5.out.trans (b6.mono HB5.out.size))
    clear b6 HX5 HB5 e0 e1 CT
    go_wp2_with fail
    go_ret
    exact ⟨rfl, HB6.out⟩
  · have hok' : bitOkB n b = false := by simpa using hok
    rw [hok']
    clear hok hok' CM CT d0 d1 HX4
    go_wp2_with fail
    refine (eaOk_any _).mono ?_
    rintro e w5 ⟨rfl, b5⟩
    have HB5 := Lib.hid (HB4.out.trans (b5.mono HB4.out.size))
    clear b5 HB4
    go_wp2_with fail
    go_ret
    exact ⟨rfl, HB5.out⟩

theorem fnBitOk_walk (A : Option Addr) (c : Nat) (l : List UInt8) (w : World) (h : Has w w.heap.size A l) (hc : l.length ≤ c) :
    Calls Try.prog 3 #[.slice A l.length c] w fun e w' => e = .returned (.bool true) ∧ Below w.heap.size w w' := by
  by_cases hbig : 1048576 < l.length
  · have hb : (1048576 : Int) < (l.length : Int) := by omega
    go_enter Try.func3, Try.ntmps3
    go_wp2
    go_ret
    exact ⟨rfl, Below.refl _ _⟩
  · exact fnBitOk_small A c l w h hc (by omega)
end Go.Proofs.Ytdipihdpfkoddaa
