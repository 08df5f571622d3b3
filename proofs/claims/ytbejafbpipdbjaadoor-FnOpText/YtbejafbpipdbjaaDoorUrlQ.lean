/-
  Whether bytes name an image, and whether a request is valid, of the program. Condition: the request's operations lie in memory; the table of ranges reads as the program's text lays it.
-/
import Derived.Test.YtbejafbpipdbjaaDoorUrlW
import Derived.Test.YtbejafbpipdbjaaDoorOpsI
namespace Go.Proofs.YtbejafbpipdbjaaDoor
set_option maxRecDepth 4000
open Go.RowKit

theorem all_snoc {l : List UInt8} {k : Nat} {x : UInt8} (hx : l[k]? = some x) (h : (l.take k).all nameB = true) (hn : nameB x = true) : (l.take (k + 1)).all nameB = true := by
  rw [List.take_add_one, hx, List.all_append, h]
  simp [hn]
theorem all_cut {l : List UInt8} {k : Nat} {x : UInt8} (hx : l[k]? = some x) (hn : nameB x = false) : l.all nameB = false := by
  cases e : l.all nameB
  · rfl
  · rw [List.all_eq_true] at e
    rw [e x (List.mem_of_getElem? hx)] at hn
    cases hn
set_option maxHeartbeats 1000000 in
theorem pathOk_any (p : List UInt8) (w : World) (hl : p.length ≤ 1073741824) : Calls Tryd.prog 53 #[.string (bs p)] w fun e w' => e = .returned (.bool (pathB p)) ∧ Below w.heap.size w w' := by
  obtain ⟨n, hn⟩ : ∃ n, p.length = n := ⟨_, rfl⟩
  have sz : (bs p).size = n := by rw [bs_size, hn]
  have HN := Lib.hid hn
  have CN := Lib.hid nameByteOk_any
  have AT := Lib.hid fun (u : World) (i : Nat) (x : UInt8) (hx : p[i]? = some x) => bs_at u p .i64 i x hx
  obtain ⟨q, hq⟩ : ∃ q, pathB p = q := ⟨_, rfl⟩
  have HQ := Lib.hid hq
  rw [hn] at hl
  rw [hq]
  clear hn hq
  by_cases h1 : (n : Int) < 1
  · obtain rfl : q = false := by rw [← HQ.out]; unfold pathB; rw [HN.out, decide_eq_false (by omega)]; rfl
    go_enter Tryd.func53, Tryd.ntmps53
    go_wp2_with fail
    go_ret
    exact ⟨rfl, Below.refl _ _⟩
  by_cases h6 : (n : Int) > 6
  · obtain rfl : q = false := by rw [← HQ.out]; unfold pathB; rw [HN.out, decide_eq_false (show ¬ n ≤ 6 by omega), Bool.false_and, Bool.and_false]
    go_enter Tryd.func53, Tryd.ntmps53
    go_wp2_with fail
    go_ret
    exact ⟨rfl, Below.refl _ _⟩
  have HP : Hid (pathB p = p.all nameB) := Lib.hid (by unfold pathB; rw [HN.out, decide_eq_true (show 1 ≤ n by omega), decide_eq_true (show n ≤ 6 by omega), Bool.true_and, Bool.true_and])
  go_enter Tryd.func53, Tryd.ntmps53
  go_wp2_with fail
  go_loopw [14] (fun v wr => ∃ k : Nat, k ≤ n ∧ v = .int .i64 (k : Int) ∧ (p.take k).all nameB = true ∧ Below w.heap.size w wr) (fun v _ => n - (intOf v).toNat)
  case atStart => exact ⟨0, Nat.zero_le _, rfl, rfl, Below.refl _ _⟩
  case round =>
    obtain ⟨k, hk, rfl, hal, hb⟩ := hrel
    have HAL := Lib.hid hal
    have HB := Lib.hid hb
    clear hal hb
    by_cases hlt : k < n
    · obtain ⟨x, hx⟩ : ∃ x, p[k]? = some x := ⟨_, List.getElem?_eq_getElem (by rw [HN.out]; exact hlt)⟩
      have at1 := fun u => AT.out u k x hx
      have HX := Lib.hid hx
      have hkI : (k : Int) < (n : Int) := by omega
      clear hx
      obtain ⟨z, hz⟩ : ∃ z, nameB x = z := ⟨_, rfl⟩
      have HZ := Lib.hid hz
      have CX := Lib.hid (CN.out x)
      rw [hz] at CX
      clear hz
      cases z
      · obtain rfl : q = false := by rw [← HQ.out, HP.out]; exact all_cut HX.out HZ.out
        go_wp2_with (go_at_call 77; refine (CX.out _).mono ?_; rintro e w' ⟨rfl, rfl⟩)
        go_ret
        exact ⟨rfl, HB.out⟩
      · have HS := Lib.hid (all_snoc HX.out HAL.out HZ.out)
        go_wp2_with (go_at_call 77; refine (CX.out _).mono ?_; rintro e w' ⟨rfl, rfl⟩)
        go_roundw
        case rel => exact ⟨k + 1, by omega, by go_num, HS.out, HB.out⟩
        case measure => simp [intOf]; omega
    · obtain rfl : k = n := by omega
      obtain rfl : q = true := by
        have := HAL.out
        rw [← HN.out, List.take_length] at this
        rw [← HQ.out, HP.out, this]
      go_wp2_with fail
      go_ret
      exact ⟨rfl, HB.out⟩
/-- A request as a value. -/
def askV (A : Option Addr) (n c : Nat) (p : List UInt8) (t : Int) : Value := .agg #[.slice A n c, .string (bs p), .int .i64 t]
set_option maxHeartbeats 1000000 in
theorem implAskOk_any (a : Ask) (A : Option Addr) (c : Nat) (w : World) (hs : a.ops.length ≤ 1073741824) (hp : a.path.length ≤ 1073741824) (hR : RangesIn w) (h : opE.Has w w.heap.size A a.ops) :
    Calls Tryd.prog 20 #[askV A a.ops.length c a.path a.till] w fun e w' => e = .returned (.bool (askB a)) ∧ Below w.heap.size w w' := by
  have hb0 : Below w.heap.size w (w.alloc (.cells #[.slice A a.ops.length c, .string (bs a.path), .int .i64 a.till] 39)) := (Below.refl _ w).alloc (Nat.le_refl _) _
  have hx0 : Box (w.alloc (.cells #[.slice A a.ops.length c, .string (bs a.path), .int .i64 a.till] 39)) w.heap.size #[.slice A a.ops.length c, .string (bs a.path), .int .i64 a.till] 39 := heap_alloc_new w _
  have h0 := h.carry hb0 (Nat.le_refl _) hb0.size
  have CO := Lib.hid (implOpsOk_any A c a.ops _ hs (hR.below hb0 hR.1) h0)
  have CP := Lib.hid fun u => pathOk_any a.path u hp
  have HX0 := Lib.hid hx0
  have HB0 := Lib.hid hb0
  obtain ⟨q, hq⟩ : ∃ q, askB a = q := ⟨_, rfl⟩
  have HQ : Hid ((opsB a.ops && (pathB a.path && inR a.till 0 9999)) = q) := Lib.hid hq
  rw [hq]
  obtain ⟨x, hx⟩ : ∃ x, opsB a.ops = x := ⟨_, rfl⟩
  obtain ⟨y, hy⟩ : ∃ y, pathB a.path = y := ⟨_, rfl⟩
  rw [hx] at CO HQ
  rw [hy] at CP HQ
  clear hx hy hq hs hp hR h hb0 hx0 h0
  unfold askV
  go_enter Tryd.func20, Tryd.ntmps20
  go_wp2_with fail
  refine CO.out.mono ?_
  rintro e w1 ⟨rfl, b1⟩
  have HX1 := Lib.hid (HX0.out.next b1)
  have HB1 := Lib.hid (HB0.out.trans (b1.mono HB0.out.size))
  have d1 := HX1.out.cell (i := 1) (v := .string (bs a.path)) rfl
  clear b1 HX0 HB0
  cases x
  · obtain rfl : q = false := HQ.out.symm
    go_wp2_with fail
    go_ret
    exact ⟨rfl, HB1.out⟩
  go_wp2_with fail
  refine (CP.out _).mono ?_
  rintro e w2 ⟨rfl, b2⟩
  have HX2 := Lib.hid (HX1.out.next b2)
  have HB2 := Lib.hid (HB1.out.trans (b2.mono HB1.out.size))
  have d2 := HX2.out.cell (i := 2) (v := .int .i64 a.till) rfl
  clear b2 HX1 HB1 d1
  cases y
  · obtain rfl : q = false := HQ.out.symm
    go_wp2_with fail
    go_ret
    exact ⟨rfl, HB2.out⟩
  by_cases k0 : 0 ≤ a.till
  · by_cases k9 : a.till ≤ 9999
    · obtain rfl : q = true := by rw [← HQ.out]; simp [inR, k0, k9]
      go_wp2_with fail
      go_ret
      exact ⟨rfl, HB2.out⟩
    · obtain rfl : q = false := by rw [← HQ.out]; simp [inR]; omega
      go_wp2_with fail
      go_ret
      exact ⟨by simp; omega, HB2.out⟩
  · obtain rfl : q = false := by rw [← HQ.out]; simp [inR]; omega
    go_wp2_with fail
    go_ret
    exact ⟨rfl, HB2.out⟩
end Go.Proofs.YtbejafbpipdbjaaDoor
