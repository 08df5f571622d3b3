/-
  The law FnOpBlur returns true for every list of bytes to draw from. Condition: the table of ranges reads as the program's text lays it.
-/
import Derived.Test.YtiemlakjallphaaDoorRanL
import Derived.Lib.MinMax
import Derived.Test.YtiemlakjallphaaDoorDrawOpA
import Derived.Test.YtiemlakjallphaaDoorEaC
import Derived.Test.YtiemlakjallphaaDoorRegK
import Derived.Test.YtiemlakjallphaaDoorRasS
import Derived.Test.YtiemlakjallphaaDoorPutO
namespace Go.Proofs.YtiemlakjallphaaDoor
set_option maxRecDepth 4000
open Go.RowKit

theorem map_one {l : List Px} {p : Px} {k : Nat} (hk : k < l.length) : (l.take k).map (fun _ => p) ++ [p] = (l.take (k + 1)).map fun _ => p := by
  rw [List.take_add_one, List.getElem?_eq_getElem hk, List.map_append]
  rfl
/-- Two places side by side. -/
def near (W i k : Nat) : Prop := (i % W ≤ k % W + 1 ∧ k % W ≤ i % W + 1) ∧ (i / W ≤ k / W + 1 ∧ k / W ≤ i / W + 1)
theorem blur_bound {r y : Ra} (hr : r.ok) (hy : blurR r = y) {k : Nat} {q : Px} (hq : y.p[k]? = some q) {lo hi : Int} (h : ∀ i p, r.p[i]? = some p → near r.w i k → lo ≤ p.g ∧ p.g ≤ hi) : lo ≤ q.g ∧ q.g ≤ hi := by
  subst hy
  obtain ⟨-, h1, h2, h3⟩ := ok_get (blurR_ok hr) hq
  rw [blurR_w] at h1 h2 h3
  rw [blurR_h] at h2
  rw [← h3, blurR_at r h1 h2]
  refine (mean_between h1 h2 lo hi).2.1 fun i j hi' hj' hx hy => ?_
  have hp := (hr.at hi' hj').1
  obtain ⟨e1, e2⟩ := place_div (W := r.w) (x := i) (y := j) hi'
  exact h _ _ hp ⟨by rw [e1]; exact hx, by rw [e2]; exact hy⟩
theorem plain_blur {r : Ra} (hr : r.ok) {p : Px} (hp : pixB p = true) : (eachR (fun _ => p) r).ok ∧ blurR (eachR (fun _ => p) r) = eachR (fun _ => p) r := by
  have h := eachR_ok (g := fun _ => p) hr fun _ _ => hp
  refine ⟨h, blur_plain h (p := p) fun x y hx hy => ?_⟩
  rw [eachR_w] at hx
  rw [eachR_h] at hy
  rw [eachR_at _ r hx hy]
theorem sq_small (a b : Nat) : (((a : Int) - b) * ((a : Int) - b) ≤ 1 → a ≤ b + 1 ∧ b ≤ a + 1) ∧ ((a ≤ b + 1 ∧ b ≤ a + 1) → ((a : Int) - b) * ((a : Int) - b) ≤ 1) := by
  constructor
  · intro h
    by_cases h1 : (a : Int) - b ≤ 1
    · by_cases h2 : -1 ≤ (a : Int) - b
      · omega
      · have : (2 : Int) * 2 ≤ (-((a : Int) - b)) * (-((a : Int) - b)) := Int.mul_le_mul (by omega) (by omega) (by omega) (by omega)
        rw [Int.neg_mul_neg] at this
        omega
    · have : (2 : Int) * 2 ≤ ((a : Int) - b) * ((a : Int) - b) := Int.mul_le_mul (by omega) (by omega) (by omega) (by omega)
      omega
  · intro h
    have : (a : Int) - b = -1 ∨ (a : Int) - b = 0 ∨ (a : Int) - b = 1 := by omega
    rcases this with e | e | e <;> rw [e] <;> decide
theorem sq_room {a b : Nat} (ha : a ≤ 36) (hb : b ≤ 36) : 0 ≤ ((a : Int) - b) * ((a : Int) - b) ∧ ((a : Int) - b) * ((a : Int) - b) ≤ 1296 := by
  have h : ∀ z : Int, -36 ≤ z → z ≤ 36 → 0 ≤ z * z ∧ z * z ≤ 1296 := fun z h1 h2 => by
    by_cases h0 : 0 ≤ z
    · exact ⟨Int.mul_nonneg h0 h0, Int.le_trans (Int.mul_le_mul h2 h2 h0 (by omega)) (by omega)⟩
    · have e : z * z = -z * -z := (Int.neg_mul_neg z z).symm
      rw [e]
      exact ⟨Int.mul_nonneg (by omega) (by omega), Int.le_trans (Int.mul_le_mul (c := 36) (d := 36) (by omega) (by omega) (by omega) (by omega)) (by omega)⟩
  exact h _ (by omega) (by omega)
set_option maxHeartbeats 8000000 in
theorem fnOpBlur_small (A : Option Addr) (c : Nat) (l : List UInt8) (w : World) (hR : RangesIn w) (h : Has w w.heap.size A l) (hc : l.length ≤ c) (hs : l.length ≤ 1048576) :
    Calls Tryd.prog 5 #[.slice A l.length c] w fun e w' => e = .returned (.bool true) ∧ Below w.heap.size w w' := by
  have C1 := Lib.hid (drawOpDo_any A c l w (by omega) hc h)
  have HRW := Lib.hid hR
  have hl0 : ¬ ((1048576 : Int) < (l.length : Int)) := by omega
  clear h hs hc hR
  go_enter Tryd.func5, Tryd.ntmps5
  go_wp2_with fail
  refine C1.out.mono ?_
  rintro e w1 ⟨W, H, A1, c1, l1, q, rfl, hh1, hc1, hl1, B1⟩
  have CSK := Lib.hid fun u hh => specRasOk_any W H A1 c1 l1 u (by omega) hh
  have CIK := Lib.hid fun u hh => implRasOk_any W H A1 c1 l1 u (by omega) hh
  unfold rasV at CSK CIK ⊢
  unfold Op.v
  have b2 : Below w1.heap.size w1 (((((w1.alloc (.cells #[.int .i64 W, .int .i64 H, .slice A1 l1.length c1] 25)).alloc (.cells #[.int .i64 q.k, .int .i64 q.a, .int .i64 q.b, .int .i64 q.c, .int .i64 q.d] 27)).alloc (.cells #[.int .i64 6, .int .i64 0, .int .i64 0, .int .i64 0, .int .i64 0] 27)).alloc (.cells #[.int .i64 4, .int .i64 0, .int .i64 0, .int .i64 0, .int .i64 0] 27)).alloc (.cells #[.int .i64 2, .int .i64 0, .int .i64 0, .int .i64 0, .int .i64 0] 27)) := (((((Below.refl _ w1).alloc (Nat.le_refl _) _).alloc (by simp) _).alloc (by simp; omega) _).alloc (by simp; omega) _).alloc (by simp; omega) _
  have HRb2 : Hid (RasAtB (((((w1.alloc (.cells #[.int .i64 W, .int .i64 H, .slice A1 l1.length c1] 25)).alloc (.cells #[.int .i64 q.k, .int .i64 q.a, .int .i64 q.b, .int .i64 q.c, .int .i64 q.d] 27)).alloc (.cells #[.int .i64 6, .int .i64 0, .int .i64 0, .int .i64 0, .int .i64 0] 27)).alloc (.cells #[.int .i64 4, .int .i64 0, .int .i64 0, .int .i64 0, .int .i64 0] 27)).alloc (.cells #[.int .i64 2, .int .i64 0, .int .i64 0, .int .i64 0, .int .i64 0] 27)) w1.heap.size W H A1 l1.length c1 25) := Lib.hid (Box.alloc (Box.alloc (Box.alloc (Box.alloc (Box.new w1 _ _) _) _) _) _)
  have HObO2 : Hid (OpAtB (((((w1.alloc (.cells #[.int .i64 W, .int .i64 H, .slice A1 l1.length c1] 25)).alloc (.cells #[.int .i64 q.k, .int .i64 q.a, .int .i64 q.b, .int .i64 q.c, .int .i64 q.d] 27)).alloc (.cells #[.int .i64 6, .int .i64 0, .int .i64 0, .int .i64 0, .int .i64 0] 27)).alloc (.cells #[.int .i64 4, .int .i64 0, .int .i64 0, .int .i64 0, .int .i64 0] 27)).alloc (.cells #[.int .i64 2, .int .i64 0, .int .i64 0, .int .i64 0, .int .i64 0] 27)) (w1.heap.size + 1 + 1) bO) := Lib.hid (Box.alloc (Box.alloc (by
      have := Box.new ((w1.alloc (.cells #[.int .i64 W, .int .i64 H, .slice A1 l1.length c1] 25)).alloc (.cells #[.int .i64 q.k, .int .i64 q.a, .int .i64 q.b, .int .i64 q.c, .int .i64 q.d] 27)) #[.int .i64 6, .int .i64 0, .int .i64 0, .int .i64 0, .int .i64 0] 27
      rw [show ((w1.alloc (.cells #[.int .i64 W, .int .i64 H, .slice A1 l1.length c1] 25)).alloc (.cells #[.int .i64 q.k, .int .i64 q.a, .int .i64 q.b, .int .i64 q.c, .int .i64 q.d] 27)).heap.size = w1.heap.size + 1 + 1 from by simp] at this
      exact this) _) _)
  have HOtO2 : Hid (OpAtB (((((w1.alloc (.cells #[.int .i64 W, .int .i64 H, .slice A1 l1.length c1] 25)).alloc (.cells #[.int .i64 q.k, .int .i64 q.a, .int .i64 q.b, .int .i64 q.c, .int .i64 q.d] 27)).alloc (.cells #[.int .i64 6, .int .i64 0, .int .i64 0, .int .i64 0, .int .i64 0] 27)).alloc (.cells #[.int .i64 4, .int .i64 0, .int .i64 0, .int .i64 0, .int .i64 0] 27)).alloc (.cells #[.int .i64 2, .int .i64 0, .int .i64 0, .int .i64 0, .int .i64 0] 27)) (w1.heap.size + 1 + 1 + 1) tO) := Lib.hid (Box.alloc (by
      have := Box.new (((w1.alloc (.cells #[.int .i64 W, .int .i64 H, .slice A1 l1.length c1] 25)).alloc (.cells #[.int .i64 q.k, .int .i64 q.a, .int .i64 q.b, .int .i64 q.c, .int .i64 q.d] 27)).alloc (.cells #[.int .i64 6, .int .i64 0, .int .i64 0, .int .i64 0, .int .i64 0] 27)) #[.int .i64 4, .int .i64 0, .int .i64 0, .int .i64 0, .int .i64 0] 27
      rw [show (((w1.alloc (.cells #[.int .i64 W, .int .i64 H, .slice A1 l1.length c1] 25)).alloc (.cells #[.int .i64 q.k, .int .i64 q.a, .int .i64 q.b, .int .i64 q.c, .int .i64 q.d] 27)).alloc (.cells #[.int .i64 6, .int .i64 0, .int .i64 0, .int .i64 0, .int .i64 0] 27)).heap.size = w1.heap.size + 1 + 1 + 1 from by simp] at this
      exact this) _)
  have HOxO2 : Hid (OpAtB (((((w1.alloc (.cells #[.int .i64 W, .int .i64 H, .slice A1 l1.length c1] 25)).alloc (.cells #[.int .i64 q.k, .int .i64 q.a, .int .i64 q.b, .int .i64 q.c, .int .i64 q.d] 27)).alloc (.cells #[.int .i64 6, .int .i64 0, .int .i64 0, .int .i64 0, .int .i64 0] 27)).alloc (.cells #[.int .i64 4, .int .i64 0, .int .i64 0, .int .i64 0, .int .i64 0] 27)).alloc (.cells #[.int .i64 2, .int .i64 0, .int .i64 0, .int .i64 0, .int .i64 0] 27)) (w1.heap.size + 1 + 1 + 1 + 1) xO) := Lib.hid (by
      have := Box.new ((((w1.alloc (.cells #[.int .i64 W, .int .i64 H, .slice A1 l1.length c1] 25)).alloc (.cells #[.int .i64 q.k, .int .i64 q.a, .int .i64 q.b, .int .i64 q.c, .int .i64 q.d] 27)).alloc (.cells #[.int .i64 6, .int .i64 0, .int .i64 0, .int .i64 0, .int .i64 0] 27)).alloc (.cells #[.int .i64 4, .int .i64 0, .int .i64 0, .int .i64 0, .int .i64 0] 27)) #[.int .i64 2, .int .i64 0, .int .i64 0, .int .i64 0, .int .i64 0] 27
      rw [show ((((w1.alloc (.cells #[.int .i64 W, .int .i64 H, .slice A1 l1.length c1] 25)).alloc (.cells #[.int .i64 q.k, .int .i64 q.a, .int .i64 q.b, .int .i64 q.c, .int .i64 q.d] 27)).alloc (.cells #[.int .i64 6, .int .i64 0, .int .i64 0, .int .i64 0, .int .i64 0] 27)).alloc (.cells #[.int .i64 4, .int .i64 0, .int .i64 0, .int .i64 0, .int .i64 0] 27)).heap.size = w1.heap.size + 1 + 1 + 1 + 1 from by simp] at this
      exact this)
  have HH2 := Lib.hid (hh1.carry b2 (Nat.le_refl _) b2.size)
  have HB2 := Lib.hid (B1.trans (b2.mono B1.size))
  clear b2 hh1 B1 C1
  go_wp2_with fail
  generalize (((((w1.alloc (.cells #[.int .i64 W, .int .i64 H, .slice A1 l1.length c1] 25)).alloc (.cells #[.int .i64 q.k, .int .i64 q.a, .int .i64 q.b, .int .i64 q.c, .int .i64 q.d] 27)).alloc (.cells #[.int .i64 6, .int .i64 0, .int .i64 0, .int .i64 0, .int .i64 0] 27)).alloc (.cells #[.int .i64 4, .int .i64 0, .int .i64 0, .int .i64 0, .int .i64 0] 27)).alloc (.cells #[.int .i64 2, .int .i64 0, .int .i64 0, .int .i64 0, .int .i64 0] 27)) = w2 at *
  have r0 := HRb2.out.c0
  have r1 := HRb2.out.c1
  have r2 := HRb2.out.c2
  go_wp2_with fail
  refine (CSK.out _ HH2.out).mono ?_
  rintro e w3 ⟨rfl, b3⟩
  have HRb3 := Lib.hid (HRb2.out.below b3 HRb2.out.lt)
  have HObO3 : Hid (OpAtB w3 (w1.heap.size + 1 + 1) bO) := Lib.hid (Box.below HObO2.out b3 (Box.lt HObO2.out))
  have HOtO3 : Hid (OpAtB w3 (w1.heap.size + 1 + 1 + 1) tO) := Lib.hid (Box.below HOtO2.out b3 (Box.lt HOtO2.out))
  have HOxO3 : Hid (OpAtB w3 (w1.heap.size + 1 + 1 + 1 + 1) xO) := Lib.hid (Box.below HOxO2.out b3 (Box.lt HOxO2.out))
  have HH3 := Lib.hid (HH2.out.carry b3 (Nat.le_refl _) b3.size)
  have HB3 := Lib.hid (HB2.out.trans (b3.mono HB2.out.size))
  have HR3 := Lib.hid (HRW.out.below HB3.out HRW.out.1)
  clear b3 r0 r1 r2 HRb2 HObO2 HOtO2 HOxO2 HH2 HB2 CSK
  cases hok : rasB W H l1
  · have CK := Lib.hid (CIK.out w3 HH3.out)
    rw [hok] at CK
    have r0 := HRb3.out.c0
    have r1 := HRb3.out.c1
    have r2 := HRb3.out.c2
    clear hok
    go_wp2_with fail
    refine CK.out.mono ?_
    rintro e w4 ⟨rfl, b4⟩
    have HB4 := Lib.hid (HB3.out.trans (b4.mono HB3.out.size))
    clear b4
    go_wp2_with fail
    refine (eaOk_any _).mono ?_
    rintro e w5 ⟨rfl, b5⟩
    have HB5 := Lib.hid (HB4.out.trans (b5.mono HB4.out.size))
    clear b5
    go_wp2_with fail
    go_ret
    exact ⟨rfl, HB5.out⟩
  obtain ⟨r, rfl, rfl, rfl⟩ : ∃ r : Ra, W = (r.w : Int) ∧ H = (r.h : Int) ∧ l1 = r.p := by
    obtain ⟨hW, hH, -, -⟩ := rasB_parts hok
    exact ⟨⟨W.toNat, H.toNat, l1⟩, by simp only; omega, by simp only; omega, rfl⟩
  have hr : r.ok := hok
  have HRP := Lib.hid hr.parts
  clear hok CIK hl1
  have HRr3 := HRb3
  have HHr3 := HH3
  have HRT3 := HR3
  clear HRb3 HH3 HR3
  have rc0 := RasAtB.c0 HRr3.out
  have rc1 := RasAtB.c1 HRr3.out
  have rc2 := RasAtB.c2 HRr3.out
  obtain ⟨bOe0, bOe1, bOe2, bOe3, bOe4⟩ := OpAtB.cs HObO3.out
  have CE4 : Hid (Calls Tryd.prog 20 #[.agg #[.int .i64 (r.w : Int), .int .i64 (r.h : Int), .slice A1 r.p.length c1], .slice (some ⟨w3.heap.size, 0, none⟩) 1 1] (w3.alloc (.cells #[.int .i64 bO.k, .int .i64 bO.a, .int .i64 bO.b, .int .i64 bO.c, .int .i64 bO.d] 27)) (EaDid (blurR r) (w3.alloc (.cells #[.int .i64 bO.k, .int .i64 bO.a, .int .i64 bO.b, .int .i64 bO.c, .int .i64 bO.d] 27)))) := Lib.hid (by
    have bbel : Below w3.heap.size w3 (w3.alloc (.cells #[.int .i64 bO.k, .int .i64 bO.a, .int .i64 bO.b, .int .i64 bO.c, .int .i64 bO.d] 27)) := ((Below.refl w3.heap.size w3).alloc (Nat.le_refl _) _)
    have hlst : opE.Has (w3.alloc (.cells #[.int .i64 bO.k, .int .i64 bO.a, .int .i64 bO.b, .int .i64 bO.c, .int .i64 bO.d] 27)) (w3.alloc (.cells #[.int .i64 bO.k, .int .i64 bO.a, .int .i64 bO.b, .int .i64 bO.c, .int .i64 bO.d] 27)).heap.size (some ⟨w3.heap.size, 0, none⟩) [bO] := by
      have := El.Has.laid opE w3 [bO] 27
      exact this.wider (by simp)
    have := eaDo_any r A1 c1 (some ⟨w3.heap.size, 0, none⟩) 1 [bO] _ hr (can_b can_nil) (HRT3.out.next bbel) hc1 (HHr3.out.carry bbel (Nat.le_refl _) bbel.size) hlst (by simp)
    rw [ea_b hr, eaR_nil] at this
    exact this)
  go_wp2_with fail
  refine CE4.out.mono ?_
  rintro e w4 ⟨v4, rfl, ⟨A4, c4, rfl, hc4, hh4⟩, b4⟩
  clear CE4
  clear rc0 rc1 rc2 bOe0 bOe1 bOe2 bOe3 bOe4
  obtain ⟨y, hy⟩ : ∃ s, blurR r = s := ⟨_, rfl⟩
  rw [hy] at hc4 hh4 ⊢
  have HEy := Lib.hid hy
  clear hy
  unfold raV rasV
  have bb4 : Below w3.heap.size w3 w4 := (((Below.refl w3.heap.size w3).alloc (Nat.le_refl _) (.cells #[.int .i64 bO.k, .int .i64 bO.a, .int .i64 bO.b, .int .i64 bO.c, .int .i64 bO.d] 27))).trans (b4.mono (((Below.refl w3.heap.size w3).alloc (Nat.le_refl _) (.cells #[.int .i64 bO.k, .int .i64 bO.a, .int .i64 bO.b, .int .i64 bO.c, .int .i64 bO.d] 27))).size)
  have bc4 : Below w3.heap.size w3 w4 := ((Below.refl w3.heap.size w3)).trans (bb4.mono ((Below.refl w3.heap.size w3)).size)
  have HRr4 : Hid (RasAtB w4 (w1.heap.size) r.w r.h A1 r.p.length c1 25) := Lib.hid (Box.below HRr3.out bc4 (RasAtB.lt HRr3.out))
  have HHr4 : Hid (HasP w4 w4.heap.size A1 r.p) := Lib.hid (HHr3.out.carry bc4 (Nat.le_refl _) bc4.size)
  have HObO4 : Hid (OpAtB w4 (w1.heap.size + 1 + 1) bO) := Lib.hid (Box.below HObO3.out bc4 (Box.lt HObO3.out))
  have HOtO4 : Hid (OpAtB w4 (w1.heap.size + 1 + 1 + 1) tO) := Lib.hid (Box.below HOtO3.out bc4 (Box.lt HOtO3.out))
  have HOxO4 : Hid (OpAtB w4 (w1.heap.size + 1 + 1 + 1 + 1) xO) := Lib.hid (Box.below HOxO3.out bc4 (Box.lt HOxO3.out))
  have HB4 := Lib.hid (HB3.out.trans (bc4.mono HB3.out.size))
  have HRT4 : Hid (RangesIn w4) := Lib.hid (HRT3.out.next bc4)
  clear HRr3 HHr3 HObO3 HOtO3 HOxO3 HB3 HRT3
  clear bb4 bc4
  have HHy4 : Hid (HasP w4 w4.heap.size A4 y.p) := Lib.hid hh4
  clear hh4 b4
  have HRy4 : Hid (RasAtB (w4.alloc (.cells #[.int .i64 (y.w : Int), .int .i64 (y.h : Int), .slice A4 y.p.length c4] 25)) (w4.heap.size) y.w y.h A4 y.p.length c4 25) := Lib.hid (Box.new w4 _ _)
  have rc0 := RasAtB.c0 HRr4.out
  have rc1 := RasAtB.c1 HRr4.out
  have rc2 := RasAtB.c2 HRr4.out
  obtain ⟨bOe0, bOe1, bOe2, bOe3, bOe4⟩ := OpAtB.cs HObO4.out
  have rn0 : w1.heap.size < w4.heap.size := by have := RasAtB.lt HRr4.out; omega
  have bOn0 : w1.heap.size + 1 + 1 < w4.heap.size := by have := Box.lt HObO4.out; omega
  have CE5 : Hid (Calls Tryd.prog 13 #[.agg #[.int .i64 (r.w : Int), .int .i64 (r.h : Int), .slice A1 r.p.length c1], .agg #[.int .i64 bO.k, .int .i64 bO.a, .int .i64 bO.b, .int .i64 bO.c, .int .i64 bO.d]] (w4.alloc (.cells #[.int .i64 (y.w : Int), .int .i64 (y.h : Int), .slice A4 y.p.length c4] 25)) (Did (some (blurR r)) (w4.alloc (.cells #[.int .i64 (y.w : Int), .int .i64 (y.h : Int), .slice A4 y.p.length c4] 25)))) := Lib.hid (by
    have bbel : Below w4.heap.size w4 (w4.alloc (.cells #[.int .i64 (y.w : Int), .int .i64 (y.h : Int), .slice A4 y.p.length c4] 25)) := ((Below.refl w4.heap.size w4).alloc (Nat.le_refl _) _)
    exact by
      have := specOpDo_good r A1 c1 bO ((w4.alloc (.cells #[.int .i64 (y.w : Int), .int .i64 (y.h : Int), .slice A4 y.p.length c4] 25))) hr rfl hc1 (HHr4.out.carry bbel (Nat.le_refl _) bbel.size)
      rw [doR_6 r rfl] at this
      exact this)
  unfold Did at CE5
  go_wp2_with fail
  refine CE5.out.mono ?_
  rintro e w5 ⟨A5, c5, rfl, hc5, hh5, b5⟩
  clear CE5
  clear rc0 rc1 rc2 bOe0 bOe1 bOe2 bOe3 bOe4 rn0 bOn0
  obtain ⟨wan, hwan⟩ : ∃ s, blurR r = s := ⟨_, rfl⟩
  simp only [Option.getD_some, Option.isSome_some] at hc5 hh5 ⊢
  have hh5 := hh5.reads
  rw [hwan] at hc5 hh5 ⊢
  have HEwan := Lib.hid hwan
  clear hwan
  try unfold raV rasV
  have bc5 : Below w4.heap.size w4 w5 := (((Below.refl w4.heap.size w4).alloc (Nat.le_refl _) _)).trans (b5.mono (((Below.refl w4.heap.size w4).alloc (Nat.le_refl _) _)).size)
  have HRy5 : Hid (RasAtB w5 (w4.heap.size) y.w y.h A4 y.p.length c4 25) := Lib.hid (Box.below HRy4.out b5 (RasAtB.lt HRy4.out))
  have HHy5 : Hid (HasP w5 w5.heap.size A4 y.p) := Lib.hid (HHy4.out.carry bc5 (Nat.le_refl _) bc5.size)
  have HRr5 : Hid (RasAtB w5 (w1.heap.size) r.w r.h A1 r.p.length c1 25) := Lib.hid (Box.below HRr4.out bc5 (RasAtB.lt HRr4.out))
  have HHr5 : Hid (HasP w5 w5.heap.size A1 r.p) := Lib.hid (HHr4.out.carry bc5 (Nat.le_refl _) bc5.size)
  have HObO5 : Hid (OpAtB w5 (w1.heap.size + 1 + 1) bO) := Lib.hid (Box.below HObO4.out bc5 (Box.lt HObO4.out))
  have HOtO5 : Hid (OpAtB w5 (w1.heap.size + 1 + 1 + 1) tO) := Lib.hid (Box.below HOtO4.out bc5 (Box.lt HOtO4.out))
  have HOxO5 : Hid (OpAtB w5 (w1.heap.size + 1 + 1 + 1 + 1) xO) := Lib.hid (Box.below HOxO4.out bc5 (Box.lt HOxO4.out))
  have HB5 := Lib.hid (HB4.out.trans (bc5.mono HB4.out.size))
  have HRT5 : Hid (RangesIn w5) := Lib.hid (HRT4.out.next bc5)
  clear HRr4 HHr4 HRy4 HHy4 HObO4 HOtO4 HOxO4 HB4 HRT4
  clear bc5
  have HHwan5 : Hid (HasP w5 w5.heap.size A5 wan.p) := Lib.hid hh5
  clear hh5 b5
  have HRwan5 : Hid (RasAtB (w5.alloc (.cells #[.int .i64 (wan.w : Int), .int .i64 (wan.h : Int), .slice A5 wan.p.length c5] 25)) (w5.heap.size) wan.w wan.h A5 wan.p.length c5 25) := Lib.hid (Box.new w5 _ _)
  obtain rfl : y = wan := by rw [← HEy.out]; exact HEwan.out
  clear HEwan
  have HBN6 : Hid (Below w5.heap.size w5 (w5.alloc (.cells #[.int .i64 (y.w : Int), .int .i64 (y.h : Int), .slice A5 y.p.length c5] 25))) := Lib.hid ((Below.refl w5.heap.size w5).alloc (Nat.le_refl _) _)
  go_wp2_with fail
  generalize w5.alloc (.cells #[.int .i64 (y.w : Int), .int .i64 (y.h : Int), .slice A5 y.p.length c5] 25) = w6 at *
  have b6 := HBN6.out
  have HRwan6 : Hid (RasAtB w6 (w5.heap.size) y.w y.h A5 y.p.length c5 25) := HRwan5
  have HHwan6 : Hid (HasP w6 w6.heap.size A5 y.p) := Lib.hid (HHwan5.out.carry b6 (Nat.le_refl _) b6.size)
  have HRr6 : Hid (RasAtB w6 (w1.heap.size) r.w r.h A1 r.p.length c1 25) := Lib.hid (Box.below HRr5.out b6 (RasAtB.lt HRr5.out))
  have HHr6 : Hid (HasP w6 w6.heap.size A1 r.p) := Lib.hid (HHr5.out.carry b6 (Nat.le_refl _) b6.size)
  have HRy6 : Hid (RasAtB w6 (w4.heap.size) y.w y.h A4 y.p.length c4 25) := Lib.hid (Box.below HRy5.out b6 (RasAtB.lt HRy5.out))
  have HHy6 : Hid (HasP w6 w6.heap.size A4 y.p) := Lib.hid (HHy5.out.carry b6 (Nat.le_refl _) b6.size)
  have HObO6 : Hid (OpAtB w6 (w1.heap.size + 1 + 1) bO) := Lib.hid (Box.below HObO5.out b6 (Box.lt HObO5.out))
  have HOtO6 : Hid (OpAtB w6 (w1.heap.size + 1 + 1 + 1) tO) := Lib.hid (Box.below HOtO5.out b6 (Box.lt HOtO5.out))
  have HOxO6 : Hid (OpAtB w6 (w1.heap.size + 1 + 1 + 1 + 1) xO) := Lib.hid (Box.below HOxO5.out b6 (Box.lt HOxO5.out))
  have HB6 := Lib.hid (HB5.out.trans (b6.mono HB5.out.size))
  have HRT6 : Hid (RangesIn w6) := Lib.hid (HRT5.out.next b6)
  clear HRr5 HHr5 HRy5 HHy5 HRwan5 HHwan5 HObO5 HOtO5 HOxO5 HB5 HRT5
  clear b6 HBN6
  have hyo : y.ok := by rw [← HEy.out]; exact blurR_ok hr
  have HOK := Lib.hid hr
  have HYO := Lib.hid hyo
  have HLR := Lib.hid (ra_len hr)
  have hyl : y.p.length = r.p.length := by rw [hyo.parts.2.2.1, hr.parts.2.2.1, ← HEy.out]; rfl
  have HYL := Lib.hid hyl
  have hW := hr.parts.1
  clear hr hyo hyl
  have hbd : Below w6.heap.size w6 w6.drew := below_draws (Below.refl _ _) 1
  have hRrb : RasAtB w6.drew (w1.heap.size) r.w r.h A1 r.p.length c1 25 := Box.below HRr6.out hbd (RasAtB.lt HRr6.out)
  have hHrb : HasP w6.drew w6.drew.heap.size A1 r.p := HHr6.out.carry hbd (Nat.le_refl _) hbd.size
  have hRyb : RasAtB w6.drew (w4.heap.size) y.w y.h A4 y.p.length c4 25 := Box.below HRy6.out hbd (RasAtB.lt HRy6.out)
  have hHyb : HasP w6.drew w6.drew.heap.size A4 y.p := HHy6.out.carry hbd (Nat.le_refl _) hbd.size
  have hRwanb : RasAtB w6.drew (w5.heap.size) y.w y.h A5 y.p.length c5 25 := Box.below HRwan6.out hbd (RasAtB.lt HRwan6.out)
  have hHwanb : HasP w6.drew w6.drew.heap.size A5 y.p := HHwan6.out.carry hbd (Nat.le_refl _) hbd.size
  have hObOb : OpAtB w6.drew (w1.heap.size + 1 + 1) bO := Box.below HObO6.out hbd (Box.lt HObO6.out)
  have hOtOb : OpAtB w6.drew (w1.heap.size + 1 + 1 + 1) tO := Box.below HOtO6.out hbd (Box.lt HOtO6.out)
  have hOxOb : OpAtB w6.drew (w1.heap.size + 1 + 1 + 1 + 1) xO := Box.below HOxO6.out hbd (Box.lt HOxO6.out)
  have hRTb : RangesIn w6.drew := HRT6.out.next hbd
  refine wp_region_kd 174 [48, 49, 50, 51, 52, 53, 54, 55, 56, 57, 58, 59, 60, 61, 62, 63, 64, 65, 66, 67, 68, 69, 70, 71, 72, 73, 74, 75, 76, 77] [(48, .ras y), (49, .ras y), (50, .is (.bool true)), (51, .is (.bool false)), (52, .is (.bool false)), (53, .ras y), (54, .is (tO.v)), (55, .ops [tO]), (56, .ras (eaR y [tO])), (57, .ras r), (58, .is (tO.v)), (59, .is (bO.v)), (60, .ops [tO, bO]), (61, .ras (eaR r [tO, bO])), (62, .is (.bool true)), (63, .is (.bool false)), (64, .is (.bool false)), (65, .is (.bool false)), (66, .ras y), (67, .is (xO.v)), (68, .ops [xO]), (69, .ras (eaR y [xO])), (70, .ras r), (71, .is (xO.v)), (72, .is (bO.v)), (73, .ops [xO, bO]), (74, .ras (eaR r [xO, bO])), (75, .is (.bool true)), (76, .is (.bool false)), (77, .is (.bool false))] (Below w6.drew.heap.size w6.drew) (by kernel_rfl) (by kernel_rfl) rfl rfl (by decide) (by decide) rfl rfl (Below.refl _ _) ?_ ?_
  · intro i o V w ho hS hV hd
    have hi : i < 30 := (Array.getElem?_eq_some_iff.1 ho).1
    have hi2 : i = 0 ∨ i = 1 ∨ i = 2 ∨ i = 3 ∨ i = 4 ∨ i = 5 ∨ i = 6 ∨ i = 7 ∨ i = 8 ∨ i = 9 ∨ i = 10 ∨ i = 11 ∨ i = 12 ∨ i = 13 ∨ i = 14 ∨ i = 15 ∨ i = 16 ∨ i = 17 ∨ i = 18 ∨ i = 19 ∨ i = 20 ∨ i = 21 ∨ i = 22 ∨ i = 23 ∨ i = 24 ∨ i = 25 ∨ i = 26 ∨ i = 27 ∨ i = 28 ∨ i = 29 := by omega
    clear hi
    rcases hi2 with rfl | rfl | rfl | rfl | rfl | rfl | rfl | rfl | rfl | rfl | rfl | rfl | rfl | rfl | rfl | rfl | rfl | rfl | rfl | rfl | rfl | rfl | rfl | rfl | rfl | rfl | rfl | rfl | rfl | rfl
    · obtain rfl : _ = o := Option.some.inj ((show _ = some _ from rfl).symm.trans ho)
      have x8 : V 8 = .pointer (some ⟨w4.heap.size, 0, none⟩) := (hV 8 (by simp)).trans rfl
      refine ⟨fun _ => ?_, fun hw => absurd (show true = false from hw) (by decide)⟩
      · exact yield_ras rfl ((frame_eval V (by decide)).trans x8) hRyb hc4 hHyb hS
    · obtain rfl : _ = o := Option.some.inj ((show _ = some _ from rfl).symm.trans ho)
      have x9 : V 9 = .pointer (some ⟨w5.heap.size, 0, none⟩) := (hV 9 (by simp)).trans rfl
      refine ⟨fun _ => ?_, fun hw => absurd (show true = false from hw) (by decide)⟩
      · exact yield_ras rfl ((frame_eval V (by decide)).trans x9) hRwanb hc5 hHwanb hS
    · obtain rfl : _ = o := Option.some.inj ((show _ = some _ from rfl).symm.trans ho)
      have d0 : IsRa y w (V 48) := hd ⟨0, .data⟩ (by simp) rfl
      have d1 : IsRa y w (V 49) := hd ⟨1, .data⟩ (by simp) rfl
      refine ⟨fun _ => ?_, fun hw => absurd (show true = false from hw) (by decide)⟩
      · exact yield_eaRas rfl (frame_eval V (by decide)) (frame_eval V (by decide)) d0 d1 HYO.out rfl hS
    · obtain rfl : _ = o := Option.some.inj ((show _ = some _ from rfl).symm.trans ho)
      have d2 : V 50 = .bool true := hd ⟨2, .data⟩ (by simp) rfl
      refine ⟨fun _ => ?_, fun hw => absurd (show true = false from hw) (by decide)⟩
      · exact yield_not rfl ((frame_eval V (by decide)).trans d2) hS
    · obtain rfl : _ = o := Option.some.inj ((show _ = some _ from rfl).symm.trans ho)
      have d3 : V 51 = .bool false := hd ⟨3, .data⟩ (by simp) rfl
      refine ⟨fun _ => ?_, fun hw => absurd (show true = false from hw) (by decide)⟩
      · exact yield_copy (.inl rfl) ((frame_eval V (by decide)).trans d3) hS
    · obtain rfl : _ = o := Option.some.inj ((show _ = some _ from rfl).symm.trans ho)
      have x8 : V 8 = .pointer (some ⟨w4.heap.size, 0, none⟩) := (hV 8 (by simp)).trans rfl
      have gd : V 52 = .bool false := hd ⟨4, .guard⟩ (by simp) rfl
      refine ⟨fun _ => ?_, fun hw => absurd ((wanted_of rfl rfl (by decide) gd).symm.trans hw) (by decide)⟩
      · exact yield_ras rfl ((frame_eval V (by decide)).trans x8) hRyb hc4 hHyb hS
    · obtain rfl : _ = o := Option.some.inj ((show _ = some _ from rfl).symm.trans ho)
      have x6 : V 6 = .pointer (some ⟨w1.heap.size + 1 + 1 + 1, 0, none⟩) := (hV 6 (by simp)).trans rfl
      have gd : V 52 = .bool false := hd ⟨4, .guard⟩ (by simp) rfl
      refine ⟨fun _ => ?_, fun hw => absurd ((wanted_of rfl rfl (by decide) gd).symm.trans hw) (by decide)⟩
      · exact yield_op rfl ((frame_eval V (by decide)).trans x6) hOtOb hS
    · obtain rfl : _ = o := Option.some.inj ((show _ = some _ from rfl).symm.trans ho)
      have d6 : V 54 = tO.v := hd ⟨6, .data⟩ (by simp) rfl
      have gd : V 52 = .bool false := hd ⟨4, .guard⟩ (by simp) rfl
      refine ⟨fun _ => ?_, fun hw => absurd ((wanted_of rfl rfl (by decide) gd).symm.trans hw) (by decide)⟩
      · exact yield_ops1 rfl ((frame_eval V (by decide)).trans d6) hS
    · obtain rfl : _ = o := Option.some.inj ((show _ = some _ from rfl).symm.trans ho)
      have d5 : IsRa y w (V 53) := hd ⟨5, .data⟩ (by simp) rfl
      have d7 : IsOps [tO] w (V 55) := hd ⟨7, .data⟩ (by simp) rfl
      have gd : V 52 = .bool false := hd ⟨4, .guard⟩ (by simp) rfl
      refine ⟨fun _ => ?_, fun hw => absurd ((wanted_of rfl rfl (by decide) gd).symm.trans hw) (by decide)⟩
      · exact yield_eaDo rfl (frame_eval V (by decide)) (frame_eval V (by decide)) d5 d7 HYO.out (can_t can_nil) (by simp) hRTb hS
    · obtain rfl : _ = o := Option.some.inj ((show _ = some _ from rfl).symm.trans ho)
      have x3 : V 3 = .pointer (some ⟨w1.heap.size, 0, none⟩) := (hV 3 (by simp)).trans rfl
      have gd : V 52 = .bool false := hd ⟨4, .guard⟩ (by simp) rfl
      refine ⟨fun _ => ?_, fun hw => absurd ((wanted_of rfl rfl (by decide) gd).symm.trans hw) (by decide)⟩
      · exact yield_ras rfl ((frame_eval V (by decide)).trans x3) hRrb hc1 hHrb hS
    · obtain rfl : _ = o := Option.some.inj ((show _ = some _ from rfl).symm.trans ho)
      have x6 : V 6 = .pointer (some ⟨w1.heap.size + 1 + 1 + 1, 0, none⟩) := (hV 6 (by simp)).trans rfl
      have gd : V 52 = .bool false := hd ⟨4, .guard⟩ (by simp) rfl
      refine ⟨fun _ => ?_, fun hw => absurd ((wanted_of rfl rfl (by decide) gd).symm.trans hw) (by decide)⟩
      · exact yield_op rfl ((frame_eval V (by decide)).trans x6) hOtOb hS
    · obtain rfl : _ = o := Option.some.inj ((show _ = some _ from rfl).symm.trans ho)
      have x5 : V 5 = .pointer (some ⟨w1.heap.size + 1 + 1, 0, none⟩) := (hV 5 (by simp)).trans rfl
      have gd : V 52 = .bool false := hd ⟨4, .guard⟩ (by simp) rfl
      refine ⟨fun _ => ?_, fun hw => absurd ((wanted_of rfl rfl (by decide) gd).symm.trans hw) (by decide)⟩
      · exact yield_op rfl ((frame_eval V (by decide)).trans x5) hObOb hS
    · obtain rfl : _ = o := Option.some.inj ((show _ = some _ from rfl).symm.trans ho)
      have d10 : V 58 = tO.v := hd ⟨10, .data⟩ (by simp) rfl
      have d11 : V 59 = bO.v := hd ⟨11, .data⟩ (by simp) rfl
      have gd : V 52 = .bool false := hd ⟨4, .guard⟩ (by simp) rfl
      refine ⟨fun _ => ?_, fun hw => absurd ((wanted_of rfl rfl (by decide) gd).symm.trans hw) (by decide)⟩
      · exact yield_ops2 rfl ((frame_eval V (by decide)).trans d10) ((frame_eval V (by decide)).trans d11) hS
    · obtain rfl : _ = o := Option.some.inj ((show _ = some _ from rfl).symm.trans ho)
      have d9 : IsRa r w (V 57) := hd ⟨9, .data⟩ (by simp) rfl
      have d12 : IsOps [tO, bO] w (V 60) := hd ⟨12, .data⟩ (by simp) rfl
      have gd : V 52 = .bool false := hd ⟨4, .guard⟩ (by simp) rfl
      refine ⟨fun _ => ?_, fun hw => absurd ((wanted_of rfl rfl (by decide) gd).symm.trans hw) (by decide)⟩
      · exact yield_eaDo rfl (frame_eval V (by decide)) (frame_eval V (by decide)) d9 d12 HOK.out (can_t (can_b can_nil)) (by simp) hRTb hS
    · obtain rfl : _ = o := Option.some.inj ((show _ = some _ from rfl).symm.trans ho)
      have d8 : IsRa (eaR y [tO]) w (V 56) := hd ⟨8, .data⟩ (by simp) rfl
      have d13 : IsRa (eaR r [tO, bO]) w (V 61) := hd ⟨13, .data⟩ (by simp) rfl
      have gd : V 52 = .bool false := hd ⟨4, .guard⟩ (by simp) rfl
      refine ⟨fun _ => ?_, fun hw => absurd ((wanted_of rfl rfl (by decide) gd).symm.trans hw) (by decide)⟩
      · exact yield_eaRas rfl (frame_eval V (by decide)) (frame_eval V (by decide)) d8 d13 (ea_ok HYO.out (can_t can_nil)) (by rw [ea_t HYO.out, ea_t HOK.out, ea_b (turnR_ok HOK.out), eaR_nil, eaR_nil, ← HEy.out]; exact (blur_turn HOK.out).symm) hS
    · obtain rfl : _ = o := Option.some.inj ((show _ = some _ from rfl).symm.trans ho)
      have d14 : V 62 = .bool true := hd ⟨14, .data⟩ (by simp) rfl
      have gd : V 52 = .bool false := hd ⟨4, .guard⟩ (by simp) rfl
      refine ⟨fun _ => ?_, fun hw => absurd ((wanted_of rfl rfl (by decide) gd).symm.trans hw) (by decide)⟩
      · exact yield_not rfl ((frame_eval V (by decide)).trans d14) hS
    · obtain rfl : _ = o := Option.some.inj ((show _ = some _ from rfl).symm.trans ho)
      have d4 : V 52 = .bool false := hd ⟨4, .data⟩ (by simp) rfl
      have d15 : V 63 = .bool false := hd ⟨15, .data⟩ (by simp) rfl
      refine ⟨fun _ => ?_, fun hw => absurd (show true = false from hw) (by decide)⟩
      · exact yield_pickF rfl ((frame_eval V (by decide)).trans d4) ((frame_eval V (by decide)).trans d15) hS
    · obtain rfl : _ = o := Option.some.inj ((show _ = some _ from rfl).symm.trans ho)
      have d16 : V 64 = .bool false := hd ⟨16, .data⟩ (by simp) rfl
      refine ⟨fun _ => ?_, fun hw => absurd (show true = false from hw) (by decide)⟩
      · exact yield_copy (.inl rfl) ((frame_eval V (by decide)).trans d16) hS
    · obtain rfl : _ = o := Option.some.inj ((show _ = some _ from rfl).symm.trans ho)
      have x8 : V 8 = .pointer (some ⟨w4.heap.size, 0, none⟩) := (hV 8 (by simp)).trans rfl
      have gd : V 65 = .bool false := hd ⟨17, .guard⟩ (by simp) rfl
      refine ⟨fun _ => ?_, fun hw => absurd ((wanted_of rfl rfl (by decide) gd).symm.trans hw) (by decide)⟩
      · exact yield_ras rfl ((frame_eval V (by decide)).trans x8) hRyb hc4 hHyb hS
    · obtain rfl : _ = o := Option.some.inj ((show _ = some _ from rfl).symm.trans ho)
      have x7 : V 7 = .pointer (some ⟨w1.heap.size + 1 + 1 + 1 + 1, 0, none⟩) := (hV 7 (by simp)).trans rfl
      have gd : V 65 = .bool false := hd ⟨17, .guard⟩ (by simp) rfl
      refine ⟨fun _ => ?_, fun hw => absurd ((wanted_of rfl rfl (by decide) gd).symm.trans hw) (by decide)⟩
      · exact yield_op rfl ((frame_eval V (by decide)).trans x7) hOxOb hS
    · obtain rfl : _ = o := Option.some.inj ((show _ = some _ from rfl).symm.trans ho)
      have d19 : V 67 = xO.v := hd ⟨19, .data⟩ (by simp) rfl
      have gd : V 65 = .bool false := hd ⟨17, .guard⟩ (by simp) rfl
      refine ⟨fun _ => ?_, fun hw => absurd ((wanted_of rfl rfl (by decide) gd).symm.trans hw) (by decide)⟩
      · exact yield_ops1 rfl ((frame_eval V (by decide)).trans d19) hS
    · obtain rfl : _ = o := Option.some.inj ((show _ = some _ from rfl).symm.trans ho)
      have d18 : IsRa y w (V 66) := hd ⟨18, .data⟩ (by simp) rfl
      have d20 : IsOps [xO] w (V 68) := hd ⟨20, .data⟩ (by simp) rfl
      have gd : V 65 = .bool false := hd ⟨17, .guard⟩ (by simp) rfl
      refine ⟨fun _ => ?_, fun hw => absurd ((wanted_of rfl rfl (by decide) gd).symm.trans hw) (by decide)⟩
      · exact yield_eaDo rfl (frame_eval V (by decide)) (frame_eval V (by decide)) d18 d20 HYO.out (can_x can_nil) (by simp) hRTb hS
    · obtain rfl : _ = o := Option.some.inj ((show _ = some _ from rfl).symm.trans ho)
      have x3 : V 3 = .pointer (some ⟨w1.heap.size, 0, none⟩) := (hV 3 (by simp)).trans rfl
      have gd : V 65 = .bool false := hd ⟨17, .guard⟩ (by simp) rfl
      refine ⟨fun _ => ?_, fun hw => absurd ((wanted_of rfl rfl (by decide) gd).symm.trans hw) (by decide)⟩
      · exact yield_ras rfl ((frame_eval V (by decide)).trans x3) hRrb hc1 hHrb hS
    · obtain rfl : _ = o := Option.some.inj ((show _ = some _ from rfl).symm.trans ho)
      have x7 : V 7 = .pointer (some ⟨w1.heap.size + 1 + 1 + 1 + 1, 0, none⟩) := (hV 7 (by simp)).trans rfl
      have gd : V 65 = .bool false := hd ⟨17, .guard⟩ (by simp) rfl
      refine ⟨fun _ => ?_, fun hw => absurd ((wanted_of rfl rfl (by decide) gd).symm.trans hw) (by decide)⟩
      · exact yield_op rfl ((frame_eval V (by decide)).trans x7) hOxOb hS
    · obtain rfl : _ = o := Option.some.inj ((show _ = some _ from rfl).symm.trans ho)
      have x5 : V 5 = .pointer (some ⟨w1.heap.size + 1 + 1, 0, none⟩) := (hV 5 (by simp)).trans rfl
      have gd : V 65 = .bool false := hd ⟨17, .guard⟩ (by simp) rfl
      refine ⟨fun _ => ?_, fun hw => absurd ((wanted_of rfl rfl (by decide) gd).symm.trans hw) (by decide)⟩
      · exact yield_op rfl ((frame_eval V (by decide)).trans x5) hObOb hS
    · obtain rfl : _ = o := Option.some.inj ((show _ = some _ from rfl).symm.trans ho)
      have d23 : V 71 = xO.v := hd ⟨23, .data⟩ (by simp) rfl
      have d24 : V 72 = bO.v := hd ⟨24, .data⟩ (by simp) rfl
      have gd : V 65 = .bool false := hd ⟨17, .guard⟩ (by simp) rfl
      refine ⟨fun _ => ?_, fun hw => absurd ((wanted_of rfl rfl (by decide) gd).symm.trans hw) (by decide)⟩
      · exact yield_ops2 rfl ((frame_eval V (by decide)).trans d23) ((frame_eval V (by decide)).trans d24) hS
    · obtain rfl : _ = o := Option.some.inj ((show _ = some _ from rfl).symm.trans ho)
      have d22 : IsRa r w (V 70) := hd ⟨22, .data⟩ (by simp) rfl
      have d25 : IsOps [xO, bO] w (V 73) := hd ⟨25, .data⟩ (by simp) rfl
      have gd : V 65 = .bool false := hd ⟨17, .guard⟩ (by simp) rfl
      refine ⟨fun _ => ?_, fun hw => absurd ((wanted_of rfl rfl (by decide) gd).symm.trans hw) (by decide)⟩
      · exact yield_eaDo rfl (frame_eval V (by decide)) (frame_eval V (by decide)) d22 d25 HOK.out (can_x (can_b can_nil)) (by simp) hRTb hS
    · obtain rfl : _ = o := Option.some.inj ((show _ = some _ from rfl).symm.trans ho)
      have d21 : IsRa (eaR y [xO]) w (V 69) := hd ⟨21, .data⟩ (by simp) rfl
      have d26 : IsRa (eaR r [xO, bO]) w (V 74) := hd ⟨26, .data⟩ (by simp) rfl
      have gd : V 65 = .bool false := hd ⟨17, .guard⟩ (by simp) rfl
      refine ⟨fun _ => ?_, fun hw => absurd ((wanted_of rfl rfl (by decide) gd).symm.trans hw) (by decide)⟩
      · exact yield_eaRas rfl (frame_eval V (by decide)) (frame_eval V (by decide)) d21 d26 (ea_ok HYO.out (can_x can_nil)) (by rw [ea_x HYO.out, ea_x HOK.out, ea_b (flipXR_ok HOK.out), eaR_nil, eaR_nil, ← HEy.out]; exact (blur_flipX HOK.out).symm) hS
    · obtain rfl : _ = o := Option.some.inj ((show _ = some _ from rfl).symm.trans ho)
      have d27 : V 75 = .bool true := hd ⟨27, .data⟩ (by simp) rfl
      have gd : V 65 = .bool false := hd ⟨17, .guard⟩ (by simp) rfl
      refine ⟨fun _ => ?_, fun hw => absurd ((wanted_of rfl rfl (by decide) gd).symm.trans hw) (by decide)⟩
      · exact yield_not rfl ((frame_eval V (by decide)).trans d27) hS
    · obtain rfl : _ = o := Option.some.inj ((show _ = some _ from rfl).symm.trans ho)
      have d17 : V 65 = .bool false := hd ⟨17, .data⟩ (by simp) rfl
      have d28 : V 76 = .bool false := hd ⟨28, .data⟩ (by simp) rfl
      refine ⟨fun _ => ?_, fun hw => absurd (show true = false from hw) (by decide)⟩
      · exact yield_pickF rfl ((frame_eval V (by decide)).trans d17) ((frame_eval V (by decide)).trans d28) hS
  · intro V wx hS hV hall
    have dl : V 77 = .bool false := hall 29 (by decide)
    rw [frame_all (n := 174) (D := [48, 49, 50, 51, 52, 53, 54, 55, 56, 57, 58, 59, 60, 61, 62, 63, 64, 65, 66, 67, 68, 69, 70, 71, 72, 73, 74, 75, 76, 77]) rfl rfl (by decide) hV]
    simp only [List.foldl_cons, List.foldl_nil, Act.put, List.setIfInBounds_toArray, List.set_cons_zero, List.set_cons_succ]
    rw [dl]
    have hbx : Below w6.heap.size w6 wx := hbd.trans (hS.mono hbd.size)
    clear hall hV dl hS hRrb hHrb hRyb hHyb hRwanb hHwanb hObOb hOtOb hOxOb hRTb hbd
    have HRr7 : Hid (RasAtB wx (w1.heap.size) r.w r.h A1 r.p.length c1 25) := Lib.hid (Box.below HRr6.out hbx (RasAtB.lt HRr6.out))
    have HHr7 : Hid (HasP wx wx.heap.size A1 r.p) := Lib.hid (HHr6.out.carry hbx (Nat.le_refl _) hbx.size)
    have HRy7 : Hid (RasAtB wx (w4.heap.size) y.w y.h A4 y.p.length c4 25) := Lib.hid (Box.below HRy6.out hbx (RasAtB.lt HRy6.out))
    have HHy7 : Hid (HasP wx wx.heap.size A4 y.p) := Lib.hid (HHy6.out.carry hbx (Nat.le_refl _) hbx.size)
    have HObO7 : Hid (OpAtB wx (w1.heap.size + 1 + 1) bO) := Lib.hid (Box.below HObO6.out hbx (Box.lt HObO6.out))
    have HOtO7 : Hid (OpAtB wx (w1.heap.size + 1 + 1 + 1) tO) := Lib.hid (Box.below HOtO6.out hbx (Box.lt HOtO6.out))
    have HOxO7 : Hid (OpAtB wx (w1.heap.size + 1 + 1 + 1 + 1) xO) := Lib.hid (Box.below HOxO6.out hbx (Box.lt HOxO6.out))
    have HB7 := Lib.hid (HB6.out.trans (hbx.mono HB6.out.size))
    have HRT7 : Hid (RangesIn wx) := Lib.hid (HRT6.out.next hbx)
    clear hbx HRwan6 HHwan6
    obtain ⟨b1, d1, rfl⟩ := HasP.some HHr7.out HLR.out.1
    obtain ⟨b4, d4, rfl⟩ := HasP.some HHy7.out (by rw [HYL.out]; exact HLR.out.1)
    obtain ⟨p0, hp0⟩ : ∃ p, r.p[0]? = some p := ⟨_, List.getElem?_eq_getElem HLR.out.1⟩
    have HP0 := Lib.hid hp0
    clear hp0
    have rc0 := RasAtB.c0 HRr7.out
    have rc1 := RasAtB.c1 HRr7.out
    have rc2 := RasAtB.c2 HRr7.out
    have HC8 : Hid (RasAtB (wx.alloc (.cells #[.int .i64 (r.w : Int), .int .i64 (r.h : Int), .slice none 0 0] 25)) wx.heap.size r.w r.h none 0 0 25) := Lib.hid (Box.new wx _ _)
    have HBN8 : Hid (Below wx.heap.size wx (wx.alloc (.cells #[.int .i64 (r.w : Int), .int .i64 (r.h : Int), .slice none 0 0] 25))) := Lib.hid ((Below.refl _ wx).alloc (Nat.le_refl _) _)
    have HSZ8 : Hid ((wx.alloc (.cells #[.int .i64 (r.w : Int), .int .i64 (r.h : Int), .slice none 0 0] 25)).heap.size = wx.heap.size + 1) := Lib.hid (by simp)
    go_wp2_with fail
    generalize (wx.alloc (.cells #[.int .i64 (r.w : Int), .int .i64 (r.h : Int), .slice none 0 0] 25)) = w8 at *
    clear rc0 rc1 rc2
    go_loopw [12] (fun v wr => ∃ (k : Nat) (A : Option Addr) (cc : Nat), k ≤ r.p.length ∧ v = .int .i64 (k : Int) ∧ RasAtB wr wx.heap.size r.w r.h A k cc 25 ∧ OwnP wr w8.heap.size (.slice A k cc) ((r.p.take k).map fun _ => p0) ∧ Below wx.heap.size wx wr ∧ w8.heap.size ≤ wr.heap.size) (fun v _ => r.p.length - (intOf v).toNat)
    case atStart => exact ⟨0, none, 0, Nat.zero_le _, rfl, HC8.out, ownP_nil _ _, HBN8.out, Nat.le_refl _⟩
    case round =>
      obtain ⟨k, A9, c9, hk, rfl, hC, hO, hbq, hsz⟩ := hrel
      obtain ⟨wp, rfl⟩ : ∃ u, u = wr := ⟨wr, rfl⟩
      have HRr8 : Hid (RasAtB wp (w1.heap.size) r.w r.h (some ⟨b1, d1, none⟩) r.p.length c1 25) := Lib.hid (Box.below HRr7.out hbq (RasAtB.lt HRr7.out))
      have HHr8 : Hid (HasP wp wp.heap.size (some ⟨b1, d1, none⟩) r.p) := Lib.hid (HHr7.out.carry hbq (Nat.le_refl _) hbq.size)
      have HRy8 : Hid (RasAtB wp (w4.heap.size) y.w y.h (some ⟨b4, d4, none⟩) y.p.length c4 25) := Lib.hid (Box.below HRy7.out hbq (RasAtB.lt HRy7.out))
      have HHy8 : Hid (HasP wp wp.heap.size (some ⟨b4, d4, none⟩) y.p) := Lib.hid (HHy7.out.carry hbq (Nat.le_refl _) hbq.size)
      have HObO8 : Hid (OpAtB wp (w1.heap.size + 1 + 1) bO) := Lib.hid (Box.below HObO7.out hbq (Box.lt HObO7.out))
      have HOtO8 : Hid (OpAtB wp (w1.heap.size + 1 + 1 + 1) tO) := Lib.hid (Box.below HOtO7.out hbq (Box.lt HOtO7.out))
      have HOxO8 : Hid (OpAtB wp (w1.heap.size + 1 + 1 + 1 + 1) xO) := Lib.hid (Box.below HOxO7.out hbq (Box.lt HOxO7.out))
      have HB8 := Lib.hid (HB7.out.trans (hbq.mono HB7.out.size))
      have HRT8 : Hid (RangesIn wp) := Lib.hid (HRT7.out.next hbq)
      have r2 := RasAtB.c2 HRr8.out
      by_cases hlt : k < r.p.length
      · have hml : ((r.p.take k).map fun _ => p0).length = k := by rw [List.length_map, List.length_take]; omega
        have hms := map_one (p := p0) hlt
        obtain ⟨m, hm⟩ : ∃ m, ((r.p.take k).map fun _ => p0) = m := ⟨_, rfl⟩
        rw [hm] at hml hms hO
        have HMS := Lib.hid hms
        have HML := Lib.hid hml
        have hk36 : k < 36 := by have := HLR.out.2; omega
        clear hms hm
        have h89 := HSZ8.out
        have hlr := RasAtB.lt HRr8.out
        have hrx : w1.heap.size < wx.heap.size := RasAtB.lt HRr7.out
        have hHb : PxAt wp.drew b1 d1 p0 := by
          have := (HasP.px (HHr8.out.drewN 1) HP0.out).2
          rw [Nat.zero_mul, Nat.add_zero] at this
          exact this
        have hrn : ¬ r.p = [] := fun h => by have := HLR.out.1; rw [h] at this; exact absurd this (by decide)
        have hHb7 := (HasP.px HHr7.out HP0.out).1
        obtain ⟨G, hG⟩ : ∃ G, wp.heap.size = G := ⟨_, rfl⟩
        have hGd : wp.drew.heap.size = G := hG
        have HOd : Hid (pxE.Own wp.drew w8.heap.size (.slice A9 k c9) m) := Lib.hid (El.Own.drewN (E := pxE) (own_px.2 hO) 1)
        have HOA : Hid (pxE.Own (wp.drew.alloc (.cells #[.int .i64 p0.r, .int .i64 p0.g, .int .i64 p0.b, .int .i64 p0.a] 39)) w8.heap.size (.slice A9 k c9) m) := Lib.hid (El.Own.alloc (E := pxE) HOd.out _)
        have HBX : Hid (Box (wp.drew.alloc (.cells #[.int .i64 p0.r, .int .i64 p0.g, .int .i64 p0.b, .int .i64 p0.a] 39)) G (pxE.cells p0).toArray 39) := Lib.hid (by rw [← hGd]; exact Box.new wp.drew _ _)
        have hszd : w8.heap.size ≤ wp.drew.heap.size := hsz
        have BA : Below wp.drew.heap.size wp.drew (wp.drew.alloc (.cells #[.int .i64 p0.r, .int .i64 p0.g, .int .i64 p0.b, .int .i64 p0.a] 39)) := (Below.refl _ _).alloc (Nat.le_refl _) _
        have BA3 := BA.mono hszd
        have HS3 : Hid (∀ w', Below w8.heap.size wp.drew w' → (fun w' => RasAtB w' wx.heap.size r.w r.h A9 k c9 25 ∧ RasAtB w' (w1.heap.size) r.w r.h (some ⟨b1, d1, none⟩) r.p.length c1 25 ∧ PxAt w' b1 d1 p0) w') := Lib.hid fun w' hb => ⟨Box.below hC.drew1 hb (by omega), Box.below HRr8.out.drew1 hb (by omega), PxAt.kept (w := wp.drew) hHb fun q hq => hb.cell (by omega)⟩
        have HSb : Hid (∀ w', Below wp.drew.heap.size wp.drew w' → (fun w' => RasAtB w' wx.heap.size r.w r.h A9 k c9 25 ∧ RasAtB w' (w1.heap.size) r.w r.h (some ⟨b1, d1, none⟩) r.p.length c1 25 ∧ PxAt w' b1 d1 p0) w') := Lib.hid fun w' hb => HS3.out w' (hb.mono hszd)
        have HS0 := Lib.hid (HSb.out _ (Below.refl _ _))
        have HBd := Lib.hid (below_draws hbq 1)
        have hGw : w8.heap.size ≤ G := by rw [← hGd]; exact hszd
        have hr1 := HLR.out.1
        have hrI : (0 : Int) < (r.p.length : Int) := by omega
        clear hO hC hbq hHb hGd hHb7 hlr hrx
        go_wp2_with fail
        clear r2
        refine wp_region_T (fun w' => RasAtB w' wx.heap.size r.w r.h A9 k c9 25 ∧ RasAtB w' (w1.heap.size) r.w r.h (some ⟨b1, d1, none⟩) r.p.length c1 25 ∧ PxAt w' b1 d1 p0) 9 (by kernel_rfl) ?_
        refine wpAnyT_take (i := 0) (d := 90) (v := .pointer (some ⟨wx.heap.size, 2, none⟩)) rfl rfl (by kernel_rfl) (by kernel_rfl) (by kernel_rfl) (by kernel_rfl) (by kernel_rfl) (fun _ _ _ h => h) HS0.out (Or.inl ⟨by rfl, fun w' hS' => ?_⟩) ?_
        · obtain ⟨s0, s1, s2⟩ := hS'
          have t2 := s0.c2
          have v2 := s1.c2
          obtain ⟨q0, q1, q2, q3⟩ := s2
          go_simp
        simp only [Act.put, List.setIfInBounds_toArray, List.set_cons_zero, List.set_cons_succ]
        refine wpAnyT_take (i := 1) (d := 91) (v := .slice A9 k c9) rfl rfl (by kernel_rfl) (by kernel_rfl) (by kernel_rfl) (by kernel_rfl) (by kernel_rfl) (fun _ _ _ h => h) HS0.out (Or.inl ⟨by rfl, fun w' hS' => ?_⟩) ?_
        · obtain ⟨s0, s1, s2⟩ := hS'
          have t2 := s0.c2
          have v2 := s1.c2
          obtain ⟨q0, q1, q2, q3⟩ := s2
          go_simp
        simp only [Act.put, List.setIfInBounds_toArray, List.set_cons_zero, List.set_cons_succ]
        refine wpAnyT_take (i := 2) (d := 92) (v := .pointer (some ⟨w1.heap.size, 2, none⟩)) rfl rfl (by kernel_rfl) (by kernel_rfl) (by kernel_rfl) (by kernel_rfl) (by kernel_rfl) (fun _ _ _ h => h) HS0.out (Or.inl ⟨by rfl, fun w' hS' => ?_⟩) ?_
        · obtain ⟨s0, s1, s2⟩ := hS'
          have t2 := s0.c2
          have v2 := s1.c2
          obtain ⟨q0, q1, q2, q3⟩ := s2
          go_simp
        simp only [Act.put, List.setIfInBounds_toArray, List.set_cons_zero, List.set_cons_succ]
        refine wpAnyT_take (i := 3) (d := 93) (v := .slice (some ⟨b1, d1, none⟩) r.p.length c1) rfl rfl (by kernel_rfl) (by kernel_rfl) (by kernel_rfl) (by kernel_rfl) (by kernel_rfl) (fun _ _ _ h => h) HS0.out (Or.inl ⟨by rfl, fun w' hS' => ?_⟩) ?_
        · obtain ⟨s0, s1, s2⟩ := hS'
          have t2 := s0.c2
          have v2 := s1.c2
          obtain ⟨q0, q1, q2, q3⟩ := s2
          go_simp
        simp only [Act.put, List.setIfInBounds_toArray, List.set_cons_zero, List.set_cons_succ]
        refine wpAnyT_take (i := 4) (d := 94) (v := .pointer (some ⟨b1, d1, none⟩)) rfl rfl (by kernel_rfl) (by kernel_rfl) (by kernel_rfl) (by kernel_rfl) (by kernel_rfl) (fun _ _ _ h => h) HS0.out (Or.inl ⟨by rfl, fun w' hS' => ?_⟩) ?_
        · go_simp
        simp only [Act.put, List.setIfInBounds_toArray, List.set_cons_zero, List.set_cons_succ]
        refine wpAnyT_take (i := 5) (d := 95) (v := (.agg #[.int .i64 p0.r, .int .i64 p0.g, .int .i64 p0.b, .int .i64 p0.a])) rfl rfl (by kernel_rfl) (by kernel_rfl) (by kernel_rfl) (by kernel_rfl) (by kernel_rfl) (fun _ _ _ h => h) HS0.out (Or.inl ⟨by rfl, fun w' hS' => ?_⟩) ?_
        · obtain ⟨s0, s1, s2⟩ := hS'
          have t2 := s0.c2
          have v2 := s1.c2
          obtain ⟨q0, q1, q2, q3⟩ := s2
          go_simp
        simp only [Act.put, List.setIfInBounds_toArray, List.set_cons_zero, List.set_cons_succ]
        refine wpAnyT_one (i := 6) (by kernel_rfl) rfl (fun K hK => ?_)
        go_simp
        refine hK.out _ _ (fun _ => HSb.out _ BA) ?_
        clear hK
        try simp only [Act.put, List.setIfInBounds_toArray]
        refine wpAnyT_one (i := 7) (by kernel_rfl) rfl (fun K hK => ?_)
        refine El.step_append (E := pxE) 23 Tryd.underlying23 rfl (.tmp 91) (.tmp 96) rfl w8.heap.size (.slice A9 k c9) m rfl HOA.out ⟨G, 0, none⟩ 1 1 [p0] rfl rfl (Box.news (E := pxE) (x := p0) HBX.out) (by decide) (by have := HML.out; omega) (by simp; omega) (G + 1) (by simp [hG]) ?_
        intro g9 cap w5 hown5 hgr5 hg5 hcap5
        have b5 : Below w8.heap.size wp.drew w5 := BA3.grown hgr5 (by simp; omega) (fun q e => (World.ownsRow.lt HOd.out q e).1)
        refine hK.out _ _ (fun _ => HS3.out _ b5) ?_
        clear hK
        try simp only [Act.put, List.setIfInBounds_toArray]
        refine wpAnyT_one (i := 8) (by kernel_rfl) rfl (fun K hK => ?_)
        go_simp
        refine hK.out _ _ (fun _ => HS3.out _ b5) ?_
        clear hK
        try simp only [Act.put, List.setIfInBounds_toArray, List.set_cons_zero, List.set_cons_succ]
        refine wpAnyT_one (i := 9) (by kernel_rfl) rfl (fun K hK => ?_)
        have hx5 : RasAtB w5 wx.heap.size r.w r.h A9 k c9 25 := (HS3.out _ b5).1
        have q2 := hx5.c2
        have f2 := hx5.free 2
        go_simp
        refine hK.out _ _ last_out ?_
        clear hK
        refine wpAnyT_done (by kernel_rfl) ?_ _
        have hl1 : m.length + 1 = k + 1 := by rw [HML.out]
        have hwl : wx.heap.size < w8.heap.size := by have := HSZ8.out; omega
        have hc6 : RasAtB (w5.setCell ⟨wx.heap.size, 2, none⟩ (.slice (some ⟨g9, 0, none⟩) (k + 1) cap)) wx.heap.size r.w r.h (some ⟨g9, 0, none⟩) (k + 1) cap 25 := hx5.set2 (some ⟨g9, 0, none⟩) (k + 1) cap
        rw [hl1] at hown5
        have ho6 : OwnP (w5.setCell ⟨wx.heap.size, 2, none⟩ (.slice (some ⟨g9, 0, none⟩) (k + 1) cap)) w8.heap.size (.slice (some ⟨g9, 0, none⟩) (k + 1) cap) ((r.p.take (k + 1)).map fun _ => p0) := by
          rw [← HMS.out]
          exact OwnP.set_low (own_px.1 hown5) hwl 2 _
        have hb6 : Below wx.heap.size wx (w5.setCell ⟨wx.heap.size, 2, none⟩ (.slice (some ⟨g9, 0, none⟩) (k + 1) cap)) := (HBd.out.trans (b5.mono (Nat.le_of_lt hwl))).setCell (p := ⟨wx.heap.size, 2, none⟩) (by simp) _
        have hs6 : w8.heap.size ≤ (w5.setCell ⟨wx.heap.size, 2, none⟩ (.slice (some ⟨g9, 0, none⟩) (k + 1) cap)).heap.size := by
          have := b5.size
          simp
          omega
        have HE6 := Lib.hid (And.intro hc6 (And.intro ho6 (And.intro hb6 hs6)))
        clear hc6 ho6 hb6 hs6 hown5 hgr5 hg5 hcap5 b5 hx5 q2 f2 hl1 hwl HS0 HSb HS3 HBX HOA HOd BA BA3 hszd hG hGw HBd HRr8 HHr8 HRy8 HHy8 HObO8 HOtO8 HOxO8 HB8 HRT8
        obtain ⟨w10, hw10⟩ : ∃ u, (w5.setCell ⟨wx.heap.size, 2, none⟩ (.slice (some ⟨g9, 0, none⟩) (k + 1) cap)) = u := ⟨_, rfl⟩
        rw [hw10] at HE6 ⊢
        have HBE := Lib.hid HE6.out.2.2.1
        clear hw10
        have HRr10 : Hid (RasAtB w10 (w1.heap.size) r.w r.h (some ⟨b1, d1, none⟩) r.p.length c1 25) := Lib.hid (Box.below HRr7.out HBE.out (RasAtB.lt HRr7.out))
        have HHr10 : Hid (HasP w10 w10.heap.size (some ⟨b1, d1, none⟩) r.p) := Lib.hid (HHr7.out.carry HBE.out (Nat.le_refl _) HBE.out.size)
        have HRy10 : Hid (RasAtB w10 (w4.heap.size) y.w y.h (some ⟨b4, d4, none⟩) y.p.length c4 25) := Lib.hid (Box.below HRy7.out HBE.out (RasAtB.lt HRy7.out))
        have HHy10 : Hid (HasP w10 w10.heap.size (some ⟨b4, d4, none⟩) y.p) := Lib.hid (HHy7.out.carry HBE.out (Nat.le_refl _) HBE.out.size)
        have HObO10 : Hid (OpAtB w10 (w1.heap.size + 1 + 1) bO) := Lib.hid (Box.below HObO7.out HBE.out (Box.lt HObO7.out))
        have HOtO10 : Hid (OpAtB w10 (w1.heap.size + 1 + 1 + 1) tO) := Lib.hid (Box.below HOtO7.out HBE.out (Box.lt HOtO7.out))
        have HOxO10 : Hid (OpAtB w10 (w1.heap.size + 1 + 1 + 1 + 1) xO) := Lib.hid (Box.below HOxO7.out HBE.out (Box.lt HOxO7.out))
        have HB10 := Lib.hid (HB7.out.trans (HBE.out.mono HB7.out.size))
        have HRT10 : Hid (RangesIn w10) := Lib.hid (HRT7.out.next HBE.out)
        have r2 := RasAtB.c2 HRr10.out
        go_wp2_with fail
        clear r2
        go_loopw [13, 14, 15] (fun u v i wr => ∃ (j : Nat) (lo hi : Int), j ≤ r.p.length ∧ i = .int .i64 (j : Int) ∧ u = .int .i64 lo ∧ v = .int .i64 hi ∧ (0 ≤ lo ∧ lo ≤ 255) ∧ (0 ≤ hi ∧ hi ≤ 255) ∧ (∀ i p, i < j → r.p[i]? = some p → near r.w i k → lo ≤ p.g ∧ p.g ≤ hi) ∧ Below w10.heap.size w10 wr) (fun _ _ i _ => r.p.length - (intOf i).toNat)
        case atStart => exact ⟨0, 255, 0, Nat.zero_le _, rfl, rfl, rfl, by omega, by omega, fun i p hi => absurd hi (Nat.not_lt_zero _), Below.refl _ _⟩
        case round =>
          obtain ⟨j, lo, hi, hj, rfl, rfl, rfl, hlo, hhi, hnear, hbj⟩ := hrel
          have HNE := Lib.hid hnear
          have HBJ := Lib.hid hbj
          clear hnear hbj
          have HRr11 : Hid (RasAtB wr (w1.heap.size) r.w r.h (some ⟨b1, d1, none⟩) r.p.length c1 25) := Lib.hid (Box.below HRr10.out HBJ.out (RasAtB.lt HRr10.out))
          have HHr11 : Hid (HasP wr wr.heap.size (some ⟨b1, d1, none⟩) r.p) := Lib.hid (HHr10.out.carry HBJ.out (Nat.le_refl _) HBJ.out.size)
          have HRy11 : Hid (RasAtB wr (w4.heap.size) y.w y.h (some ⟨b4, d4, none⟩) y.p.length c4 25) := Lib.hid (Box.below HRy10.out HBJ.out (RasAtB.lt HRy10.out))
          have HHy11 : Hid (HasP wr wr.heap.size (some ⟨b4, d4, none⟩) y.p) := Lib.hid (HHy10.out.carry HBJ.out (Nat.le_refl _) HBJ.out.size)
          have HObO11 : Hid (OpAtB wr (w1.heap.size + 1 + 1) bO) := Lib.hid (Box.below HObO10.out HBJ.out (Box.lt HObO10.out))
          have HOtO11 : Hid (OpAtB wr (w1.heap.size + 1 + 1 + 1) tO) := Lib.hid (Box.below HOtO10.out HBJ.out (Box.lt HOtO10.out))
          have HOxO11 : Hid (OpAtB wr (w1.heap.size + 1 + 1 + 1 + 1) xO) := Lib.hid (Box.below HOxO10.out HBJ.out (Box.lt HOxO10.out))
          have HB11 := Lib.hid (HB10.out.trans (HBJ.out.mono HB10.out.size))
          have HRT11 : Hid (RangesIn wr) := Lib.hid (HRT10.out.next HBJ.out)
          have r2 := RasAtB.c2 HRr11.out
          have hrl := HLR.out.2
          by_cases hjl : j < r.p.length
          · obtain ⟨p, hp⟩ : ∃ p, r.p[j]? = some p := ⟨_, List.getElem?_eq_getElem hjl⟩
            have HP := Lib.hid hp
            have hj36 : j < 36 := by omega
            obtain ⟨jx, hjx⟩ : ∃ z, j % r.w = z := ⟨_, rfl⟩
            obtain ⟨jy, hjy⟩ : ∃ z, j / r.w = z := ⟨_, rfl⟩
            obtain ⟨kx, hkx⟩ : ∃ z, k % r.w = z := ⟨_, rfl⟩
            obtain ⟨ky, hky⟩ : ∃ z, k / r.w = z := ⟨_, rfl⟩
            have bjx : jx ≤ 36 := by rw [← hjx]; exact Nat.le_trans (Nat.mod_le _ _) (by omega)
            have bjy : jy ≤ 36 := by rw [← hjy]; exact Nat.le_trans (Nat.div_le_self _ _) (by omega)
            have bkx : kx ≤ 36 := by rw [← hkx]; exact Nat.le_trans (Nat.mod_le _ _) (by omega)
            have bky : ky ≤ 36 := by rw [← hky]; exact Nat.le_trans (Nat.div_le_self _ _) (by omega)
            have HNR : Hid (near r.w j k ↔ (jx ≤ kx + 1 ∧ kx ≤ jx + 1) ∧ (jy ≤ ky + 1 ∧ ky ≤ jy + 1)) := Lib.hid (by unfold near; rw [hjx, hjy, hkx, hky])
            have HXY := Lib.hid (And.intro hjx (And.intro hjy (And.intro hkx hky)))
            clear hp hjx hjy hkx hky
            go_wp2_with fail
            clear r2
            have HMW11 : Hid (Below wr.heap.size wr wr) := Lib.hid (Below.refl _ _)
            have hbd : Below wr.heap.size wr wr.drew := below_draws (Below.refl _ _) 1
            have hRru : RasAtB wr.drew (w1.heap.size) r.w r.h (some ⟨b1, d1, none⟩) r.p.length c1 25 := Box.below HRr11.out hbd (RasAtB.lt HRr11.out)
            have hHru : HasP wr.drew wr.drew.heap.size (some ⟨b1, d1, none⟩) r.p := HHr11.out.carry hbd (Nat.le_refl _) hbd.size
            have hRyu : RasAtB wr.drew (w4.heap.size) y.w y.h (some ⟨b4, d4, none⟩) y.p.length c4 25 := Box.below HRy11.out hbd (RasAtB.lt HRy11.out)
            have hHyu : HasP wr.drew wr.drew.heap.size (some ⟨b4, d4, none⟩) y.p := HHy11.out.carry hbd (Nat.le_refl _) hbd.size
            have hObOu : OpAtB wr.drew (w1.heap.size + 1 + 1) bO := Box.below HObO11.out hbd (Box.lt HObO11.out)
            have hOtOu : OpAtB wr.drew (w1.heap.size + 1 + 1 + 1) tO := Box.below HOtO11.out hbd (Box.lt HOtO11.out)
            have hOxOu : OpAtB wr.drew (w1.heap.size + 1 + 1 + 1 + 1) xO := Box.below HOxO11.out hbd (Box.lt HOxO11.out)
            have hRTu : RangesIn wr.drew := HRT11.out.next hbd
            refine wp_region_kd 174 [106, 107, 108, 109, 110, 111, 112, 113, 114, 16] [(106, .is (.int .i64 (j : Int))), (107, .is (.pointer (some ⟨w1.heap.size, 0, none⟩))), (108, .is (.int .i64 (r.w : Int))), (109, .is (.int .i64 (jx : Int))), (110, .is (.int .i64 (k : Int))), (111, .is (.pointer (some ⟨w1.heap.size, 0, none⟩))), (112, .is (.int .i64 (r.w : Int))), (113, .is (.int .i64 (kx : Int))), (114, .is (.int .i64 ((jx : Int) - (kx : Int)))), (16, .is (.int .i64 ((jx : Int) - (kx : Int))))] (Below wr.drew.heap.size wr.drew) (by kernel_rfl) (by kernel_rfl) rfl rfl (by decide) (by decide) rfl rfl (Below.refl _ _) ?_ ?_
            · intro i o V w ho hS hV hd
              have hi : i < 10 := (Array.getElem?_eq_some_iff.1 ho).1
              have hi2 : i = 0 ∨ i = 1 ∨ i = 2 ∨ i = 3 ∨ i = 4 ∨ i = 5 ∨ i = 6 ∨ i = 7 ∨ i = 8 ∨ i = 9 := by omega
              clear hi
              rcases hi2 with rfl | rfl | rfl | rfl | rfl | rfl | rfl | rfl | rfl | rfl
              · obtain rfl : _ = o := Option.some.inj ((show _ = some _ from rfl).symm.trans ho)
                have x15 : V 15 = .int .i64 (j : Int) := (hV 15 (by simp)).trans rfl
                refine ⟨fun _ => ?_, fun hw => absurd (show true = false from hw) (by decide)⟩
                · exact yield_copy (.inl rfl) ((frame_eval V (by decide)).trans x15) hS
              · obtain rfl : _ = o := Option.some.inj ((show _ = some _ from rfl).symm.trans ho)
                have x3 : V 3 = .pointer (some ⟨w1.heap.size, 0, none⟩) := (hV 3 (by simp)).trans rfl
                refine ⟨fun _ => ?_, fun hw => absurd (show true = false from hw) (by decide)⟩
                · exact yield_fld rfl ((frame_eval V (by decide)).trans x3) (fun w => fld_ras _ 0 (by decide) w) hS
              · obtain rfl : _ = o := Option.some.inj ((show _ = some _ from rfl).symm.trans ho)
                have d1 : V 107 = .pointer (some ⟨w1.heap.size, 0, none⟩) := hd ⟨1, .data⟩ (by simp) rfl
                refine ⟨fun _ => ?_, fun hw => absurd (show true = false from hw) (by decide)⟩
                · exact yield_cell rfl ((frame_eval V (by decide)).trans d1) (RasAtB.c0 hRru) (RasAtB.lt hRru) hS
              · obtain rfl : _ = o := Option.some.inj ((show _ = some _ from rfl).symm.trans ho)
                have d0 : V 106 = .int .i64 (j : Int) := hd ⟨0, .data⟩ (by simp) rfl
                have d2 : V 108 = .int .i64 (r.w : Int) := hd ⟨2, .data⟩ (by simp) rfl
                refine ⟨fun _ => ?_, fun hw => absurd (show true = false from hw) (by decide)⟩
                · exact yield_rem rfl ((frame_eval V (by decide)).trans d0) ((frame_eval V (by decide)).trans d2) HXY.out.1 (by omega) (by omega) (by omega) hS
              · obtain rfl : _ = o := Option.some.inj ((show _ = some _ from rfl).symm.trans ho)
                have x12 : V 12 = .int .i64 (k : Int) := (hV 12 (by simp)).trans rfl
                refine ⟨fun _ => ?_, fun hw => absurd (show true = false from hw) (by decide)⟩
                · exact yield_copy (.inl rfl) ((frame_eval V (by decide)).trans x12) hS
              · obtain rfl : _ = o := Option.some.inj ((show _ = some _ from rfl).symm.trans ho)
                have x3 : V 3 = .pointer (some ⟨w1.heap.size, 0, none⟩) := (hV 3 (by simp)).trans rfl
                refine ⟨fun _ => ?_, fun hw => absurd (show true = false from hw) (by decide)⟩
                · exact yield_fld rfl ((frame_eval V (by decide)).trans x3) (fun w => fld_ras _ 0 (by decide) w) hS
              · obtain rfl : _ = o := Option.some.inj ((show _ = some _ from rfl).symm.trans ho)
                have d5 : V 111 = .pointer (some ⟨w1.heap.size, 0, none⟩) := hd ⟨5, .data⟩ (by simp) rfl
                refine ⟨fun _ => ?_, fun hw => absurd (show true = false from hw) (by decide)⟩
                · exact yield_cell rfl ((frame_eval V (by decide)).trans d5) (RasAtB.c0 hRru) (RasAtB.lt hRru) hS
              · obtain rfl : _ = o := Option.some.inj ((show _ = some _ from rfl).symm.trans ho)
                have d4 : V 110 = .int .i64 (k : Int) := hd ⟨4, .data⟩ (by simp) rfl
                have d6 : V 112 = .int .i64 (r.w : Int) := hd ⟨6, .data⟩ (by simp) rfl
                refine ⟨fun _ => ?_, fun hw => absurd (show true = false from hw) (by decide)⟩
                · exact yield_rem rfl ((frame_eval V (by decide)).trans d4) ((frame_eval V (by decide)).trans d6) HXY.out.2.2.1 (by omega) (by omega) (by omega) hS
              · obtain rfl : _ = o := Option.some.inj ((show _ = some _ from rfl).symm.trans ho)
                have d3 : V 109 = .int .i64 (jx : Int) := hd ⟨3, .data⟩ (by simp) rfl
                have d7 : V 113 = .int .i64 (kx : Int) := hd ⟨7, .data⟩ (by simp) rfl
                refine ⟨fun _ => ?_, fun hw => absurd (show true = false from hw) (by decide)⟩
                · exact yield_sub rfl ((frame_eval V (by decide)).trans d3) ((frame_eval V (by decide)).trans d7) rfl (by omega) hS
              · obtain rfl : _ = o := Option.some.inj ((show _ = some _ from rfl).symm.trans ho)
                have d8 : V 114 = .int .i64 ((jx : Int) - (kx : Int)) := hd ⟨8, .data⟩ (by simp) rfl
                refine ⟨fun _ => ?_, fun hw => absurd (show true = false from hw) (by decide)⟩
                · exact yield_copy (.inr rfl) ((frame_eval V (by decide)).trans d8) hS
            · intro V wy hS hV hall
              have dl : V 16 = .int .i64 ((jx : Int) - (kx : Int)) := hall 9 (by decide)
              rw [frame_all (n := 174) (D := [106, 107, 108, 109, 110, 111, 112, 113, 114, 16]) rfl rfl (by decide) hV]
              simp only [List.foldl_cons, List.foldl_nil, Act.put, List.setIfInBounds_toArray, List.set_cons_zero, List.set_cons_succ]
              rw [dl]
              have hbz : Below wr.heap.size wr wy := hbd.trans (hS.mono hbd.size)
              clear hall hV dl hS hRru hHru hRyu hHyu hObOu hOtOu hOxOu hRTu hbd
              have HRr12 : Hid (RasAtB wy (w1.heap.size) r.w r.h (some ⟨b1, d1, none⟩) r.p.length c1 25) := Lib.hid (Box.below HRr11.out hbz (RasAtB.lt HRr11.out))
              have HHr12 : Hid (HasP wy wy.heap.size (some ⟨b1, d1, none⟩) r.p) := Lib.hid (HHr11.out.carry hbz (Nat.le_refl _) hbz.size)
              have HRy12 : Hid (RasAtB wy (w4.heap.size) y.w y.h (some ⟨b4, d4, none⟩) y.p.length c4 25) := Lib.hid (Box.below HRy11.out hbz (RasAtB.lt HRy11.out))
              have HHy12 : Hid (HasP wy wy.heap.size (some ⟨b4, d4, none⟩) y.p) := Lib.hid (HHy11.out.carry hbz (Nat.le_refl _) hbz.size)
              have HObO12 : Hid (OpAtB wy (w1.heap.size + 1 + 1) bO) := Lib.hid (Box.below HObO11.out hbz (Box.lt HObO11.out))
              have HOtO12 : Hid (OpAtB wy (w1.heap.size + 1 + 1 + 1) tO) := Lib.hid (Box.below HOtO11.out hbz (Box.lt HOtO11.out))
              have HOxO12 : Hid (OpAtB wy (w1.heap.size + 1 + 1 + 1 + 1) xO) := Lib.hid (Box.below HOxO11.out hbz (Box.lt HOxO11.out))
              have HB12 := Lib.hid (HB11.out.trans (hbz.mono HB11.out.size))
              have HRT12 : Hid (RangesIn wy) := Lib.hid (HRT11.out.next hbz)
              have HMW12 := Lib.hid (HMW11.out.trans (hbz.mono HMW11.out.size))
              clear hbz
              go_wp2_with fail
              have hbd : Below wy.heap.size wy wy.drew := below_draws (Below.refl _ _) 1
              have hRrv : RasAtB wy.drew (w1.heap.size) r.w r.h (some ⟨b1, d1, none⟩) r.p.length c1 25 := Box.below HRr12.out hbd (RasAtB.lt HRr12.out)
              have hHrv : HasP wy.drew wy.drew.heap.size (some ⟨b1, d1, none⟩) r.p := HHr12.out.carry hbd (Nat.le_refl _) hbd.size
              have hRyv : RasAtB wy.drew (w4.heap.size) y.w y.h (some ⟨b4, d4, none⟩) y.p.length c4 25 := Box.below HRy12.out hbd (RasAtB.lt HRy12.out)
              have hHyv : HasP wy.drew wy.drew.heap.size (some ⟨b4, d4, none⟩) y.p := HHy12.out.carry hbd (Nat.le_refl _) hbd.size
              have hObOv : OpAtB wy.drew (w1.heap.size + 1 + 1) bO := Box.below HObO12.out hbd (Box.lt HObO12.out)
              have hOtOv : OpAtB wy.drew (w1.heap.size + 1 + 1 + 1) tO := Box.below HOtO12.out hbd (Box.lt HOtO12.out)
              have hOxOv : OpAtB wy.drew (w1.heap.size + 1 + 1 + 1 + 1) xO := Box.below HOxO12.out hbd (Box.lt HOxO12.out)
              have hRTv : RangesIn wy.drew := HRT12.out.next hbd
              refine wp_region_kd 174 [115, 116, 117, 118, 119, 120, 121, 122, 123, 17] [(115, .is (.int .i64 (j : Int))), (116, .is (.pointer (some ⟨w1.heap.size, 0, none⟩))), (117, .is (.int .i64 (r.w : Int))), (118, .is (.int .i64 (jy : Int))), (119, .is (.int .i64 (k : Int))), (120, .is (.pointer (some ⟨w1.heap.size, 0, none⟩))), (121, .is (.int .i64 (r.w : Int))), (122, .is (.int .i64 (ky : Int))), (123, .is (.int .i64 ((jy : Int) - (ky : Int)))), (17, .is (.int .i64 ((jy : Int) - (ky : Int))))] (Below wy.drew.heap.size wy.drew) (by kernel_rfl) (by kernel_rfl) rfl rfl (by decide) (by decide) rfl rfl (Below.refl _ _) ?_ ?_
              · intro i o V w ho hS hV hd
                have hi : i < 10 := (Array.getElem?_eq_some_iff.1 ho).1
                have hi2 : i = 0 ∨ i = 1 ∨ i = 2 ∨ i = 3 ∨ i = 4 ∨ i = 5 ∨ i = 6 ∨ i = 7 ∨ i = 8 ∨ i = 9 := by omega
                clear hi
                rcases hi2 with rfl | rfl | rfl | rfl | rfl | rfl | rfl | rfl | rfl | rfl
                · obtain rfl : _ = o := Option.some.inj ((show _ = some _ from rfl).symm.trans ho)
                  have x15 : V 15 = .int .i64 (j : Int) := (hV 15 (by simp)).trans rfl
                  refine ⟨fun _ => ?_, fun hw => absurd (show true = false from hw) (by decide)⟩
                  · exact yield_copy (.inl rfl) ((frame_eval V (by decide)).trans x15) hS
                · obtain rfl : _ = o := Option.some.inj ((show _ = some _ from rfl).symm.trans ho)
                  have x3 : V 3 = .pointer (some ⟨w1.heap.size, 0, none⟩) := (hV 3 (by simp)).trans rfl
                  refine ⟨fun _ => ?_, fun hw => absurd (show true = false from hw) (by decide)⟩
                  · exact yield_fld rfl ((frame_eval V (by decide)).trans x3) (fun w => fld_ras _ 0 (by decide) w) hS
                · obtain rfl : _ = o := Option.some.inj ((show _ = some _ from rfl).symm.trans ho)
                  have d1 : V 116 = .pointer (some ⟨w1.heap.size, 0, none⟩) := hd ⟨1, .data⟩ (by simp) rfl
                  refine ⟨fun _ => ?_, fun hw => absurd (show true = false from hw) (by decide)⟩
                  · exact yield_cell rfl ((frame_eval V (by decide)).trans d1) (RasAtB.c0 hRrv) (RasAtB.lt hRrv) hS
                · obtain rfl : _ = o := Option.some.inj ((show _ = some _ from rfl).symm.trans ho)
                  have d0 : V 115 = .int .i64 (j : Int) := hd ⟨0, .data⟩ (by simp) rfl
                  have d2 : V 117 = .int .i64 (r.w : Int) := hd ⟨2, .data⟩ (by simp) rfl
                  refine ⟨fun _ => ?_, fun hw => absurd (show true = false from hw) (by decide)⟩
                  · exact yield_quo rfl ((frame_eval V (by decide)).trans d0) ((frame_eval V (by decide)).trans d2) HXY.out.2.1 (by omega) (by omega) (by omega) hS
                · obtain rfl : _ = o := Option.some.inj ((show _ = some _ from rfl).symm.trans ho)
                  have x12 : V 12 = .int .i64 (k : Int) := (hV 12 (by simp)).trans rfl
                  refine ⟨fun _ => ?_, fun hw => absurd (show true = false from hw) (by decide)⟩
                  · exact yield_copy (.inl rfl) ((frame_eval V (by decide)).trans x12) hS
                · obtain rfl : _ = o := Option.some.inj ((show _ = some _ from rfl).symm.trans ho)
                  have x3 : V 3 = .pointer (some ⟨w1.heap.size, 0, none⟩) := (hV 3 (by simp)).trans rfl
                  refine ⟨fun _ => ?_, fun hw => absurd (show true = false from hw) (by decide)⟩
                  · exact yield_fld rfl ((frame_eval V (by decide)).trans x3) (fun w => fld_ras _ 0 (by decide) w) hS
                · obtain rfl : _ = o := Option.some.inj ((show _ = some _ from rfl).symm.trans ho)
                  have d5 : V 120 = .pointer (some ⟨w1.heap.size, 0, none⟩) := hd ⟨5, .data⟩ (by simp) rfl
                  refine ⟨fun _ => ?_, fun hw => absurd (show true = false from hw) (by decide)⟩
                  · exact yield_cell rfl ((frame_eval V (by decide)).trans d5) (RasAtB.c0 hRrv) (RasAtB.lt hRrv) hS
                · obtain rfl : _ = o := Option.some.inj ((show _ = some _ from rfl).symm.trans ho)
                  have d4 : V 119 = .int .i64 (k : Int) := hd ⟨4, .data⟩ (by simp) rfl
                  have d6 : V 121 = .int .i64 (r.w : Int) := hd ⟨6, .data⟩ (by simp) rfl
                  refine ⟨fun _ => ?_, fun hw => absurd (show true = false from hw) (by decide)⟩
                  · exact yield_quo rfl ((frame_eval V (by decide)).trans d4) ((frame_eval V (by decide)).trans d6) HXY.out.2.2.2 (by omega) (by omega) (by omega) hS
                · obtain rfl : _ = o := Option.some.inj ((show _ = some _ from rfl).symm.trans ho)
                  have d3 : V 118 = .int .i64 (jy : Int) := hd ⟨3, .data⟩ (by simp) rfl
                  have d7 : V 122 = .int .i64 (ky : Int) := hd ⟨7, .data⟩ (by simp) rfl
                  refine ⟨fun _ => ?_, fun hw => absurd (show true = false from hw) (by decide)⟩
                  · exact yield_sub rfl ((frame_eval V (by decide)).trans d3) ((frame_eval V (by decide)).trans d7) rfl (by omega) hS
                · obtain rfl : _ = o := Option.some.inj ((show _ = some _ from rfl).symm.trans ho)
                  have d8 : V 123 = .int .i64 ((jy : Int) - (ky : Int)) := hd ⟨8, .data⟩ (by simp) rfl
                  refine ⟨fun _ => ?_, fun hw => absurd (show true = false from hw) (by decide)⟩
                  · exact yield_copy (.inr rfl) ((frame_eval V (by decide)).trans d8) hS
              · intro V wz hS hV hall
                have dl : V 17 = .int .i64 ((jy : Int) - (ky : Int)) := hall 9 (by decide)
                rw [frame_all (n := 174) (D := [115, 116, 117, 118, 119, 120, 121, 122, 123, 17]) rfl rfl (by decide) hV]
                simp only [List.foldl_cons, List.foldl_nil, Act.put, List.setIfInBounds_toArray, List.set_cons_zero, List.set_cons_succ]
                rw [dl]
                have hbz : Below wy.heap.size wy wz := hbd.trans (hS.mono hbd.size)
                clear hall hV dl hS hRrv hHrv hRyv hHyv hObOv hOtOv hOxOv hRTv hbd
                have HRr13 : Hid (RasAtB wz (w1.heap.size) r.w r.h (some ⟨b1, d1, none⟩) r.p.length c1 25) := Lib.hid (Box.below HRr12.out hbz (RasAtB.lt HRr12.out))
                have HHr13 : Hid (HasP wz wz.heap.size (some ⟨b1, d1, none⟩) r.p) := Lib.hid (HHr12.out.carry hbz (Nat.le_refl _) hbz.size)
                have HRy13 : Hid (RasAtB wz (w4.heap.size) y.w y.h (some ⟨b4, d4, none⟩) y.p.length c4 25) := Lib.hid (Box.below HRy12.out hbz (RasAtB.lt HRy12.out))
                have HHy13 : Hid (HasP wz wz.heap.size (some ⟨b4, d4, none⟩) y.p) := Lib.hid (HHy12.out.carry hbz (Nat.le_refl _) hbz.size)
                have HObO13 : Hid (OpAtB wz (w1.heap.size + 1 + 1) bO) := Lib.hid (Box.below HObO12.out hbz (Box.lt HObO12.out))
                have HOtO13 : Hid (OpAtB wz (w1.heap.size + 1 + 1 + 1) tO) := Lib.hid (Box.below HOtO12.out hbz (Box.lt HOtO12.out))
                have HOxO13 : Hid (OpAtB wz (w1.heap.size + 1 + 1 + 1 + 1) xO) := Lib.hid (Box.below HOxO12.out hbz (Box.lt HOxO12.out))
                have HB13 := Lib.hid (HB12.out.trans (hbz.mono HB12.out.size))
                have HRT13 : Hid (RangesIn wz) := Lib.hid (HRT12.out.next hbz)
                have HMW13 := Lib.hid (HMW12.out.trans (hbz.mono HMW12.out.size))
                clear hbz
                obtain ⟨dx, hdx⟩ : ∃ z : Int, (jx : Int) - kx = z := ⟨_, rfl⟩
                obtain ⟨dy, hdy⟩ : ∃ z : Int, (jy : Int) - ky = z := ⟨_, rfl⟩
                have qx := sq_small jx kx
                have qy := sq_small jy ky
                have mx := sq_room bjx bkx
                have my := sq_room bjy bky
                rw [hdx] at qx mx ⊢
                rw [hdy] at qy my ⊢
                obtain ⟨sx, hsx⟩ : ∃ z : Int, dx * dx = z := ⟨_, rfl⟩
                obtain ⟨sy, hsy⟩ : ∃ z : Int, dy * dy = z := ⟨_, rfl⟩
                rw [hsx] at qx mx
                rw [hsy] at qy my
                have ux := IntWalk.i64_in sx (by omega)
                have uy := IntWalk.i64_in sy (by omega)
                have HQ := Lib.hid (And.intro qx qy)
                clear qx qy hdx hdy
                by_cases hn : sx ≤ 1 ∧ sy ≤ 1
                · obtain ⟨n1, n2⟩ := hn
                  obtain ⟨lx, u0, u1, u2, u3⟩ := HasP.px HHr13.out HP.out
                  have r2 := RasAtB.c2 HRr13.out
                  have hjI : (0 : Int) ≤ (j : Int) ∧ (j : Int) < (r.p.length : Int) := by omega
                  have hg : 0 ≤ p.g ∧ p.g ≤ 255 := (pixB_parts (HOK.out.parts.2.2.2 p (List.mem_of_getElem? HP.out))).2.1
                  have hmm : (0 ≤ min lo p.g ∧ min lo p.g ≤ 255) ∧ (0 ≤ max hi p.g ∧ max hi p.g ≤ 255) := by omega
                  have HNN : Hid (∀ i q, i < j + 1 → r.p[i]? = some q → near r.w i k → min lo p.g ≤ q.g ∧ q.g ≤ max hi p.g) := Lib.hid (fun i q hi' hq hn' => by
                    by_cases e : i = j
                    · subst e
                      obtain rfl := Option.some.inj (HP.out.symm.trans hq)
                      omega
                    · have := HNE.out i q (by omega) hq hn'
                      omega)
                  have HMM := Lib.hid hmm
                  have HEB := Lib.hid (HBJ.out.trans ((HMW13.out).mono HBJ.out.size))
                  clear hg hmm mx my
                  go_wp2_with fail
                  go_roundw
                  case rel => exact ⟨j + 1, _, _, by omega, by go_num, rfl, rfl, HMM.out.1, HMM.out.2, HNN.out, HEB.out⟩
                  case measure => simp [intOf]; omega
                · have HNN : Hid (∀ i q, i < j + 1 → r.p[i]? = some q → near r.w i k → lo ≤ q.g ∧ q.g ≤ hi) := Lib.hid (fun i q hi' hq hn' => by
                    by_cases e : i = j
                    · subst e
                      have h2 := HNR.out.1 hn'
                      exact absurd ⟨HQ.out.1.2 h2.1, HQ.out.2.2 h2.2⟩ hn
                    · exact HNE.out i q (by omega) hq hn')
                  have HEB := Lib.hid (HBJ.out.trans ((HMW13.out).mono HBJ.out.size))
                  clear mx my
                  by_cases n1 : sx ≤ 1
                  · have n2 : ¬ sy ≤ 1 := fun h => hn ⟨n1, h⟩
                    clear hn
                    go_wp2_with fail
                    go_roundw
                    case rel => exact ⟨j + 1, lo, hi, by omega, by go_num, rfl, rfl, hlo, hhi, HNN.out, HEB.out⟩
                    case measure => simp [intOf]; omega
                  · clear hn
                    go_wp2_with fail
                    go_roundw
                    case rel => exact ⟨j + 1, lo, hi, by omega, by go_num, rfl, rfl, hlo, hhi, HNN.out, HEB.out⟩
                    case measure => simp [intOf]; omega
          obtain rfl : j = r.p.length := by omega
          obtain ⟨q, hq⟩ : ∃ q, y.p[k]? = some q := ⟨_, List.getElem?_eq_getElem (by rw [HYL.out]; exact hlt)⟩
          have hbd := blur_bound HOK.out HEy.out hq (lo := lo) (hi := hi) fun i p hp hn => HNE.out i p (List.getElem?_eq_some_iff.1 hp).1 hp hn
          have n1 : ¬ q.g < lo := by omega
          have n2 : ¬ hi < q.g := by omega
          obtain ⟨lx, u0, u1, u2, u3⟩ := HasP.px HHy11.out hq
          have y2 := RasAtB.c2 HRy11.out
          have hkI : (0 : Int) ≤ (k : Int) ∧ (k : Int) < (y.p.length : Int) := by rw [HYL.out]; omega
          have hkl : k < y.p.length := by rw [HYL.out]; exact hlt
          have hwl : wx.heap.size < w8.heap.size := by have := HSZ8.out; omega
          have hCn : RasAtB wr wx.heap.size r.w r.h (some ⟨g9, 0, none⟩) (k + 1) cap 25 := Box.below HE6.out.1 HBJ.out (Box.lt HE6.out.1)
          have hOn : OwnP wr w8.heap.size (.slice (some ⟨g9, 0, none⟩) (k + 1) cap) ((r.p.take (k + 1)).map fun _ => p0) := OwnP.below HE6.out.2.1 HBJ.out (Nat.le_refl _)
          have hBn : Below wx.heap.size wx wr := HE6.out.2.2.1.trans (HBJ.out.mono HE6.out.2.2.1.size)
          have hSn : w8.heap.size ≤ wr.heap.size := Nat.le_trans HE6.out.2.2.2 HBJ.out.size
          have HR := Lib.hid (And.intro hCn (And.intro hOn (And.intro hBn hSn)))
          clear hCn hOn hBn hSn hq hbd hwl hj hjl
          go_wp2_with fail
          go_roundw
          case rel => exact ⟨k + 1, _, _, by omega, by go_num, HR.out.1, HR.out.2.1, HR.out.2.2.1, HR.out.2.2.2⟩
          case measure => simp [intOf]; omega
      obtain rfl : k = r.p.length := by omega
      clear hk hlt
      rw [List.take_length, ← each_p HOK.out] at hO
      have hpp := plain_blur HOK.out (p := p0) (HOK.out.parts.2.2.2 p0 (List.mem_of_getElem? HP0.out))
      have hll : (eachR (fun _ => p0) r).p.length = r.p.length := by rw [each_p HOK.out, List.length_map]
      have hew : (eachR (fun _ => p0) r).w = r.w := eachR_w _ _
      have heh : (eachR (fun _ => p0) r).h = r.h := eachR_h _ _
      rw [← hew, ← heh, ← hll] at hC
      rw [← hll] at hO
      clear hew heh hll
      obtain ⟨pl, hpl⟩ : ∃ z, eachR (fun _ => p0) r = z := ⟨_, rfl⟩
      rw [hpl] at hpp hC hO
      have hplc := (El.Own.len (E := pxE) (own_px.2 hO)).2
      have HRpl8 := Lib.hid hC
      have HHpl8 := Lib.hid hO.reads
      have HPP := Lib.hid hpp
      clear hC hO hpp hpl hsz
      go_wp2_with fail
      clear r2
      have hbd : Below wp.heap.size wp wp.drew := below_draws ((Below.refl _ _)) 1
      have hRrb : RasAtB wp.drew (w1.heap.size) r.w r.h (some ⟨b1, d1, none⟩) r.p.length c1 25 := Box.below HRr8.out hbd (RasAtB.lt HRr8.out)
      have hHrb : HasP wp.drew wp.drew.heap.size (some ⟨b1, d1, none⟩) r.p := HHr8.out.carry hbd (Nat.le_refl _) hbd.size
      have hRyb : RasAtB wp.drew (w4.heap.size) y.w y.h (some ⟨b4, d4, none⟩) y.p.length c4 25 := Box.below HRy8.out hbd (RasAtB.lt HRy8.out)
      have hHyb : HasP wp.drew wp.drew.heap.size (some ⟨b4, d4, none⟩) y.p := HHy8.out.carry hbd (Nat.le_refl _) hbd.size
      have hRplb : RasAtB wp.drew (wx.heap.size) pl.w pl.h A9 pl.p.length c9 25 := Box.below HRpl8.out hbd (RasAtB.lt HRpl8.out)
      have hHplb : HasP wp.drew wp.drew.heap.size A9 pl.p := HHpl8.out.carry hbd (Nat.le_refl _) hbd.size
      have hObOb : OpAtB wp.drew (w1.heap.size + 1 + 1) bO := Box.below HObO8.out hbd (Box.lt HObO8.out)
      have hOtOb : OpAtB wp.drew (w1.heap.size + 1 + 1 + 1) tO := Box.below HOtO8.out hbd (Box.lt HOtO8.out)
      have hOxOb : OpAtB wp.drew (w1.heap.size + 1 + 1 + 1 + 1) xO := Box.below HOxO8.out hbd (Box.lt HOxO8.out)
      have hRTb : RangesIn wp.drew := HRT8.out.next hbd
      have HBD := Lib.hid hbd
      clear hbd
      have HFS := Lib.hid (And.intro hRrb ( And.intro hHrb ( And.intro hRyb ( And.intro hHyb ( And.intro hRplb ( And.intro hHplb ( And.intro hObOb ( And.intro hOtOb ( And.intro hOxOb (hRTb))))))))))
      clear hRrb hHrb hRyb hHyb hRplb hHplb hObOb hOtOb hOxOb hRTb
      obtain ⟨hRrb, hHrb, hRyb, hHyb, hRplb, hHplb, hObOb, hOtOb, hOxOb, hRTb⟩ := HFS.out
      clear HFS
      refine wp_region_kd 174 [168, 169, 170, 171, 172, 173, 2] [(168, .ras pl), (169, .is (bO.v)), (170, .ops [bO]), (171, .ras (eaR pl [bO])), (172, .ras pl), (173, .is (.bool true)), (2, .is (.bool true))] (Below wp.drew.heap.size wp.drew) (by kernel_rfl) (by kernel_rfl) rfl rfl (by decide) (by decide) rfl rfl (Below.refl _ _) ?_ ?_
      · intro i o V w ho hS hV hd
        have hi : i < 7 := (Array.getElem?_eq_some_iff.1 ho).1
        have hi2 : i = 0 ∨ i = 1 ∨ i = 2 ∨ i = 3 ∨ i = 4 ∨ i = 5 ∨ i = 6 := by omega
        clear hi
        rcases hi2 with rfl | rfl | rfl | rfl | rfl | rfl | rfl
        · obtain rfl : _ = o := Option.some.inj ((show _ = some _ from rfl).symm.trans ho)
          have x11 : V 11 = .pointer (some ⟨wx.heap.size, 0, none⟩) := (hV 11 (by simp)).trans rfl
          refine ⟨fun _ => ?_, fun hw => absurd (show true = false from hw) (by decide)⟩
          · exact yield_ras rfl ((frame_eval V (by decide)).trans x11) hRplb hplc hHplb hS
        · obtain rfl : _ = o := Option.some.inj ((show _ = some _ from rfl).symm.trans ho)
          have x5 : V 5 = .pointer (some ⟨w1.heap.size + 1 + 1, 0, none⟩) := (hV 5 (by simp)).trans rfl
          refine ⟨fun _ => ?_, fun hw => absurd (show true = false from hw) (by decide)⟩
          · exact yield_op rfl ((frame_eval V (by decide)).trans x5) hObOb hS
        · obtain rfl : _ = o := Option.some.inj ((show _ = some _ from rfl).symm.trans ho)
          have d1 : V 169 = bO.v := hd ⟨1, .data⟩ (by simp) rfl
          refine ⟨fun _ => ?_, fun hw => absurd (show true = false from hw) (by decide)⟩
          · exact yield_ops1 rfl ((frame_eval V (by decide)).trans d1) hS
        · obtain rfl : _ = o := Option.some.inj ((show _ = some _ from rfl).symm.trans ho)
          have d0 : IsRa pl w (V 168) := hd ⟨0, .data⟩ (by simp) rfl
          have d2 : IsOps [bO] w (V 170) := hd ⟨2, .data⟩ (by simp) rfl
          refine ⟨fun _ => ?_, fun hw => absurd (show true = false from hw) (by decide)⟩
          · exact yield_eaDo rfl (frame_eval V (by decide)) (frame_eval V (by decide)) d0 d2 HPP.out.1 (can_b can_nil) (by simp) hRTb hS
        · obtain rfl : _ = o := Option.some.inj ((show _ = some _ from rfl).symm.trans ho)
          have x11 : V 11 = .pointer (some ⟨wx.heap.size, 0, none⟩) := (hV 11 (by simp)).trans rfl
          refine ⟨fun _ => ?_, fun hw => absurd (show true = false from hw) (by decide)⟩
          · exact yield_ras rfl ((frame_eval V (by decide)).trans x11) hRplb hplc hHplb hS
        · obtain rfl : _ = o := Option.some.inj ((show _ = some _ from rfl).symm.trans ho)
          have d3 : IsRa (eaR pl [bO]) w (V 171) := hd ⟨3, .data⟩ (by simp) rfl
          have d4 : IsRa pl w (V 172) := hd ⟨4, .data⟩ (by simp) rfl
          refine ⟨fun _ => ?_, fun hw => absurd (show true = false from hw) (by decide)⟩
          · exact yield_eaRas rfl (frame_eval V (by decide)) (frame_eval V (by decide)) d3 d4 (ea_ok HPP.out.1 (can_b can_nil)) (by rw [ea_b HPP.out.1, eaR_nil]; exact HPP.out.2) hS
        · obtain rfl : _ = o := Option.some.inj ((show _ = some _ from rfl).symm.trans ho)
          have d5 : V 173 = .bool true := hd ⟨5, .data⟩ (by simp) rfl
          refine ⟨fun _ => ?_, fun hw => absurd (show true = false from hw) (by decide)⟩
          · exact yield_copy (.inr rfl) ((frame_eval V (by decide)).trans d5) hS
      · intro V wx hS hV hall
        have dl : V 2 = .bool true := hall 6 (by decide)
        rw [frame_all (n := 174) (D := [168, 169, 170, 171, 172, 173, 2]) rfl rfl (by decide) hV]
        simp only [List.foldl_cons, List.foldl_nil, Act.put, List.setIfInBounds_toArray, List.set_cons_zero, List.set_cons_succ]
        rw [dl]
        have HE := Lib.hid (HB8.out.trans ((HBD.out.trans (hS.mono HBD.out.size)).mono HB8.out.size))
        clear hall hV dl hS hRrb hHrb hRyb hHyb hRplb hHplb hObOb hOtOb hOxOb hRTb 
        go_wp2_with fail
        go_ret
        exact ⟨rfl, HE.out⟩
theorem fnOpBlur_walk (A : Option Addr) (c : Nat) (l : List UInt8) (w : World) (hR : RangesIn w) (h : Has w w.heap.size A l) (hc : l.length ≤ c) :
    Calls Tryd.prog 5 #[.slice A l.length c] w fun e w' => e = .returned (.bool true) ∧ Below w.heap.size w w' := by
  by_cases hbig : l.length ≤ 1048576
  · exact fnOpBlur_small A c l w hR h hc hbig
  · have hl0 : (1048576 : Int) < (l.length : Int) := by omega
    clear h hc hbig
    go_enter Tryd.func5, Tryd.ntmps5
    go_wp2_with fail
    go_ret
    exact ⟨rfl, Below.refl _ _⟩
end Go.Proofs.YtiemlakjallphaaDoor
