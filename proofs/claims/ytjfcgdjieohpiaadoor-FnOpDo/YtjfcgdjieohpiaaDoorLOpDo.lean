/-
  The law FnOpDo returns true for every list of bytes to draw from. Condition: the table of ranges reads as the program's text lays it.
-/
import Derived.Test.YtjfcgdjieohpiaaDoorRanL
import Derived.Test.YtjfcgdjieohpiaaDoorDrawOpA
import Derived.Test.YtjfcgdjieohpiaaDoorEaC
import Derived.Test.YtjfcgdjieohpiaaDoorRegL
import Derived.Test.YtjfcgdjieohpiaaDoorRasS
import Derived.Test.YtjfcgdjieohpiaaDoorRegM
import Derived.Test.YtjfcgdjieohpiaaDoorRefB
namespace Go.Proofs.YtjfcgdjieohpiaaDoor
set_option maxRecDepth 4000
open Go.RowKit

/-- A raster as it was drawn, good or not. -/
structure Rw where
  w : Int
  h : Int
  p : List Px
theorem implOpDo_any (W H : Int) (A : Option Addr) (c : Nat) (l : List Px) (o : Op) (w : World) (hR : RangesIn w) (hs : l.length ≤ 1073741824) (hc : l.length ≤ c) (h : HasP w w.heap.size A l) :
    Calls Tryd.prog 12 #[rasV W H A l.length c, o.v] w (Did (putO W H l o) w) := by
  unfold putO
  cases hq : (rasB W H l && opB o)
  · exact opDo_bad W H A c l o w hR hs h hq
  · obtain ⟨h1, h2⟩ := Bool.and_eq_true_iff.1 hq
    have := opDo_good ⟨W.toNat, H.toNat, l⟩ A c o w (ok_of h1) h2 hR hc h
    rw [raV_of h1] at this
    exact this
theorem put_small {W H : Int} {l : List Px} {o : Op} : ((putO W H l o).getD ra0).p.length ≤ 36 := by
  unfold putO
  cases hq : (rasB W H l && opB o)
  · exact Nat.zero_le _
  · obtain ⟨h1, h2⟩ := Bool.and_eq_true_iff.1 hq
    simp only [if_true]
    cases hd : doR ⟨W.toNat, H.toNat, l⟩ o with
    | none => exact Nat.zero_le _
    | some s => exact (ra_len (doR_ok (ok_of h1) h2 hd)).2
/-- What OpDo's answer is like, where the raster and the operation are good. -/
def Shape (W H : Int) (q : Op) (d : Option Ra) : Prop :=
  (q.k = 1 ∧ (W < q.a + q.c ∨ H < q.b + q.d) ∧ d = none) ∨ ∃ s : Ra, d = some s ∧ s.ok ∧
    ((q.k = 1 ∧ (¬ W < q.a + q.c ∧ ¬ H < q.b + q.d) ∧ (s.w : Int) = q.c ∧ (s.h : Int) = q.d) ∨ (q.k = 4 ∧ (s.w : Int) = H ∧ (s.h : Int) = W) ∨ (q.k = 7 ∧ (s.w : Int) = q.a ∧ (s.h : Int) = q.b) ∨ ((q.k ≠ 1 ∧ q.k ≠ 4 ∧ q.k ≠ 7) ∧ (s.w : Int) = W ∧ (s.h : Int) = H))
theorem put_shape {W H : Int} {l : List Px} {q : Op} (h1 : rasB W H l = true) (h2 : opB q = true) : Shape W H q (putO W H l q) := by
  obtain ⟨g1, g2, -, -⟩ := rasB_parts h1
  have hok := ok_of h1
  unfold putO
  rw [h1, h2]
  simp only [Bool.and_self, if_true]
  have hw : ((W.toNat : Nat) : Int) = W := Int.toNat_of_nonneg (by omega)
  have hh : ((H.toNat : Nat) : Int) = H := Int.toNat_of_nonneg (by omega)
  have hk : q.k = 1 ∨ q.k = 2 ∨ q.k = 3 ∨ q.k = 4 ∨ q.k = 5 ∨ q.k = 6 ∨ q.k = 7 ∨ q.k = 8 := by
    have := h2
    rw [opB_alt] at this
    by_cases e1 : q.k = 1
    · omega
    by_cases e7 : q.k = 7
    · omega
    by_cases e8 : q.k = 8
    · omega
    rw [if_neg e1, if_neg e7, if_neg e8] at this
    unfold inR at this
    simp only [Bool.and_eq_true, decide_eq_true_eq] at this
    omega
  rcases hk with hk | hk | hk | hk | hk | hk | hk | hk
  · obtain ⟨i1, i2, i3, i4⟩ := opB_1 hk h2
    cases hd : doR ⟨W.toNat, H.toNat, l⟩ q with
    | none =>
      refine .inl ⟨hk, ?_, rfl⟩
      unfold doR at hd
      rw [if_pos hk] at hd
      split at hd
      · rename_i hx
        simp only at hx
        omega
      · cases hd
    | some s =>
      obtain ⟨k1, k2, k3⟩ := doR_1 _ hk h2 hd
      simp only at k1 k2
      refine .inr ⟨s, rfl, doR_ok hok h2 hd, .inl ⟨hk, by omega, ?_⟩⟩
      rw [k3, cropR_w, cropR_h]
      omega
  · have hd := doR_2 ⟨W.toNat, H.toNat, l⟩ hk
    rw [hd]
    exact .inr ⟨_, rfl, doR_ok hok h2 hd, .inr (.inr (.inr ⟨by omega, hw, hh⟩))⟩
  · have hd := doR_3 ⟨W.toNat, H.toNat, l⟩ hk
    rw [hd]
    exact .inr ⟨_, rfl, doR_ok hok h2 hd, .inr (.inr (.inr ⟨by omega, hw, hh⟩))⟩
  · have hd := doR_4 ⟨W.toNat, H.toNat, l⟩ hk
    rw [hd]
    exact .inr ⟨_, rfl, doR_ok hok h2 hd, .inr (.inl ⟨hk, hh, hw⟩)⟩
  · have hd := doR_5 ⟨W.toNat, H.toNat, l⟩ hk
    rw [hd]
    exact .inr ⟨_, rfl, doR_ok hok h2 hd, .inr (.inr (.inr ⟨by omega, hw, hh⟩))⟩
  · have hd := doR_6 ⟨W.toNat, H.toNat, l⟩ hk
    rw [hd]
    exact .inr ⟨_, rfl, doR_ok hok h2 hd, .inr (.inr (.inr ⟨by omega, hw, hh⟩))⟩
  · have hd := doR_7 ⟨W.toNat, H.toNat, l⟩ hk
    obtain ⟨i1, i2⟩ := opB_7 hk h2
    rw [hd]
    exact .inr ⟨_, rfl, doR_ok hok h2 hd, .inr (.inr (.inl ⟨hk, by rw [sizeR_w]; omega, by rw [sizeR_h]; omega⟩))⟩
  · have hd := doR_8 ⟨W.toNat, H.toNat, l⟩ hk
    rw [hd]
    exact .inr ⟨_, rfl, doR_ok hok h2 hd, .inr (.inr (.inr ⟨by omega, hw, hh⟩))⟩
section
variable {Q : Exit → Act → World → Prop} {o : Oper} {a : Act} {w wb : World}
theorem yield_eaRasL {p q : Operand} {ts : Array TypeId} {r : Ra} {vp vq : Value} (ho : o.op = .call { callee := .value (.func 14), args := #[p, q], argTypes := ts }) (ep : a.eval p = vp) (eq : a.eval q = vq) (hp : IsRa r w vp) (hq : IsRa r w vq) (hl : r.p.length ≤ 36) (hS : Below wb.heap.size wb w) :
    Yield Tryd.prog Q (Below wb.heap.size wb) o a w (Kd.is (.bool true)).holds := by
  obtain ⟨A, c, rfl, hc, hh⟩ := hp
  obtain ⟨A', c', rfl, hc', hh'⟩ := hq
  refine Yield.call ho rfl Tryd.func14 (by kernel_rfl) rfl (args := #[raV r A c, raV r A' c']) (by simp [ep, eq]) (eaRas_same r.w r.h A A' c c' r.p w (by omega) hh hh') ?_
  rintro e w' ⟨rfl, hb⟩
  exact ⟨_, rfl, hb, hS.trans (hb.mono hS.size), rfl⟩
theorem yield_neqB {x y : Operand} {u : TypeId} {p : Bool} (ho : o.op = .binOp .neq 4 x y u) (hx : a.eval x = .bool p) (hy : a.eval y = .bool p) (hS : Below wb.heap.size wb w) : Yield Tryd.prog Q (Below wb.heap.size wb) o a w (Kd.is (.bool false)).holds := by
  refine Yield.run (v := .bool false) (w' := w) ?_ (Below.refl _ _) hS rfl
  unfold execOp
  rw [ho]
  simp only [hx, hy]
  cases p <;> go_simp
theorem yield_opI {p : Operand} {ts : Array TypeId} {q : Op} (ho : o.op = .call { callee := .value (.func 15), args := #[p], argTypes := ts }) (ep : a.eval p = q.v) (hR : RangesIn wb) (hS : Below wb.heap.size wb w) :
    Yield Tryd.prog Q (Below wb.heap.size wb) o a w (Kd.is (.bool (opB q))).holds := by
  refine Yield.call ho rfl Tryd.func15 (by kernel_rfl) rfl (args := #[q.v]) (by simp [ep]) (implOpOk_any q w (hR.next hS)) ?_
  rintro e w' ⟨rfl, hb⟩
  exact ⟨_, rfl, hb, hS.trans (hb.mono hS.size), rfl⟩
theorem yield_opS {p : Operand} {ts : Array TypeId} {q : Op} (ho : o.op = .call { callee := .value (.func 16), args := #[p], argTypes := ts }) (ep : a.eval p = q.v) (hS : Below wb.heap.size wb w) :
    Yield Tryd.prog Q (Below wb.heap.size wb) o a w (Kd.is (.bool (opB q))).holds := by
  refine Yield.call ho rfl Tryd.func16 (by kernel_rfl) rfl (args := #[q.v]) (by simp [ep]) (specOpOk_any q w) ?_
  rintro e w' ⟨rfl, hb⟩
  exact ⟨_, rfl, hb, hS.trans (hb.mono hS.size), rfl⟩
end
set_option maxHeartbeats 8000000 in
theorem fnOpDo_small (A : Option Addr) (c : Nat) (l : List UInt8) (w : World) (hR : RangesIn w) (h : Has w w.heap.size A l) (hc : l.length ≤ c) (hs : l.length ≤ 1048576) :
    Calls Tryd.prog 3 #[.slice A l.length c] w fun e w' => e = .returned (.bool true) ∧ Below w.heap.size w w' := by
  have C1 := Lib.hid (drawOpDo_any A c l w (by omega) hc h)
  have HRW := Lib.hid hR
  have hl0 : ¬ ((1048576 : Int) < (l.length : Int)) := by omega
  clear h hs hc hR
  go_enter Tryd.func3, Tryd.ntmps3
  go_wp2_with fail
  refine C1.out.mono ?_
  rintro e w1 ⟨W, H, A1, c1, l1, q, rfl, hh1, hc1, hl1, B1⟩
  obtain ⟨r, rfl, rfl, rfl⟩ : ∃ r : Rw, W = r.w ∧ H = r.h ∧ l1 = r.p := ⟨⟨W, H, l1⟩, rfl, rfl, rfl⟩
  have HD0 : ∃ d, putO r.w r.h r.p q = d := ⟨_, rfl⟩
  obtain ⟨d, hd⟩ := HD0
  have HD := Lib.hid hd
  have HL := Lib.hid hl1
  have HXS : Hid ((d.getD ra0).p.length ≤ 36) := Lib.hid (by rw [← hd]; exact put_small)
  clear hd hl1
  unfold rasV Op.v
  have b2 : Below w1.heap.size w1 ((w1.alloc (.cells #[.int .i64 r.w, .int .i64 r.h, .slice A1 r.p.length c1] 25)).alloc (.cells #[.int .i64 q.k, .int .i64 q.a, .int .i64 q.b, .int .i64 q.c, .int .i64 q.d] 27)) := ((Below.refl _ w1).alloc (Nat.le_refl _) _).alloc (by simp) _
  have HRr2 : Hid (RasAtB ((w1.alloc (.cells #[.int .i64 r.w, .int .i64 r.h, .slice A1 r.p.length c1] 25)).alloc (.cells #[.int .i64 q.k, .int .i64 q.a, .int .i64 q.b, .int .i64 q.c, .int .i64 q.d] 27)) w1.heap.size r.w r.h A1 r.p.length c1 25) := Lib.hid (Box.alloc (Box.new w1 _ _) _)
  have HOq2 : Hid (OpAtB ((w1.alloc (.cells #[.int .i64 r.w, .int .i64 r.h, .slice A1 r.p.length c1] 25)).alloc (.cells #[.int .i64 q.k, .int .i64 q.a, .int .i64 q.b, .int .i64 q.c, .int .i64 q.d] 27)) (w1.heap.size + 1) q) := Lib.hid (by
    have := Box.new (w1.alloc (.cells #[.int .i64 r.w, .int .i64 r.h, .slice A1 r.p.length c1] 25)) #[.int .i64 q.k, .int .i64 q.a, .int .i64 q.b, .int .i64 q.c, .int .i64 q.d] 27
    rw [show (w1.alloc (.cells #[.int .i64 r.w, .int .i64 r.h, .slice A1 r.p.length c1] 25)).heap.size = w1.heap.size + 1 from by simp] at this
    exact this)
  have HHr2 := Lib.hid (hh1.carry b2 (Nat.le_refl _) b2.size)
  have HB2 := Lib.hid (B1.trans (b2.mono B1.size))
  have HRT2 := Lib.hid (HRW.out.below HB2.out HRW.out.1)
  clear b2 hh1 B1 C1
  go_wp2_with fail
  generalize ((w1.alloc (.cells #[.int .i64 r.w, .int .i64 r.h, .slice A1 r.p.length c1] 25)).alloc (.cells #[.int .i64 q.k, .int .i64 q.a, .int .i64 q.b, .int .i64 q.c, .int .i64 q.d] 27)) = w2 at *
  have rc0 := RasAtB.c0 HRr2.out
  have rc1 := RasAtB.c1 HRr2.out
  have rc2 := RasAtB.c2 HRr2.out
  obtain ⟨qe0, qe1, qe2, qe3, qe4⟩ := OpAtB.cs HOq2.out
  have CE3 : Hid (Calls Tryd.prog 12 #[.agg #[.int .i64 r.w, .int .i64 r.h, .slice A1 r.p.length c1], .agg #[.int .i64 q.k, .int .i64 q.a, .int .i64 q.b, .int .i64 q.c, .int .i64 q.d]] w2 (Did d w2)) := Lib.hid (by
    have bbel : Below w2.heap.size w2 w2 := (Below.refl w2.heap.size w2)
    have := implOpDo_any r.w r.h A1 c1 r.p q (w2) (HRT2.out.next bbel) (by have := HL.out; omega) hc1 (HHr2.out.carry bbel (Nat.le_refl _) bbel.size)
    rw [HD.out] at this
    exact this)
  unfold Did at CE3
  go_wp2_with fail
  refine CE3.out.mono ?_
  rintro e w3 ⟨A3, c3, rfl, hc3, hh3, b3⟩
  clear CE3
  clear rc0 rc1 rc2 qe0 qe1 qe2 qe3 qe4
  obtain ⟨x, hx⟩ : ∃ s, d.getD ra0 = s := ⟨_, rfl⟩
  have hh3 := hh3.reads
  rw [hx] at hc3 hh3 ⊢
  have HEx := Lib.hid hx
  clear hx
  have bc3 : Below w2.heap.size w2 w3 := ((Below.refl w2.heap.size w2)).trans (b3.mono ((Below.refl w2.heap.size w2)).size)
  have HRr3 : Hid (RasAtB w3 (w1.heap.size) r.w r.h A1 r.p.length c1 25) := Lib.hid (Box.below HRr2.out bc3 (RasAtB.lt HRr2.out))
  have HHr3 : Hid (HasP w3 w3.heap.size A1 r.p) := Lib.hid (HHr2.out.carry bc3 (Nat.le_refl _) bc3.size)
  have HOq3 : Hid (OpAtB w3 (w1.heap.size + 1) q) := Lib.hid (Box.below HOq2.out bc3 (Box.lt HOq2.out))
  have HB3 := Lib.hid (HB2.out.trans (bc3.mono HB2.out.size))
  have HRT3 : Hid (RangesIn w3) := Lib.hid (HRT2.out.next bc3)
  clear HRr2 HHr2 HOq2 HB2 HRT2
  clear bc3
  have HHx3 : Hid (HasP w3 w3.heap.size A3 x.p) := Lib.hid hh3
  clear hh3 b3
  have HRx3 : Hid (RasAtB (w3.alloc (.cells #[.int .i64 (x.w : Int), .int .i64 (x.h : Int), .slice A3 x.p.length c3] 25)) (w3.heap.size) x.w x.h A3 x.p.length c3 25) := Lib.hid (Box.new w3 _ _)
  have rc0 := RasAtB.c0 HRr3.out
  have rc1 := RasAtB.c1 HRr3.out
  have rc2 := RasAtB.c2 HRr3.out
  obtain ⟨qe0, qe1, qe2, qe3, qe4⟩ := OpAtB.cs HOq3.out
  have rn0 : w1.heap.size < w3.heap.size := by have := RasAtB.lt HRr3.out; omega
  have qn0 : w1.heap.size + 1 < w3.heap.size := by have := Box.lt HOq3.out; omega
  have CE4 : Hid (Calls Tryd.prog 13 #[.agg #[.int .i64 r.w, .int .i64 r.h, .slice A1 r.p.length c1], .agg #[.int .i64 q.k, .int .i64 q.a, .int .i64 q.b, .int .i64 q.c, .int .i64 q.d]] (w3.alloc (.cells #[.int .i64 (x.w : Int), .int .i64 (x.h : Int), .slice A3 x.p.length c3] 25)) (Did d (w3.alloc (.cells #[.int .i64 (x.w : Int), .int .i64 (x.h : Int), .slice A3 x.p.length c3] 25)))) := Lib.hid (by
    have bbel : Below w3.heap.size w3 (w3.alloc (.cells #[.int .i64 (x.w : Int), .int .i64 (x.h : Int), .slice A3 x.p.length c3] 25)) := ((Below.refl w3.heap.size w3).alloc (Nat.le_refl _) _)
    have := specOpDo_any r.w r.h A1 c1 r.p q ((w3.alloc (.cells #[.int .i64 (x.w : Int), .int .i64 (x.h : Int), .slice A3 x.p.length c3] 25))) (by have := HL.out; omega) hc1 (HHr3.out.carry bbel (Nat.le_refl _) bbel.size)
    rw [HD.out] at this
    exact this)
  unfold Did at CE4
  go_wp2_with fail
  refine CE4.out.mono ?_
  rintro e w4 ⟨A4, c4, rfl, hc4, hh4, b4⟩
  clear CE4
  clear rc0 rc1 rc2 qe0 qe1 qe2 qe3 qe4 rn0 qn0
  obtain ⟨wx, hwx⟩ : ∃ s, d.getD ra0 = s := ⟨_, rfl⟩
  have hh4 := hh4.reads
  rw [hwx] at hc4 hh4 ⊢
  have HEwx := Lib.hid hwx
  clear hwx
  have bc4 : Below w3.heap.size w3 w4 := (((Below.refl w3.heap.size w3).alloc (Nat.le_refl _) _)).trans (b4.mono (((Below.refl w3.heap.size w3).alloc (Nat.le_refl _) _)).size)
  have HRx4 : Hid (RasAtB w4 (w3.heap.size) x.w x.h A3 x.p.length c3 25) := Lib.hid (Box.below HRx3.out b4 (RasAtB.lt HRx3.out))
  have HHx4 : Hid (HasP w4 w4.heap.size A3 x.p) := Lib.hid (HHx3.out.carry bc4 (Nat.le_refl _) bc4.size)
  have HRr4 : Hid (RasAtB w4 (w1.heap.size) r.w r.h A1 r.p.length c1 25) := Lib.hid (Box.below HRr3.out bc4 (RasAtB.lt HRr3.out))
  have HHr4 : Hid (HasP w4 w4.heap.size A1 r.p) := Lib.hid (HHr3.out.carry bc4 (Nat.le_refl _) bc4.size)
  have HOq4 : Hid (OpAtB w4 (w1.heap.size + 1) q) := Lib.hid (Box.below HOq3.out bc4 (Box.lt HOq3.out))
  have HB4 := Lib.hid (HB3.out.trans (bc4.mono HB3.out.size))
  have HRT4 : Hid (RangesIn w4) := Lib.hid (HRT3.out.next bc4)
  clear HRr3 HHr3 HRx3 HHx3 HOq3 HB3 HRT3
  clear bc4
  have HHwx4 : Hid (HasP w4 w4.heap.size A4 wx.p) := Lib.hid hh4
  clear hh4 b4
  have HRwx4 : Hid (RasAtB (w4.alloc (.cells #[.int .i64 (wx.w : Int), .int .i64 (wx.h : Int), .slice A4 wx.p.length c4] 25)) (w4.heap.size) wx.w wx.h A4 wx.p.length c4 25) := Lib.hid (Box.new w4 _ _)
  obtain rfl : x = wx := by rw [← HEx.out]; exact HEwx.out
  clear HEwx
  have HBN5 : Hid (Below w4.heap.size w4 (w4.alloc (.cells #[.int .i64 (x.w : Int), .int .i64 (x.h : Int), .slice A4 x.p.length c4] 25))) := Lib.hid ((Below.refl w4.heap.size w4).alloc (Nat.le_refl _) _)
  go_wp2_with fail
  generalize w4.alloc (.cells #[.int .i64 (x.w : Int), .int .i64 (x.h : Int), .slice A4 x.p.length c4] 25) = w5 at *
  have b5 := HBN5.out
  have HRwx5 : Hid (RasAtB w5 (w4.heap.size) x.w x.h A4 x.p.length c4 25) := HRwx4
  have HHwx5 : Hid (HasP w5 w5.heap.size A4 x.p) := Lib.hid (HHwx4.out.carry b5 (Nat.le_refl _) b5.size)
  have HRr5 : Hid (RasAtB w5 (w1.heap.size) r.w r.h A1 r.p.length c1 25) := Lib.hid (Box.below HRr4.out b5 (RasAtB.lt HRr4.out))
  have HHr5 : Hid (HasP w5 w5.heap.size A1 r.p) := Lib.hid (HHr4.out.carry b5 (Nat.le_refl _) b5.size)
  have HRx5 : Hid (RasAtB w5 (w3.heap.size) x.w x.h A3 x.p.length c3 25) := Lib.hid (Box.below HRx4.out b5 (RasAtB.lt HRx4.out))
  have HHx5 : Hid (HasP w5 w5.heap.size A3 x.p) := Lib.hid (HHx4.out.carry b5 (Nat.le_refl _) b5.size)
  have HOq5 : Hid (OpAtB w5 (w1.heap.size + 1) q) := Lib.hid (Box.below HOq4.out b5 (Box.lt HOq4.out))
  have HB5 := Lib.hid (HB4.out.trans (b5.mono HB4.out.size))
  have HRT5 : Hid (RangesIn w5) := Lib.hid (HRT4.out.next b5)
  clear HRr4 HHr4 HRx4 HHx4 HRwx4 HHwx4 HOq4 HB4 HRT4
  clear b5 HBN5
  have HX36 : Hid (x.p.length ≤ 36) := Lib.hid (by rw [← HEx.out]; exact HXS.out)
  clear HXS
  have hbd : Below w5.heap.size w5 w5.drew := below_draws (Below.refl _ _) 1
  have hRrb : RasAtB w5.drew (w1.heap.size) r.w r.h A1 r.p.length c1 25 := Box.below HRr5.out hbd (RasAtB.lt HRr5.out)
  have hHrb : HasP w5.drew w5.drew.heap.size A1 r.p := HHr5.out.carry hbd (Nat.le_refl _) hbd.size
  have hRxb : RasAtB w5.drew (w3.heap.size) x.w x.h A3 x.p.length c3 25 := Box.below HRx5.out hbd (RasAtB.lt HRx5.out)
  have hHxb : HasP w5.drew w5.drew.heap.size A3 x.p := HHx5.out.carry hbd (Nat.le_refl _) hbd.size
  have hRwxb : RasAtB w5.drew (w4.heap.size) x.w x.h A4 x.p.length c4 25 := Box.below HRwx5.out hbd (RasAtB.lt HRwx5.out)
  have hHwxb : HasP w5.drew w5.drew.heap.size A4 x.p := HHwx5.out.carry hbd (Nat.le_refl _) hbd.size
  have hOqb : OpAtB w5.drew (w1.heap.size + 1) q := Box.below HOq5.out hbd (Box.lt HOq5.out)
  have hRTb : RangesIn w5.drew := HRT5.out.next hbd
  refine wp_region_kd 133 [31, 32, 33, 34, 35, 36, 37, 38, 39, 40, 41, 42, 43, 44, 45, 46] [(31, .ras x), (32, .ras x), (33, .is (.bool true)), (34, .is (.bool false)), (35, .is (.bool false)), (36, .is (.bool d.isSome)), (37, .is (.bool d.isSome)), (38, .is (.bool false)), (39, .is (.bool false)), (40, .is (.bool false)), (41, .is (q.v)), (42, .is (.bool (opB q))), (43, .is (q.v)), (44, .is (.bool (opB q))), (45, .is (.bool false)), (46, .is (.bool false))] (Below w5.drew.heap.size w5.drew) (by kernel_rfl) (by kernel_rfl) rfl rfl (by decide) (by decide) rfl rfl (Below.refl _ _) ?_ ?_
  · intro i o V w ho hS hV hd
    have hi : i < 16 := (Array.getElem?_eq_some_iff.1 ho).1
    have hi2 : i = 0 ∨ i = 1 ∨ i = 2 ∨ i = 3 ∨ i = 4 ∨ i = 5 ∨ i = 6 ∨ i = 7 ∨ i = 8 ∨ i = 9 ∨ i = 10 ∨ i = 11 ∨ i = 12 ∨ i = 13 ∨ i = 14 ∨ i = 15 := by omega
    clear hi
    rcases hi2 with rfl | rfl | rfl | rfl | rfl | rfl | rfl | rfl | rfl | rfl | rfl | rfl | rfl | rfl | rfl | rfl
    · obtain rfl : _ = o := Option.some.inj ((show _ = some _ from rfl).symm.trans ho)
      have x5 : V 5 = .pointer (some ⟨w3.heap.size, 0, none⟩) := (hV 5 (by simp)).trans rfl
      refine ⟨fun _ => ?_, fun hw => absurd (show true = false from hw) (by decide)⟩
      · exact yield_ras rfl ((frame_eval V (by decide)).trans x5) hRxb hc3 hHxb hS
    · obtain rfl : _ = o := Option.some.inj ((show _ = some _ from rfl).symm.trans ho)
      have x7 : V 7 = .pointer (some ⟨w4.heap.size, 0, none⟩) := (hV 7 (by simp)).trans rfl
      refine ⟨fun _ => ?_, fun hw => absurd (show true = false from hw) (by decide)⟩
      · exact yield_ras rfl ((frame_eval V (by decide)).trans x7) hRwxb hc4 hHwxb hS
    · obtain rfl : _ = o := Option.some.inj ((show _ = some _ from rfl).symm.trans ho)
      have d0 : IsRa x w (V 31) := hd ⟨0, .data⟩ (by simp) rfl
      have d1 : IsRa x w (V 32) := hd ⟨1, .data⟩ (by simp) rfl
      refine ⟨fun _ => ?_, fun hw => absurd (show true = false from hw) (by decide)⟩
      · exact yield_eaRasL rfl (frame_eval V (by decide)) (frame_eval V (by decide)) d0 d1 HX36.out hS
    · obtain rfl : _ = o := Option.some.inj ((show _ = some _ from rfl).symm.trans ho)
      have d2 : V 33 = .bool true := hd ⟨2, .data⟩ (by simp) rfl
      refine ⟨fun _ => ?_, fun hw => absurd (show true = false from hw) (by decide)⟩
      · exact yield_not rfl ((frame_eval V (by decide)).trans d2) hS
    · obtain rfl : _ = o := Option.some.inj ((show _ = some _ from rfl).symm.trans ho)
      have d3 : V 34 = .bool false := hd ⟨3, .data⟩ (by simp) rfl
      refine ⟨fun _ => ?_, fun hw => absurd (show true = false from hw) (by decide)⟩
      · exact yield_copy (.inl rfl) ((frame_eval V (by decide)).trans d3) hS
    · obtain rfl : _ = o := Option.some.inj ((show _ = some _ from rfl).symm.trans ho)
      have x6 : V 6 = .bool d.isSome := (hV 6 (by simp)).trans rfl
      have gd : V 35 = .bool false := hd ⟨4, .guard⟩ (by simp) rfl
      refine ⟨fun _ => ?_, fun hw => absurd ((wanted_of rfl rfl (by decide) gd).symm.trans hw) (by decide)⟩
      · exact yield_copy (.inl rfl) ((frame_eval V (by decide)).trans x6) hS
    · obtain rfl : _ = o := Option.some.inj ((show _ = some _ from rfl).symm.trans ho)
      have x8 : V 8 = .bool d.isSome := (hV 8 (by simp)).trans rfl
      have gd : V 35 = .bool false := hd ⟨4, .guard⟩ (by simp) rfl
      refine ⟨fun _ => ?_, fun hw => absurd ((wanted_of rfl rfl (by decide) gd).symm.trans hw) (by decide)⟩
      · exact yield_copy (.inl rfl) ((frame_eval V (by decide)).trans x8) hS
    · obtain rfl : _ = o := Option.some.inj ((show _ = some _ from rfl).symm.trans ho)
      have d5 : V 36 = .bool d.isSome := hd ⟨5, .data⟩ (by simp) rfl
      have d6 : V 37 = .bool d.isSome := hd ⟨6, .data⟩ (by simp) rfl
      have gd : V 35 = .bool false := hd ⟨4, .guard⟩ (by simp) rfl
      refine ⟨fun _ => ?_, fun hw => absurd ((wanted_of rfl rfl (by decide) gd).symm.trans hw) (by decide)⟩
      · exact yield_neqB rfl ((frame_eval V (by decide)).trans d5) ((frame_eval V (by decide)).trans d6) hS
    · obtain rfl : _ = o := Option.some.inj ((show _ = some _ from rfl).symm.trans ho)
      have d4 : V 35 = .bool false := hd ⟨4, .data⟩ (by simp) rfl
      have d7 : V 38 = .bool false := hd ⟨7, .data⟩ (by simp) rfl
      refine ⟨fun _ => ?_, fun hw => absurd (show true = false from hw) (by decide)⟩
      · exact yield_pickF rfl ((frame_eval V (by decide)).trans d4) ((frame_eval V (by decide)).trans d7) hS
    · obtain rfl : _ = o := Option.some.inj ((show _ = some _ from rfl).symm.trans ho)
      have d8 : V 39 = .bool false := hd ⟨8, .data⟩ (by simp) rfl
      refine ⟨fun _ => ?_, fun hw => absurd (show true = false from hw) (by decide)⟩
      · exact yield_copy (.inl rfl) ((frame_eval V (by decide)).trans d8) hS
    · obtain rfl : _ = o := Option.some.inj ((show _ = some _ from rfl).symm.trans ho)
      have x4 : V 4 = .pointer (some ⟨w1.heap.size + 1, 0, none⟩) := (hV 4 (by simp)).trans rfl
      have gd : V 40 = .bool false := hd ⟨9, .guard⟩ (by simp) rfl
      refine ⟨fun _ => ?_, fun hw => absurd ((wanted_of rfl rfl (by decide) gd).symm.trans hw) (by decide)⟩
      · exact yield_op rfl ((frame_eval V (by decide)).trans x4) hOqb hS
    · obtain rfl : _ = o := Option.some.inj ((show _ = some _ from rfl).symm.trans ho)
      have d10 : V 41 = q.v := hd ⟨10, .data⟩ (by simp) rfl
      have gd : V 40 = .bool false := hd ⟨9, .guard⟩ (by simp) rfl
      refine ⟨fun _ => ?_, fun hw => absurd ((wanted_of rfl rfl (by decide) gd).symm.trans hw) (by decide)⟩
      · exact yield_opI rfl ((frame_eval V (by decide)).trans d10) hRTb hS
    · obtain rfl : _ = o := Option.some.inj ((show _ = some _ from rfl).symm.trans ho)
      have x4 : V 4 = .pointer (some ⟨w1.heap.size + 1, 0, none⟩) := (hV 4 (by simp)).trans rfl
      have gd : V 40 = .bool false := hd ⟨9, .guard⟩ (by simp) rfl
      refine ⟨fun _ => ?_, fun hw => absurd ((wanted_of rfl rfl (by decide) gd).symm.trans hw) (by decide)⟩
      · exact yield_op rfl ((frame_eval V (by decide)).trans x4) hOqb hS
    · obtain rfl : _ = o := Option.some.inj ((show _ = some _ from rfl).symm.trans ho)
      have d12 : V 43 = q.v := hd ⟨12, .data⟩ (by simp) rfl
      have gd : V 40 = .bool false := hd ⟨9, .guard⟩ (by simp) rfl
      refine ⟨fun _ => ?_, fun hw => absurd ((wanted_of rfl rfl (by decide) gd).symm.trans hw) (by decide)⟩
      · exact yield_opS rfl ((frame_eval V (by decide)).trans d12) hS
    · obtain rfl : _ = o := Option.some.inj ((show _ = some _ from rfl).symm.trans ho)
      have d11 : V 42 = .bool (opB q) := hd ⟨11, .data⟩ (by simp) rfl
      have d13 : V 44 = .bool (opB q) := hd ⟨13, .data⟩ (by simp) rfl
      have gd : V 40 = .bool false := hd ⟨9, .guard⟩ (by simp) rfl
      refine ⟨fun _ => ?_, fun hw => absurd ((wanted_of rfl rfl (by decide) gd).symm.trans hw) (by decide)⟩
      · exact yield_neqB rfl ((frame_eval V (by decide)).trans d11) ((frame_eval V (by decide)).trans d13) hS
    · obtain rfl : _ = o := Option.some.inj ((show _ = some _ from rfl).symm.trans ho)
      have d9 : V 40 = .bool false := hd ⟨9, .data⟩ (by simp) rfl
      have d14 : V 45 = .bool false := hd ⟨14, .data⟩ (by simp) rfl
      refine ⟨fun _ => ?_, fun hw => absurd (show true = false from hw) (by decide)⟩
      · exact yield_pickF rfl ((frame_eval V (by decide)).trans d9) ((frame_eval V (by decide)).trans d14) hS
  · intro V wx hS hV hall
    have dl : V 46 = .bool false := hall 15 (by decide)
    rw [frame_all (n := 133) (D := [31, 32, 33, 34, 35, 36, 37, 38, 39, 40, 41, 42, 43, 44, 45, 46]) rfl rfl (by decide) hV]
    simp only [List.foldl_cons, List.foldl_nil, Act.put, List.setIfInBounds_toArray, List.set_cons_zero, List.set_cons_succ]
    rw [dl]
    have hbx : Below w5.heap.size w5 wx := hbd.trans (hS.mono hbd.size)
    clear hall hV dl hS hRrb hHrb hRxb hHxb hRwxb hHwxb hOqb hRTb hbd
    have HRr6 : Hid (RasAtB wx (w1.heap.size) r.w r.h A1 r.p.length c1 25) := Lib.hid (Box.below HRr5.out hbx (RasAtB.lt HRr5.out))
    have HHr6 : Hid (HasP wx wx.heap.size A1 r.p) := Lib.hid (HHr5.out.carry hbx (Nat.le_refl _) hbx.size)
    have HRx6 : Hid (RasAtB wx (w3.heap.size) x.w x.h A3 x.p.length c3 25) := Lib.hid (Box.below HRx5.out hbx (RasAtB.lt HRx5.out))
    have HHx6 : Hid (HasP wx wx.heap.size A3 x.p) := Lib.hid (HHx5.out.carry hbx (Nat.le_refl _) hbx.size)
    have HRwx6 : Hid (RasAtB wx (w4.heap.size) x.w x.h A4 x.p.length c4 25) := Lib.hid (Box.below HRwx5.out hbx (RasAtB.lt HRwx5.out))
    have HHwx6 : Hid (HasP wx wx.heap.size A4 x.p) := Lib.hid (HHwx5.out.carry hbx (Nat.le_refl _) hbx.size)
    have HOq6 : Hid (OpAtB wx (w1.heap.size + 1) q) := Lib.hid (Box.below HOq5.out hbx (Box.lt HOq5.out))
    have HB6 := Lib.hid (HB5.out.trans (hbx.mono HB5.out.size))
    have HRT6 : Hid (RangesIn wx) := Lib.hid (HRT5.out.next hbx)
    clear hbx
    have rc0 := RasAtB.c0 HRr6.out
    have rc1 := RasAtB.c1 HRr6.out
    have rc2 := RasAtB.c2 HRr6.out
    obtain ⟨qe0, qe1, qe2, qe3, qe4⟩ := OpAtB.cs HOq6.out
    have CK7 := Lib.hid (specRasOk_any r.w r.h A1 c1 r.p wx (by have := HL.out; omega) HHr6.out)
    unfold rasV at CK7
    go_wp2_with fail
    refine CK7.out.mono ?_
    rintro e w7 ⟨rfl, b7⟩
    clear CK7
    clear rc0 rc1 rc2 qe0 qe1 qe2 qe3 qe4
    have bb7 : Below wx.heap.size wx w7 := ((Below.refl wx.heap.size wx)).trans (b7.mono ((Below.refl wx.heap.size wx)).size)
    have bc7 : Below wx.heap.size wx w7 := ((Below.refl wx.heap.size wx)).trans (bb7.mono ((Below.refl wx.heap.size wx)).size)
    have HRr7 : Hid (RasAtB w7 (w1.heap.size) r.w r.h A1 r.p.length c1 25) := Lib.hid (Box.below HRr6.out bc7 (RasAtB.lt HRr6.out))
    have HHr7 : Hid (HasP w7 w7.heap.size A1 r.p) := Lib.hid (HHr6.out.carry bc7 (Nat.le_refl _) bc7.size)
    have HRx7 : Hid (RasAtB w7 (w3.heap.size) x.w x.h A3 x.p.length c3 25) := Lib.hid (Box.below HRx6.out bc7 (RasAtB.lt HRx6.out))
    have HHx7 : Hid (HasP w7 w7.heap.size A3 x.p) := Lib.hid (HHx6.out.carry bc7 (Nat.le_refl _) bc7.size)
    have HRwx7 : Hid (RasAtB w7 (w4.heap.size) x.w x.h A4 x.p.length c4 25) := Lib.hid (Box.below HRwx6.out bc7 (RasAtB.lt HRwx6.out))
    have HHwx7 : Hid (HasP w7 w7.heap.size A4 x.p) := Lib.hid (HHwx6.out.carry bc7 (Nat.le_refl _) bc7.size)
    have HOq7 : Hid (OpAtB w7 (w1.heap.size + 1) q) := Lib.hid (Box.below HOq6.out bc7 (Box.lt HOq6.out))
    have HB7 := Lib.hid (HB6.out.trans (bc7.mono HB6.out.size))
    have HRT7 : Hid (RangesIn w7) := Lib.hid (HRT6.out.next bc7)
    clear HRr6 HHr6 HRx6 HHx6 HRwx6 HHwx6 HOq6 HB6 HRT6
    clear bb7 bc7
    clear b7
    obtain ⟨q0, hq0⟩ : ∃ q0, rasB r.w r.h r.p = q0 := ⟨_, rfl⟩
    have HQ0 := Lib.hid hq0
    rw [hq0]
    clear hq0
    cases q0
    · obtain rfl : d = none := by rw [← HD.out]; unfold putO; rw [HQ0.out]; rfl
      obtain rfl : x = ra0 := by rw [← HEx.out]; rfl
      have z2 := RasAtB.c2 HRx7.out
      rw [show ra0.p.length = 0 from rfl] at z2
      go_wp2_with fail
      refine (eaOk_any _).mono ?_
      rintro e w8 ⟨rfl, b8⟩
      have HE := Lib.hid (HB7.out.trans (b8.mono HB7.out.size))
      clear b8 z2
      go_wp2_with fail
      go_ret
      exact ⟨rfl, HE.out⟩
    have CK8 := Lib.hid (specOpOk_any q w7)
    unfold Op.v at CK8
    obtain ⟨qe0, qe1, qe2, qe3, qe4⟩ := OpAtB.cs HOq7.out
    go_wp2_with fail
    refine CK8.out.mono ?_
    rintro e w8 ⟨rfl, b8⟩
    clear CK8
    clear qe0 qe1 qe2 qe3 qe4
    have bb8 : Below w7.heap.size w7 w8 := ((Below.refl w7.heap.size w7)).trans (b8.mono ((Below.refl w7.heap.size w7)).size)
    have bc8 : Below w7.heap.size w7 w8 := ((Below.refl w7.heap.size w7)).trans (bb8.mono ((Below.refl w7.heap.size w7)).size)
    have HRr8 : Hid (RasAtB w8 (w1.heap.size) r.w r.h A1 r.p.length c1 25) := Lib.hid (Box.below HRr7.out bc8 (RasAtB.lt HRr7.out))
    have HHr8 : Hid (HasP w8 w8.heap.size A1 r.p) := Lib.hid (HHr7.out.carry bc8 (Nat.le_refl _) bc8.size)
    have HRx8 : Hid (RasAtB w8 (w3.heap.size) x.w x.h A3 x.p.length c3 25) := Lib.hid (Box.below HRx7.out bc8 (RasAtB.lt HRx7.out))
    have HHx8 : Hid (HasP w8 w8.heap.size A3 x.p) := Lib.hid (HHx7.out.carry bc8 (Nat.le_refl _) bc8.size)
    have HRwx8 : Hid (RasAtB w8 (w4.heap.size) x.w x.h A4 x.p.length c4 25) := Lib.hid (Box.below HRwx7.out bc8 (RasAtB.lt HRwx7.out))
    have HHwx8 : Hid (HasP w8 w8.heap.size A4 x.p) := Lib.hid (HHwx7.out.carry bc8 (Nat.le_refl _) bc8.size)
    have HOq8 : Hid (OpAtB w8 (w1.heap.size + 1) q) := Lib.hid (Box.below HOq7.out bc8 (Box.lt HOq7.out))
    have HB8 := Lib.hid (HB7.out.trans (bc8.mono HB7.out.size))
    have HRT8 : Hid (RangesIn w8) := Lib.hid (HRT7.out.next bc8)
    clear HRr7 HHr7 HRx7 HHx7 HRwx7 HHwx7 HOq7 HB7 HRT7
    clear bb8 bc8
    clear b8
    obtain ⟨q1, hq1⟩ : ∃ q1, opB q = q1 := ⟨_, rfl⟩
    have HQ1 := Lib.hid hq1
    rw [hq1]
    clear hq1
    cases q1
    · obtain rfl : d = none := by rw [← HD.out]; unfold putO; rw [HQ1.out, Bool.and_false]; rfl
      obtain rfl : x = ra0 := by rw [← HEx.out]; rfl
      have z2 := RasAtB.c2 HRx8.out
      rw [show ra0.p.length = 0 from rfl] at z2
      go_wp2_with fail
      refine (eaOk_any _).mono ?_
      rintro e w9 ⟨rfl, b9⟩
      have HE := Lib.hid (HB8.out.trans (b9.mono HB8.out.size))
      clear b9 z2
      go_wp2_with fail
      go_ret
      exact ⟨rfl, HE.out⟩
    have hsh : Shape r.w r.h q d := by rw [← HD.out]; exact put_shape HQ0.out HQ1.out
    obtain ⟨gW, gH, -, -⟩ := rasB_parts HQ0.out
    have rc0 := RasAtB.c0 HRr8.out
    have rc1 := RasAtB.c1 HRr8.out
    have rc2 := RasAtB.c2 HRr8.out
    obtain ⟨qe0, qe1, qe2, qe3, qe4⟩ := OpAtB.cs HOq8.out
    rcases hsh with ⟨hk, ho, rfl⟩ | ⟨s, rfl, hsok, hsh⟩
    · obtain ⟨i1, i2, i3, i4⟩ := opB_1 hk HQ1.out
      by_cases hx : r.w < q.a + q.c
      all_goals (
        try have hy : r.h < q.b + q.d := by omega
        obtain rfl : x = ra0 := by rw [← HEx.out]; rfl
        have z2 := RasAtB.c2 HRx8.out
        rw [show ra0.p.length = 0 from rfl] at z2
        have e1 : (q.k == 1) = true := by rw [hk]; rfl
        clear hk ho HD HEx hh3 hh4 HRwx5 HHwx5 HRx5 HHx5 HRr5 HHr5 HOq5 HX36
        go_wp2_with fail
        go_ret
        exact ⟨rfl, HB8.out⟩)
    obtain rfl : s = x := HEx.out
    have CKX := Lib.hid fun u hh => implRasOk_any s.w s.h A3 c3 s.p u (by have := HX36.out; omega) hh
    rw [show rasB s.w s.h s.p = true from hsok] at CKX
    unfold rasV at CKX
    have z0 := RasAtB.c0 HRx8.out
    have z1 := RasAtB.c1 HRx8.out
    have z2 := RasAtB.c2 HRx8.out
    rcases hsh with ⟨hk, ho, hw, hh⟩ | ⟨hk, hw, hh⟩ | ⟨hk, hw, hh⟩ | ⟨hk, hw, hh⟩
    · obtain ⟨i1, i2, i3, i4⟩ := opB_1 hk HQ1.out
      obtain ⟨o1, o2⟩ := ho
      have hwb : ((s.w : Int) == q.c) = true := by rw [hw]; exact beq_self_eq_true _
      have hhb : ((s.h : Int) == q.d) = true := by rw [hh]; exact beq_self_eq_true _
      have e1 : (q.k == 1) = true := by rw [hk]; rfl
      clear hk hw hh HD HEx
      go_wp2_with fail
      refine (CKX.out _ HHx8.out).mono ?_
      rintro e w9 ⟨rfl, b9⟩
      have HR9 := Lib.hid (Box.below HRx8.out b9 (RasAtB.lt HRx8.out))
      have HB9 := Lib.hid (HB8.out.trans (b9.mono HB8.out.size))
      clear b9 z0 z1 z2
      have z0 := RasAtB.c0 HR9.out
      have z1 := RasAtB.c1 HR9.out
      go_wp2_with fail
      go_ret
      exact ⟨rfl, HB9.out⟩
    · have hwb : ((s.w : Int) == r.h) = true := by rw [hw]; exact beq_self_eq_true _
      have hhb : ((s.h : Int) == r.w) = true := by rw [hh]; exact beq_self_eq_true _
      have e1 : (q.k == 1) = false := by rw [hk]; rfl
      have e4 : (q.k == 4) = true := by rw [hk]; rfl
      clear hk hw hh HD HEx
      go_wp2_with fail
      refine (CKX.out _ HHx8.out).mono ?_
      rintro e w9 ⟨rfl, b9⟩
      have HR9 := Lib.hid (Box.below HRx8.out b9 (RasAtB.lt HRx8.out))
      have HB9 := Lib.hid (HB8.out.trans (b9.mono HB8.out.size))
      clear b9 z0 z1 z2
      have z0 := RasAtB.c0 HR9.out
      have z1 := RasAtB.c1 HR9.out
      go_wp2_with fail
      go_ret
      exact ⟨rfl, HB9.out⟩
    · have hwb : ((s.w : Int) == q.a) = true := by rw [hw]; exact beq_self_eq_true _
      have hhb : ((s.h : Int) == q.b) = true := by rw [hh]; exact beq_self_eq_true _
      have e1 : (q.k == 1) = false := by rw [hk]; rfl
      have e4 : (q.k == 4) = false := by rw [hk]; rfl
      have e7 : (q.k == 7) = true := by rw [hk]; rfl
      clear hk hw hh HD HEx
      go_wp2_with fail
      refine (CKX.out _ HHx8.out).mono ?_
      rintro e w9 ⟨rfl, b9⟩
      have HR9 := Lib.hid (Box.below HRx8.out b9 (RasAtB.lt HRx8.out))
      have HB9 := Lib.hid (HB8.out.trans (b9.mono HB8.out.size))
      clear b9 z0 z1 z2
      have z0 := RasAtB.c0 HR9.out
      have z1 := RasAtB.c1 HR9.out
      go_wp2_with fail
      go_ret
      exact ⟨rfl, HB9.out⟩
    · have hwb : ((s.w : Int) == r.w) = true := by rw [hw]; exact beq_self_eq_true _
      have hhb : ((s.h : Int) == r.h) = true := by rw [hh]; exact beq_self_eq_true _
      have e1 : (q.k == 1) = false := by simpa using hk.1
      have e4 : (q.k == 4) = false := by simpa using hk.2.1
      have e7 : (q.k == 7) = false := by simpa using hk.2.2
      clear hk hw hh HD HEx
      go_wp2_with fail
      refine (CKX.out _ HHx8.out).mono ?_
      rintro e w9 ⟨rfl, b9⟩
      have HR9 := Lib.hid (Box.below HRx8.out b9 (RasAtB.lt HRx8.out))
      have HB9 := Lib.hid (HB8.out.trans (b9.mono HB8.out.size))
      clear b9 z0 z1 z2
      have z0 := RasAtB.c0 HR9.out
      have z1 := RasAtB.c1 HR9.out
      go_wp2_with fail
      go_ret
      exact ⟨rfl, HB9.out⟩
theorem fnOpDo_walk (A : Option Addr) (c : Nat) (l : List UInt8) (w : World) (hR : RangesIn w) (h : Has w w.heap.size A l) (hc : l.length ≤ c) :
    Calls Tryd.prog 3 #[.slice A l.length c] w fun e w' => e = .returned (.bool true) ∧ Below w.heap.size w w' := by
  by_cases hbig : l.length ≤ 1048576
  · exact fnOpDo_small A c l w hR h hc hbig
  · have hl0 : (1048576 : Int) < (l.length : Int) := by omega
    clear h hc hbig
    go_enter Tryd.func3, Tryd.ntmps3
    go_wp2_with fail
    go_ret
    exact ⟨rfl, Below.refl _ _⟩
end Go.Proofs.YtjfcgdjieohpiaaDoor
