/-
  FnExactAskText: the program and the reference write the same text of every request. Condition: the listed variables hold what they must.
-/
import Derived.Test.YtbejafbpipdbjaaDoorAskQ
import Derived.Test.YtbejafbpipdbjaaDoorAskT
import Derived.Test.YtbejafbpipdbjaaDoorAskTS
import Derived.Test.YtbejafbpipdbjaaDoorAskIn
import Derived.Test.YtbejafbpipdbjaaDoorUrlL
import Derived.Test.YtbejafbpipdbjaaDoorRegH
namespace Go.Proofs.YtbejafbpipdbjaaDoor
set_option maxRecDepth 4000
open Go.RowKit

set_option maxHeartbeats 1000000 in
theorem fnExactAskText_small (A : Option Addr) (c : Nat) (a : Ask) (w : World) (hE : EnvW w w.heap.size) (h : opL.Has w w.heap.size A a.ops) (hs : (a.ops.length : Int) + (a.path.length : Int) ≤ 1048576) :
    Calls Tryd.prog 6 #[askV A a.ops.length c a.path a.till] w fun e w' => e = .returned (.bool true) ∧ Below w.heap.size w w' := by
  have CZ := Lib.hid fun u => szUrlAsk_any A a.ops.length c a.path a.till 1048576 u (by omega) (by unfold maxLen; omega) (by rw [bs_size]; unfold maxLen; omega)
  rw [if_pos hs] at CZ
  have b0 : Below w.heap.size w (w.alloc (.cells #[.slice A a.ops.length c, .string (bs a.path), .int .i64 a.till] 34)) := (Below.refl _ w).alloc (Nat.le_refl _) _
  have X0 : Hid (Box (w.alloc (.cells #[.slice A a.ops.length c, .string (bs a.path), .int .i64 a.till] 34)) w.heap.size #[.slice A a.ops.length c, .string (bs a.path), .int .i64 a.till] 34) := Lib.hid (Box.new w _ _)
  have HB := Lib.hid b0
  have CT := Lib.hid fun u (hb : Below w.heap.size w u) => toUrlAsk_any A c a.ops a.path a.till u (by omega) (h.carry hb (Nat.le_refl _) hb.size)
  have CS := Lib.hid fun g u hh => specAskText_any a g a.ops.length u (by omega) (by unfold maxLen; omega) hh
  have CI := Lib.hid fun g u (hb : Below w.heap.size w u) hh => implAskText_any a g a.ops.length w.heap.size u (by omega) (by omega) (hE.below hb) hb.size hh
  have CE := Lib.hid fun g g' u hh hh' => eqUrlAsk_same g g' a.ops.length a.ops.length a.ops a.path a.till u (by omega) hh hh'
  obtain ⟨x, hx⟩ : ∃ x, askTx a = x := ⟨_, rfl⟩
  rw [hx] at CS CI
  obtain ⟨n, hn⟩ : ∃ n, a.ops.length = n := ⟨_, rfl⟩
  obtain ⟨m, hm⟩ : ∃ m, a.path.length = m := ⟨_, rfl⟩
  rw [hn] at CZ CT CS CI CE hs X0 HB ⊢
  rw [hm] at CZ hs
  have k1 : ¬ ((1048576 : Int) - (n : Int) - (m : Int) < 0) := by omega
  have hq : ∀ a : List UInt8, ((bs a).toList == (bs a).toList) = true := fun a => by simp
  unfold askV at CZ CT CS CI CE ⊢
  clear hn hm hx h hs b0 hE
  go_enter Tryd.func6, Tryd.ntmps6
  go_wp2_with fail
  refine (CZ.out _).mono ?_
  rintro e w1 ⟨rfl, b1⟩
  have B1 := Lib.hid (HB.out.trans (b1.mono HB.out.size))
  have X1 := Lib.hid (X0.out.next b1)
  have d0 := X1.out.cell (i := 0) (v := .slice A n c) rfl
  have d1 := X1.out.cell (i := 1) (v := .string (bs a.path)) rfl
  have d2 := X1.out.cell (i := 2) (v := .int .i64 a.till) rfl
  clear b1 X0 HB
  go_wp2_with fail
  refine (CT.out _ B1.out).mono ?_
  rintro e w2 ⟨g, rfl, o2, b2⟩
  have B2 := Lib.hid (B1.out.trans (b2.mono B1.out.size))
  have X2 := Lib.hid (X1.out.next b2)
  have O2 := Lib.hid o2
  clear o2 b2 d0 d1 d2 X1 B1
  go_wp2_with fail
  refine (CS.out _ _ O2.out.reads).mono ?_
  rintro e w3 ⟨rfl, b3⟩
  have B3 := Lib.hid (B2.out.trans (b3.mono B2.out.size))
  have X3 := Lib.hid (X2.out.next b3)
  have d0 := X3.out.cell (i := 0) (v := .slice A n c) rfl
  have d1 := X3.out.cell (i := 1) (v := .string (bs a.path)) rfl
  have d2 := X3.out.cell (i := 2) (v := .int .i64 a.till) rfl
  clear b3 B2 X2 O2
  go_wp2_with fail
  refine (CT.out _ B3.out).mono ?_
  rintro e w4 ⟨g4, rfl, o4, b4⟩
  have B4 := Lib.hid ((B3.out.trans (b4.mono B3.out.size)).alloc (Nat.le_trans B3.out.size b4.size) (.cells #[.slice (some ⟨g4, 0, none⟩) n n, .string (bs a.path), .int .i64 a.till] 39))
  have X4 := Lib.hid ((X3.out.next b4).alloc (.cells #[.slice (some ⟨g4, 0, none⟩) n n, .string (bs a.path), .int .i64 a.till] 39))
  have Y4 : Hid (Box (w4.alloc (.cells #[.slice (some ⟨g4, 0, none⟩) n n, .string (bs a.path), .int .i64 a.till] 39)) w4.heap.size #[.slice (some ⟨g4, 0, none⟩) n n, .string (bs a.path), .int .i64 a.till] 39) := Lib.hid (Box.new w4 _ _)
  have O4 := Lib.hid (o4.alloc (.cells #[.slice (some ⟨g4, 0, none⟩) n n, .string (bs a.path), .int .i64 a.till] 39))
  clear o4 b4 d0 d1 d2 X3 B3
  go_wp2_with fail
  refine (CI.out _ _ B4.out O4.out.reads).mono ?_
  rintro e w5 ⟨rfl, b5⟩
  have B5 := Lib.hid (B4.out.trans (b5.mono B4.out.size))
  have X5 := Lib.hid (X4.out.next b5)
  have Y5 := Lib.hid (Y4.out.next b5)
  have O5 := Lib.hid (O4.out.below b5 (Nat.le_refl _))
  clear b5 B4 X4 Y4 O4
  go_wp2_with fail
  have HT0 : Hid (Below w5.heap.size w5 w5.drew) := Lib.hid (below_draws (Below.refl _ _) 1)
  refine wp_region_held_drew (S := fun v => Below w5.heap.size w5 v) (by kernel_rfl) (below_draws (Below.refl _ _) 1) fun _ => ?_
  generalize w5.drew = u0 at *
  refine wpAnyH_takeD (i := 0) (d := 22) (v := .agg #[.slice (some ⟨g4, 0, none⟩) n n, .string (bs a.path), .int .i64 a.till]) rfl rfl (by kernel_rfl) (by kernel_rfl) (by kernel_rfl) (fun _ _ _ h => h) HT0.out (Or.inl ⟨by rfl, fun w' hS' => ?_⟩) ?_
  · have t := Box.below Y5.out hS' (Box.lt Y5.out)
    have t0 := t.cell (i := 0) (v := .slice (some ⟨g4, 0, none⟩) n n) rfl
    have t1 := t.cell (i := 1) (v := .string (bs a.path)) rfl
    have t2 := t.cell (i := 2) (v := .int .i64 a.till) rfl
    go_simp
  simp only [Act.put, List.setIfInBounds_toArray, List.set_cons_zero, List.set_cons_succ]
  refine wpAnyH_takeD (i := 1) (d := 23) (v := .agg #[.slice A n c, .string (bs a.path), .int .i64 a.till]) rfl rfl (by kernel_rfl) (by kernel_rfl) (by kernel_rfl) (fun _ _ _ h => h) HT0.out (Or.inl ⟨by rfl, fun w' hS' => ?_⟩) ?_
  · have t := Box.below X5.out hS' (Box.lt X5.out)
    have t0 := t.cell (i := 0) (v := .slice A n c) rfl
    have t1 := t.cell (i := 1) (v := .string (bs a.path)) rfl
    have t2 := t.cell (i := 2) (v := .int .i64 a.till) rfl
    go_simp
  simp only [Act.put, List.setIfInBounds_toArray, List.set_cons_zero, List.set_cons_succ]
  refine wpAnyH_one (i := 2) (by kernel_rfl) rfl (fun K hK => ?_)
  go_simp
  refine (CT.out _ (B5.out.trans (HT0.out.mono B5.out.size))).mono ?_
  rintro e v1 ⟨gv, rfl, ov, bv1⟩
  have HT1 := Lib.hid (HT0.out.trans (bv1.mono HT0.out.size))
  have HOV := Lib.hid ov.reads
  refine hK.out _ _ HT1.out ?_
  clear hK bv1 ov
  try simp only [Act.put, List.setIfInBounds_toArray, List.set_cons_zero, List.set_cons_succ]
  refine wpAnyH_one (i := 3) (by kernel_rfl) rfl (fun K hK => ?_)
  go_simp
  refine (CE.out _ _ _ (O5.out.reads.carry HT1.out (Nat.le_refl _) HT1.out.size) HOV.out).mono ?_
  rintro e w12 ⟨rfl, bv2⟩
  have HT2 := Lib.hid (HT1.out.trans (bv2.mono HT1.out.size))
  refine hK.out _ _ HT2.out ?_
  clear hK bv2
  try simp only [Act.put, List.setIfInBounds_toArray, List.set_cons_zero, List.set_cons_succ]
  refine wpAnyH_one (i := 4) (by kernel_rfl) rfl (fun K hK => ?_)
  go_simp
  refine hK.out _ _ HT2.out ?_
  clear hK
  refine wpAnyH_done (by kernel_rfl) ?_ _
  have B6 := Lib.hid (B5.out.trans (HT2.out.mono B5.out.size))
  clear B5 X5 Y5 O5 HT0 HT1 HT2 HOV
  go_wp2_with fail
  go_ret
  exact ⟨rfl, B6.out⟩
set_option maxHeartbeats 1000000 in
theorem fnExactAskText_walk (A : Option Addr) (c : Nat) (a : Ask) (w : World) (hE : EnvW w w.heap.size) (h : opL.Has w w.heap.size A a.ops) (hm : a.ops.length ≤ maxLen) (_ : a.ops.length ≤ c) (hp : (bs a.path).size ≤ maxLen) :
    Calls Tryd.prog 6 #[askV A a.ops.length c a.path a.till] w fun e w' => e = .returned (.bool true) ∧ Below w.heap.size w w' := by
  by_cases hs : (a.ops.length : Int) + (a.path.length : Int) ≤ 1048576
  · exact fnExactAskText_small A c a w hE h hs
  have CZ := Lib.hid fun u => szUrlAsk_any A a.ops.length c a.path a.till 1048576 u (by omega) hm hp
  rw [if_neg hs] at CZ
  have b0 : Below w.heap.size w (w.alloc (.cells #[.slice A a.ops.length c, .string (bs a.path), .int .i64 a.till] 34)) := (Below.refl _ w).alloc (Nat.le_refl _) _
  have X0 : Hid (Box (w.alloc (.cells #[.slice A a.ops.length c, .string (bs a.path), .int .i64 a.till] 34)) w.heap.size #[.slice A a.ops.length c, .string (bs a.path), .int .i64 a.till] 34) := Lib.hid (Box.new w _ _)
  have HB := Lib.hid b0
  have d0 := X0.out.cell (i := 0) (v := .slice A a.ops.length c) rfl
  have d1 := X0.out.cell (i := 1) (v := .string (bs a.path)) rfl
  have d2 := X0.out.cell (i := 2) (v := .int .i64 a.till) rfl
  generalize a.ops.length = n at *
  unfold askV at CZ ⊢
  clear h hs b0 hE hm hp
  go_enter Tryd.func6, Tryd.ntmps6
  go_wp2_with fail
  refine (CZ.out _).mono ?_
  rintro e w1 ⟨rfl, b1⟩
  have B1 := Lib.hid (HB.out.trans (b1.mono HB.out.size))
  clear b1
  go_wp2_with fail
  go_ret
  exact ⟨rfl, B1.out⟩
end Go.Proofs.YtbejafbpipdbjaaDoor
