/-
  FnExactUrlText: the program and the reference write the same URL for every key and request. Condition: the listed variables hold what they must.
-/
import Derived.Test.YtbejafbpipdbjaaDoorUrlTx
import Derived.Test.YtbejafbpipdbjaaDoorShaL
import Derived.Test.YtbejafbpipdbjaaDoorCopy
import Derived.Test.YtbejafbpipdbjaaDoorAskQ
import Derived.Test.YtbejafbpipdbjaaDoorAskIn
import Derived.Test.YtbejafbpipdbjaaDoorRegH
namespace Go.Proofs.YtbejafbpipdbjaaDoor
set_option maxRecDepth 4000
open Go.RowKit

set_option maxHeartbeats 4000000 in
theorem fnExactUrlText_small (K : Option Addr) (kc : Nat) (k : List UInt8) (A : Option Addr) (c : Nat) (a : Ask) (w : World) (hE : EnvW w w.heap.size) (hT : Tabs w) (hK : Has w w.heap.size K k) (h : opL.Has w w.heap.size A a.ops) (hk : k.length ≤ 1048576) (hs : (a.ops.length : Int) + (a.path.length : Int) ≤ 1048576) :
    Calls Tryd.prog 7 #[.slice K k.length kc, askV A a.ops.length c a.path a.till] w fun e w' => e = .returned (.bool true) ∧ Below w.heap.size w w' := by
  have CZ := Lib.hid fun u => szUrlAsk_any A a.ops.length c a.path a.till 1048576 u (by omega) (by unfold maxLen; omega) (by rw [bs_size]; unfold maxLen; omega)
  rw [if_pos hs] at CZ
  have HB := Lib.hid (show Below w.heap.size w (w.alloc (.cells #[.slice A a.ops.length c, .string (bs a.path), .int .i64 a.till] 34)) from (Below.refl _ w).alloc (Nat.le_refl _) _)
  have X0 : Hid (Box (w.alloc (.cells #[.slice A a.ops.length c, .string (bs a.path), .int .i64 a.till] 34)) w.heap.size #[.slice A a.ops.length c, .string (bs a.path), .int .i64 a.till] 34) := Lib.hid (Box.new w _ _)
  have CT := Lib.hid fun u (hb : Below w.heap.size w u) => toUrlAsk_any A c a.ops a.path a.till u (by omega) (h.carry hb (Nat.le_refl _) hb.size)
  have HKK := Lib.hid fun u (hb : Below w.heap.size w u) => hK.carry hb (Nat.le_refl _) hb.size
  have CB := Lib.hid fun u (hb : Below w.heap.size w u) => toByteS_any K kc k u (by omega) (HKK.out u hb)
  have CS := Lib.hid fun q g u hq hh => specUrlText_any q k.length k a g a.ops.length u (by omega) (by omega) (by omega) hq hh
  have CI := Lib.hid fun q g u (hb : Below w.heap.size w u) hq hh => implUrlText_any q k.length k a g a.ops.length u (by omega) (by omega) (by omega) ((hE.below hb).up hb.size) (hT.below hb hT.2.2) hq hh
  have CE := Lib.hid fun g g' u hh hh' => eqUrlAsk_same g g' a.ops.length a.ops.length a.ops a.path a.till u (by omega) hh hh'
  have CQ := Lib.hid fun g g' u hh hh' => eqByteS_same g g' k.length k.length k u (by omega) hh hh'
  obtain ⟨x, hx⟩ : ∃ x, urlTx k a = x := ⟨_, rfl⟩
  rw [hx] at CS CI
  obtain ⟨n, hn⟩ : ∃ n, a.ops.length = n := ⟨_, rfl⟩
  obtain ⟨m, hm⟩ : ∃ m, a.path.length = m := ⟨_, rfl⟩
  obtain ⟨j, hj⟩ : ∃ j, k.length = j := ⟨_, rfl⟩
  rw [hn] at CZ CT CS CI CE hs X0 HB ⊢
  rw [hm] at CZ hs
  rw [hj] at CB CS CI CQ hk ⊢
  have k1 : ¬ ((1048576 : Int) - (n : Int) - (m : Int) < 0) := by omega
  have k2 : decide ((1048576 : Int) < (j : Int)) = false := decide_eq_false (by omega)
  have hq : ∀ a : List UInt8, ((bs a).toList == (bs a).toList) = true := fun a => by simp
  unfold askV at CZ CT CS CI CE ⊢
  clear hn hm hj hx h hs hE hT hK hk
  go_enter Tryd.func7, Tryd.ntmps7
  have d0 := X0.out.cell (i := 0) (v := .slice A n c) rfl
  have d1 := X0.out.cell (i := 1) (v := .string (bs a.path)) rfl
  have d2 := X0.out.cell (i := 2) (v := .int .i64 a.till) rfl
  go_wp2_with fail
  refine (CZ.out _).mono ?_
  rintro e w1 ⟨rfl, b1⟩
  have B1 := Lib.hid (HB.out.trans (b1.mono HB.out.size))
  have X1 := Lib.hid (X0.out.next b1)
  clear b1 X0 HB d0 d1 d2
  go_wp2_with fail
  have HT0 : Hid (Below w1.heap.size w1 w1.drew) := Lib.hid (below_draws (Below.refl _ _) 1)
  refine wp_region_held_drew (S := fun v => Below w1.heap.size w1 v) (by kernel_rfl) (below_draws (Below.refl _ _) 1) fun _ => ?_
  generalize w1.drew = u0 at *
  refine wpAnyH_takeD (i := 0) (d := 18) (v := .slice K j kc) rfl rfl (by kernel_rfl) (by kernel_rfl) (by kernel_rfl) (fun _ _ _ h => h) HT0.out (Or.inl ⟨by rfl, fun w' hS' => ?_⟩) ?_
  · go_simp
  simp only [Act.put, List.setIfInBounds_toArray, List.set_cons_zero, List.set_cons_succ]
  refine wpAnyH_takeD (i := 2) (d := 20) (v := .agg #[.slice A n c, .string (bs a.path), .int .i64 a.till]) rfl rfl (by kernel_rfl) (by kernel_rfl) (by kernel_rfl) (fun _ _ _ h => h) HT0.out (Or.inl ⟨by rfl, fun w' hS' => ?_⟩) ?_
  · have t := Box.below X1.out hS' (Box.lt X1.out)
    have t0 := t.cell (i := 0) (v := .slice A n c) rfl
    have t1 := t.cell (i := 1) (v := .string (bs a.path)) rfl
    have t2 := t.cell (i := 2) (v := .int .i64 a.till) rfl
    go_simp
  simp only [Act.put, List.setIfInBounds_toArray, List.set_cons_zero, List.set_cons_succ]
  refine wpAnyH_one (i := 1) (by kernel_rfl) rfl (fun K hK => ?_)
  go_simp
  refine (CB.out _ (B1.out.trans (HT0.out.mono B1.out.size))).mono ?_
  rintro e v1 ⟨rfl, ok1, bv1⟩
  have HT1 := Lib.hid (HT0.out.trans (bv1.mono HT0.out.size))
  have OK1 := Lib.hid ok1.reads
  refine hK.out _ _ HT1.out ?_
  clear hK bv1 ok1
  try simp only [Act.put, List.setIfInBounds_toArray, List.set_cons_zero, List.set_cons_succ]
  refine wpAnyH_one (i := 3) (by kernel_rfl) rfl (fun K hK => ?_)
  go_simp
  refine (CT.out _ (B1.out.trans (HT1.out.mono B1.out.size))).mono ?_
  rintro e v2 ⟨gv, rfl, ov, bv2⟩
  have HT2 := Lib.hid (HT1.out.trans (bv2.mono HT1.out.size))
  have OV := Lib.hid ov.reads
  have OK2 := Lib.hid (OK1.out.carry bv2 (Nat.le_refl _) bv2.size)
  refine hK.out _ _ HT2.out ?_
  clear hK bv2 ov OK1
  try simp only [Act.put, List.setIfInBounds_toArray, List.set_cons_zero, List.set_cons_succ]
  refine wpAnyH_one (i := 4) (by kernel_rfl) rfl (fun K hK => ?_)
  go_simp
  refine (CS.out _ _ _ OK2.out OV.out).mono ?_
  rintro e v3 ⟨rfl, bv3⟩
  have HT3 := Lib.hid (HT2.out.trans (bv3.mono HT2.out.size))
  refine hK.out _ _ HT3.out ?_
  clear hK bv3 OK2 OV
  try simp only [Act.put, List.setIfInBounds_toArray, List.set_cons_zero, List.set_cons_succ]
  refine wpAnyH_one (i := 5) (by kernel_rfl) rfl (fun K hK => ?_)
  go_simp
  refine hK.out _ _ HT3.out ?_
  clear hK
  refine wpAnyH_done (by kernel_rfl) ?_ _
  have B3 := Lib.hid (B1.out.trans (HT3.out.mono B1.out.size))
  have X3 := Lib.hid (X1.out.next HT3.out)
  clear HT0 HT1 HT2 HT3 B1 X1
  go_wp2_with fail
  refine (CB.out _ B3.out).mono ?_
  rintro e w4 ⟨rfl, ok4, b4⟩
  have B4 := Lib.hid (B3.out.trans (b4.mono B3.out.size))
  have X4 := Lib.hid (X3.out.next b4)
  have K4 := Lib.hid ok4.reads
  clear ok4 b4 B3 X3
  have d0 := X4.out.cell (i := 0) (v := .slice A n c) rfl
  have d1 := X4.out.cell (i := 1) (v := .string (bs a.path)) rfl
  have d2 := X4.out.cell (i := 2) (v := .int .i64 a.till) rfl
  go_wp2_with fail
  refine (CT.out _ B4.out).mono ?_
  rintro e w5 ⟨g5, rfl, o5, b5⟩
  have bb5 := b5.alloc b5.size (.cells #[.slice (some ⟨g5, 0, none⟩) n n, .string (bs a.path), .int .i64 a.till] 39)
  have B5 := Lib.hid (B4.out.trans (bb5.mono B4.out.size))
  have X5 := Lib.hid (X4.out.next bb5)
  have K5 := Lib.hid (K4.out.carry bb5 (Nat.le_refl _) bb5.size)
  have O5 := Lib.hid (El.Own.reads (o5.alloc (.cells #[.slice (some ⟨g5, 0, none⟩) n n, .string (bs a.path), .int .i64 a.till] 39)))
  have Y5 : Hid (Box (w5.alloc (.cells #[.slice (some ⟨g5, 0, none⟩) n n, .string (bs a.path), .int .i64 a.till] 39)) w5.heap.size #[.slice (some ⟨g5, 0, none⟩) n n, .string (bs a.path), .int .i64 a.till] 39) := Lib.hid (Box.new w5 _ _)
  clear o5 b5 bb5 B4 X4 K4 d0 d1 d2
  have y0 := Y5.out.cell (i := 0) (v := .slice (some ⟨g5, 0, none⟩) n n) rfl
  have y1 := Y5.out.cell (i := 1) (v := .string (bs a.path)) rfl
  have y2 := Y5.out.cell (i := 2) (v := .int .i64 a.till) rfl
  go_wp2_with fail
  refine (CI.out _ _ _ B5.out K5.out O5.out).mono ?_
  rintro e w6 ⟨rfl, b6⟩
  have B6 := Lib.hid (B5.out.trans (b6.mono B5.out.size))
  have X6 := Lib.hid (X5.out.next b6)
  have K6 := Lib.hid (K5.out.carry b6 (Nat.le_refl _) b6.size)
  have O6 := Lib.hid (O5.out.carry b6 (Nat.le_refl _) b6.size)
  have Y6 := Lib.hid (Y5.out.next b6)
  clear b6 B5 X5 K5 O5 Y5 y0 y1 y2
  go_wp2_with fail
  refine (CB.out _ B6.out).mono ?_
  rintro e w7 ⟨rfl, ok7, b7⟩
  have B7 := Lib.hid (B6.out.trans (b7.mono B6.out.size))
  have X7 := Lib.hid (X6.out.next b7)
  have K7 := Lib.hid (K6.out.carry b7 (Nat.le_refl _) b7.size)
  have O7 := Lib.hid (O6.out.carry b7 (Nat.le_refl _) b7.size)
  have Y7 := Lib.hid (Y6.out.next b7)
  have J7 := Lib.hid ok7.reads
  clear ok7 b7 B6 X6 K6 O6 Y6
  go_wp2_with fail
  refine (CQ.out _ _ _ K7.out J7.out).mono ?_
  rintro e w8 ⟨rfl, n8, rfl⟩
  have b8 : Below w7.heap.size w7 (w7.drewN n8) := below_draws (Below.refl _ _) n8
  have B8 := Lib.hid (B7.out.trans (b8.mono B7.out.size))
  have X8 := Lib.hid (X7.out.next b8)
  have O8 := Lib.hid (O7.out.carry b8 (Nat.le_refl _) b8.size)
  have Y8 := Lib.hid (Y7.out.next b8)
  generalize w7.drewN n8 = w8 at *
  clear b8 B7 X7 K7 J7 O7 Y7
  go_wp2_with fail
  have HT0 : Hid (Below w8.heap.size w8 w8.drew) := Lib.hid (below_draws (Below.refl _ _) 1)
  refine wp_region_held_drew (S := fun v => Below w8.heap.size w8 v) (by kernel_rfl) (below_draws (Below.refl _ _) 1) fun _ => ?_
  generalize w8.drew = u0 at *
  refine wpAnyH_takeD (i := 0) (d := 38) (v := .agg #[.slice (some ⟨g5, 0, none⟩) n n, .string (bs a.path), .int .i64 a.till]) rfl rfl (by kernel_rfl) (by kernel_rfl) (by kernel_rfl) (fun _ _ _ h => h) HT0.out (Or.inl ⟨by rfl, fun w' hS' => ?_⟩) ?_
  · have t := Box.below Y8.out hS' (Box.lt Y8.out)
    have t0 := t.cell (i := 0) (v := .slice (some ⟨g5, 0, none⟩) n n) rfl
    have t1 := t.cell (i := 1) (v := .string (bs a.path)) rfl
    have t2 := t.cell (i := 2) (v := .int .i64 a.till) rfl
    go_simp
  simp only [Act.put, List.setIfInBounds_toArray, List.set_cons_zero, List.set_cons_succ]
  refine wpAnyH_takeD (i := 1) (d := 39) (v := .agg #[.slice A n c, .string (bs a.path), .int .i64 a.till]) rfl rfl (by kernel_rfl) (by kernel_rfl) (by kernel_rfl) (fun _ _ _ h => h) HT0.out (Or.inl ⟨by rfl, fun w' hS' => ?_⟩) ?_
  · have t := Box.below X8.out hS' (Box.lt X8.out)
    have t0 := t.cell (i := 0) (v := .slice A n c) rfl
    have t1 := t.cell (i := 1) (v := .string (bs a.path)) rfl
    have t2 := t.cell (i := 2) (v := .int .i64 a.till) rfl
    go_simp
  simp only [Act.put, List.setIfInBounds_toArray, List.set_cons_zero, List.set_cons_succ]
  refine wpAnyH_one (i := 2) (by kernel_rfl) rfl (fun K hK => ?_)
  go_simp
  refine (CT.out _ (B8.out.trans (HT0.out.mono B8.out.size))).mono ?_
  rintro e v1 ⟨gv, rfl, ov, bv1⟩
  have HT1 := Lib.hid (HT0.out.trans (bv1.mono HT0.out.size))
  have HOV := Lib.hid ov.reads
  refine hK.out _ _ HT1.out ?_
  clear hK bv1 ov
  try simp only [Act.put, List.setIfInBounds_toArray, List.set_cons_zero, List.set_cons_succ]
  refine wpAnyH_one (i := 3) (by kernel_rfl) rfl (fun K hK => ?_)
  go_simp
  refine (CE.out _ _ _ (O8.out.carry HT1.out (Nat.le_refl _) HT1.out.size) HOV.out).mono ?_
  rintro e w12 ⟨rfl, bv2⟩
  have HT2 := Lib.hid (HT1.out.trans (bv2.mono HT1.out.size))
  refine hK.out _ _ HT2.out ?_
  clear hK bv2
  try simp only [Act.put, List.setIfInBounds_toArray, List.set_cons_zero, List.set_cons_succ]
  refine wpAnyH_one (i := 4) (by kernel_rfl) rfl (fun K hK => ?_)
  go_simp
  refine hK.out _ _ HT2.out ?_
  clear hK
  refine wpAnyH_done (by kernel_rfl) ?_ _
  have B9 := Lib.hid (B8.out.trans (HT2.out.mono B8.out.size))
  clear B8 X8 Y8 O8 HT0 HT1 HT2 HOV
  go_wp2_with fail
  go_ret
  exact ⟨rfl, B9.out⟩
set_option maxHeartbeats 1000000 in
theorem fnExactUrlText_walk (K : Option Addr) (kc : Nat) (k : List UInt8) (A : Option Addr) (c : Nat) (a : Ask) (w : World) (hET : EnvW w w.heap.size ∧ Tabs w) (hK : Has w w.heap.size K k) (_ : k.length ≤ kc) (h : opL.Has w w.heap.size A a.ops) (hm : a.ops.length ≤ maxLen) (_ : a.ops.length ≤ c) (hp : (bs a.path).size ≤ maxLen) :
    Calls Tryd.prog 7 #[.slice K k.length kc, askV A a.ops.length c a.path a.till] w fun e w' => e = .returned (.bool true) ∧ Below w.heap.size w w' := by
  obtain ⟨j, hj⟩ : ∃ j, k.length = j := ⟨_, rfl⟩
  by_cases hbig : (j : Int) > 1048576
  · rw [hj]
    clear hET hK h hm hp hj
    unfold askV
    go_enter Tryd.func7, Tryd.ntmps7
    go_wp2_with fail
    go_ret
    exact ⟨rfl, (Below.refl _ w).alloc (Nat.le_refl _) _⟩
  by_cases hs : (a.ops.length : Int) + (a.path.length : Int) ≤ 1048576
  · exact fnExactUrlText_small K kc k A c a w hET.1 hET.2 hK h (by omega) hs
  have CZ := Lib.hid fun u => szUrlAsk_any A a.ops.length c a.path a.till 1048576 u (by omega) hm hp
  rw [if_neg hs] at CZ
  have b0 : Below w.heap.size w (w.alloc (.cells #[.slice A a.ops.length c, .string (bs a.path), .int .i64 a.till] 34)) := (Below.refl _ w).alloc (Nat.le_refl _) _
  have X0 : Hid (Box (w.alloc (.cells #[.slice A a.ops.length c, .string (bs a.path), .int .i64 a.till] 34)) w.heap.size #[.slice A a.ops.length c, .string (bs a.path), .int .i64 a.till] 34) := Lib.hid (Box.new w _ _)
  have HB := Lib.hid b0
  have d0 := X0.out.cell (i := 0) (v := .slice A a.ops.length c) rfl
  have d1 := X0.out.cell (i := 1) (v := .string (bs a.path)) rfl
  have d2 := X0.out.cell (i := 2) (v := .int .i64 a.till) rfl
  generalize a.ops.length = n at *
  unfold askV at CZ ⊢
  rw [hj]
  have k2 : decide ((1048576 : Int) < (j : Int)) = false := decide_eq_false hbig
  clear h hs b0 hET hK hm hp hj
  go_enter Tryd.func7, Tryd.ntmps7
  go_wp2_with fail
  refine (CZ.out _).mono ?_
  rintro e w1 ⟨rfl, b1⟩
  have B1 := Lib.hid (HB.out.trans (b1.mono HB.out.size))
  clear b1
  go_wp2_with fail
  go_ret
  exact ⟨rfl, B1.out⟩
end Go.Proofs.YtbejafbpipdbjaaDoor
