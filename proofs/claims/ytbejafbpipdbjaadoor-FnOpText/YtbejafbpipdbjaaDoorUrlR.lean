/-
  The scanner reads a request. Condition: the scanner's block holds a text; the listed variables hold what they must.
-/
import Derived.Test.YtbejafbpipdbjaaDoorUrlP
import Derived.Test.YtbejafbpipdbjaaDoorUrlQ
namespace Go.Proofs.YtbejafbpipdbjaaDoor
set_option maxRecDepth 4000
open Go.RowKit

set_option maxHeartbeats 1000000 in
/-- (*urlScanner).ops. -/
theorem ops_any (g B : Nat) (l : List UInt8) (ok : Bool) (w : World) (hl : l.length ≤ 1048576) (h : Sc w g l ok) (hE : Env w B) (hB : B ≤ g) :
    Calls Tryd.prog 99 #[.pointer (some ⟨g, 0, none⟩)] w fun e w' =>
      ∃ A c os r q, OpsR l os r q ∧ e = .returned (.slice A os.length c) ∧ os.length ≤ l.length + 1 ∧ r.length ≤ l.length ∧ opE.Own w' w.heap.size (.slice A os.length c) os ∧ Sc w' g r (ok && q) ∧ w.grownBy w' (some g) := by
  have HS := Lib.hid h
  have HL := Lib.hid hl
  have hBw : B ≤ w.heap.size := by
    obtain ⟨ev, hs, _⟩ := h
    have := Box.lt hs
    omega
  have CF := Lib.hid (follows_any g l [45])
  have CS := Lib.hid fun (u : World) (hs : Sc u g l ok) (hg : w.grownBy u (some g)) => scanOps_any g B l ok u hl hs (hE.below (below_of_grown_at hg hB hBw)) hB
  clear h hE hl hB hBw
  go_enter Tryd.func99, Tryd.ntmps99
  go_wp2_with fail
  refine (CF.out ok _ HS.out).mono ?_
  rintro e w1 ⟨rfl, s1, g1⟩
  have HS1 := Lib.hid s1
  have HG1 := Lib.hid g1
  clear s1 g1
  obtain ⟨p, hp⟩ : ∃ p, List.isPrefixOf [45] l = p := ⟨_, rfl⟩
  rw [hp]
  cases p
  · obtain ⟨h1, h2⟩ := head_no hp
    rw [h2] at HS1
    have HH := Lib.hid h1
    clear h1 h2 hp
    go_wp2_with fail
    refine (CS.out _ HS1.out HG1.out).mono ?_
    rintro e w2 ⟨A, c, o, os, r1, r, q1, q, k1, k2, rfl, k3, k4, k5, k6, k7⟩
    have K1 := Lib.hid (OpsR.some HH.out k1 k2)
    have K5 := Lib.hid (k5.lower HG1.out.size)
    have K6 := Lib.hid k6
    have K7 := Lib.hid (grown_trans HG1.out k7)
    have K34 := Lib.hid (And.intro k3 k4)
    clear k1 k2 k3 k4 k5 k6 k7
    go_wp2_with fail
    go_ret
    exact ⟨A, c, o :: os, r, q1 && q, K1.out, rfl, by have := K34.out; simp; omega, K34.out.2, K5.out, K6.out, K7.out⟩
  · obtain ⟨t, rfl⟩ := head_pre.mp hp
    rw [cutP_cons] at HS1
    clear hp
    go_wp2_with fail
    go_ret
    exact ⟨none, 0, [], t, true, .none, rfl, by simp, by simp, El.own_nil opE _ _, by rw [Bool.and_true]; exact HS1.out, HG1.out⟩
/-- strings.Clone. -/
theorem clone_any (l : List UInt8) (w : World) (hl : l.length ≤ 1073741824) : Calls Tryd.prog 100 #[.string (bs l)] w fun e w' => e = .returned (.string (bs l)) ∧ Below w.heap.size w w' := by
  have CC := Lib.hid (Tryd.stringslite_Clone (bs l) w (by rw [bs_size]; omega))
  go_enter Tryd.func100, Tryd.ntmps100
  go_wp2_with fail
  refine CC.out.mono ?_
  rintro e w1 ⟨rfl, b1⟩
  have B1 := Lib.hid b1
  clear b1
  go_wp2_with fail
  go_ret
  exact ⟨rfl, B1.out⟩
/-- A request's box. -/
theorem Sc.setA {w : World} {g R i : Nat} {m : List UInt8} {ok : Bool} {cs : Array Value} {v : Value} (h : Sc w g m ok) (hx : Box w R cs 39) : Sc (w.setCell ⟨R, i, none⟩ v) g m ok := by
  obtain ⟨ev, hs, hb⟩ := h
  have hgr := grown_cell w R i v
  have key : ∀ q ds t, Box w q ds t → t ≠ 39 → some R ≠ some q := by
    intro q ds t hq ht e
    have e := Option.some.inj e
    subst e
    unfold Box at hq hx
    rw [hx] at hq
    injection hq with hq
    injection hq with _ k4 _
    exact ht k4.symm
  refine ⟨ev, Box.grown hs hgr (key _ _ _ hs (by decide)), ?_⟩
  rcases hb with hb | ⟨k1, p, y, k2, k3⟩
  · exact .inl hb
  · exact .inr ⟨k1, p, y, k2, k3.grown hgr (key _ _ _ k3 (by decide))⟩
theorem ownA_set {w : World} {base R i : Nat} {v x : Value} {l : List Op} {cs : Array Value} (h : opE.Own w base v l) (hx : Box w R cs 39) : opE.Own (w.setCell ⟨R, i, none⟩ x) base v l :=
  h.keep (grown_cell w R i x) (by
    cases hv : v.ownBlock with
    | none => exact .inl rfl
    | some q => exact .inr fun e => El.own_ne_box h hx (by decide) hv (Option.some.inj e))
theorem fin_ua {W : World} {R : Nat} {v0 v1 v2 : Value} (h : Box W R #[v0, v1, v2] 39) (a b c : Value) :
    Box (((W.setCell ⟨R, 0, none⟩ a).setCell ⟨R, 1, none⟩ b).setCell ⟨R, 2, none⟩ c) R #[a, b, c] 39 := ((h.set 0 a).set 1 b).set 2 c
theorem grown_ua (W : World) (R : Nat) (a b c : Value) : W.grownBy (((W.setCell ⟨R, 0, none⟩ a).setCell ⟨R, 1, none⟩ b).setCell ⟨R, 2, none⟩ c) (some R) :=
  grown_trans (grown_trans (grown_cell _ _ _ _) (grown_cell _ _ _ _)) (grown_cell _ _ _ _)
set_option maxHeartbeats 4000000 in
/-- (*urlScanner).ask. -/
theorem ask_any (g B : Nat) (l : List UInt8) (ok : Bool) (w : World) (hl : l.length ≤ 1048576) (h : Sc w g l ok) (hE : Env w B) (hB : B ≤ g) :
    Calls Tryd.prog 84 #[.pointer (some ⟨g, 0, none⟩)] w fun e w' =>
      ∃ a A c r q, AskR l a r q ∧ e = .returned (askV A a.ops.length c a.path a.till) ∧ a.ops.length ≤ l.length + 1 ∧ r.length ≤ l.length ∧ opE.Own w' w.heap.size (.slice A a.ops.length c) a.ops ∧ Sc w' g r (ok && q) ∧ w.grownBy w' (some g) := by
  have hgw : g < w.heap.size := by
    obtain ⟨ev, hs, _⟩ := h
    exact Box.lt hs
  have HL := Lib.hid hl
  have HBB := Lib.hid (And.intro hB hgw)
  have HT := Lib.hid fun (u : World) (hg : w.grownBy u (some g)) => hE.below (below_of_grown_at hg hB (by omega))
  have CM := Lib.hid fun (m p : List UInt8) => mark_any g m p
  have CO := Lib.hid fun (m : List UInt8) (k : Bool) (u : World) (hm : m.length ≤ 1048576) (hs : Sc u g m k) (hg : w.grownBy u (some g)) => ops_any g B m k u hm hs (HT.out u hg) hB
  have CN := Lib.hid fun (m : List UInt8) (k : Bool) (u : World) (hm : m.length ≤ 1048576) (hs : Sc u g m k) (hg : w.grownBy u (some g)) => number_any g B m k u (by omega) hs (HT.out u hg) hB
  have CW := Lib.hid fun (m : List UInt8) => word_sc g m
  have CC := Lib.hid fun (m : List UInt8) => clone_any m
  have CB := Lib.hid fun (m : List UInt8) => fail_any g m
  have b0 : Below w.heap.size w ((w.alloc (.cells #[.slice none 0 0, .string ⟨#[]⟩, .int .i64 0] 39)).alloc (.cells #[.slice none 0 0, .string ⟨#[]⟩, .int .i64 0] 39)) := ((Below.refl _ w).alloc (Nat.le_refl _) _).alloc (by simp) _
  have HS0 := Lib.hid (h.next b0)
  have HG0 : Hid (w.grownBy ((w.alloc (.cells #[.slice none 0 0, .string ⟨#[]⟩, .int .i64 0] 39)).alloc (.cells #[.slice none 0 0, .string ⟨#[]⟩, .int .i64 0] 39)) (some g)) := Lib.hid (grown_of_below b0)
  have HR0 : Hid (Box ((w.alloc (.cells #[.slice none 0 0, .string ⟨#[]⟩, .int .i64 0] 39)).alloc (.cells #[.slice none 0 0, .string ⟨#[]⟩, .int .i64 0] 39)) w.heap.size #[.slice none 0 0, .string ⟨#[]⟩, .int .i64 0] 39) := Lib.hid ((Box.new w _ _).alloc _)
  have HX0 : Hid (Box ((w.alloc (.cells #[.slice none 0 0, .string ⟨#[]⟩, .int .i64 0] 39)).alloc (.cells #[.slice none 0 0, .string ⟨#[]⟩, .int .i64 0] 39)) (w.heap.size + 1) #[.slice none 0 0, .string ⟨#[]⟩, .int .i64 0] 39) := Lib.hid (by have := Box.new (w.alloc (.cells #[.slice none 0 0, .string ⟨#[]⟩, .int .i64 0] 39)) #[.slice none 0 0, .string ⟨#[]⟩, .int .i64 0] 39; simpa using this)
  clear h hE hl hB hgw b0
  go_enter Tryd.func84, Tryd.ntmps84
  go_wp2_with fail
  refine (CM.out l [47] ok _ (by decide) HS0.out).mono ?_
  rintro e w1 ⟨rfl, s1, g1⟩
  have HS1 := Lib.hid s1
  have HG1 := Lib.hid (grown_trans HG0.out g1)
  have HX1 := Lib.hid (HX0.out.grown g1 (by have := HBB.out.2; intro e; injection e; omega))
  have HR1 := Lib.hid (HR0.out.grown g1 (by have := HBB.out.2; intro e; injection e; omega))
  clear s1 g1 HS0 HG0 HX0 HR0
  obtain ⟨l1, hl1⟩ : ∃ l1, cutP [47] l = l1 := ⟨_, rfl⟩
  obtain ⟨f1, hf1⟩ : ∃ f1, List.isPrefixOf [47] l = f1 := ⟨_, rfl⟩
  rw [hl1, hf1] at HS1
  have L1 := Lib.hid (And.intro hl1 hf1)
  have hle := cutP_le [47] l
  rw [hl1] at hle
  have N1 := Lib.hid (Nat.le_trans hle HL.out)
  clear hl1 hf1 hle
  go_wp2_with fail
  refine (CO.out l1 _ _ N1.out HS1.out HG1.out).mono ?_
  rintro e w2 ⟨A, c, os, r2, q2, k1, rfl, k2, k3, k4, s2, g2⟩
  have L2 := Lib.hid k1
  have N2 := Lib.hid (And.intro k2 k3)
  have HO2 := Lib.hid (k4.lower (base := w1.heap.size) HG1.out.size)
  clear k1 k2 k3 k4
  have HS2 := Lib.hid s2
  have HG2 := Lib.hid (grown_trans HG1.out g2)
  have HX2 := Lib.hid (HX1.out.grown g2 (by have := HBB.out.2; intro e; injection e; omega))
  have HR2 := Lib.hid (HR1.out.grown g2 (by have := HBB.out.2; intro e; injection e; omega))
  clear s2 g2 HS1 HG1 HX1 HR1
  have hxx := HX2.out
  have hfz := hxx.free 0
  have hcz := hxx.cell (i := 0) rfl
  have HS2' := Lib.hid (HS2.out.setA (i := 0) (v := .slice A os.length c) hxx)
  have HG2' := Lib.hid (grown_own HG2.out (grown_cell _ (w.heap.size + 1) 0 (.slice A os.length c)) (fun q hq => by injection hq with hq; omega))
  have HX2' := Lib.hid (hxx.set 0 (.slice A os.length c))
  have HR2' := Lib.hid (HR2.out.set_other (b := w.heap.size + 1) (by omega) 0 (.slice A os.length c))
  have HO2' := Lib.hid (ownA_set (i := 0) (x := .slice A os.length c) HO2.out hxx)
  clear HS2 HG2 HX2 HR2 HO2 hxx
  have HS2 := HS2'
  have HG2 := HG2'
  have HX2 := HX2'
  have HR2 := HR2'
  have HO2 := HO2'
  clear HS2' HG2' HX2' HR2' HO2'
  go_wp2_with fail
  refine (CM.out r2 [47] _ _ (by decide) HS2.out).mono ?_
  rintro e w3 ⟨rfl, s3, g3⟩
  have HS3 := Lib.hid s3
  have HG3 := Lib.hid (grown_trans HG2.out g3)
  have HX3 := Lib.hid (HX2.out.grown g3 (by have := HBB.out.2; intro e; injection e; omega))
  have HR3 := Lib.hid (HR2.out.grown g3 (by have := HBB.out.2; intro e; injection e; omega))
  have HO3 := Lib.hid (HO2.out.low_grown g3 HBB.out.2)
  clear s3 g3 HS2 HG2 HX2 HR2 HO2
  obtain ⟨l3, hl3⟩ : ∃ l3, cutP [47] r2 = l3 := ⟨_, rfl⟩
  obtain ⟨f3, hf3⟩ : ∃ f3, List.isPrefixOf [47] r2 = f3 := ⟨_, rfl⟩
  rw [hl3, hf3] at HS3
  have L3 := Lib.hid (And.intro hl3 hf3)
  have hle := cutP_le [47] r2
  rw [hl3] at hle
  have N3 := Lib.hid (show l3.length ≤ l1.length by have := N2.out.2; omega)
  clear hl3 hf3 hle
  go_wp2_with fail
  refine (CW.out l3 _ _ (by have := N3.out; have := N1.out; omega) HS3.out).mono ?_
  rintro e w4 ⟨rfl, s4, g4⟩
  have HS4 := Lib.hid s4
  have HG4 := Lib.hid (grown_trans HG3.out g4)
  have HX4 := Lib.hid (HX3.out.grown g4 (by have := HBB.out.2; intro e; injection e; omega))
  have HR4 := Lib.hid (HR3.out.grown g4 (by have := HBB.out.2; intro e; injection e; omega))
  have HO4 := Lib.hid (HO3.out.low_grown g4 HBB.out.2)
  clear s4 g4 HS3 HG3 HX3 HR3 HO3
  obtain ⟨pa, hpa⟩ : ∃ pa, wd l3 = pa := ⟨_, rfl⟩
  have hpl := wd_le l3
  have hr4 := rst_le l3
  rw [hpa] at hpl ⊢
  have L4 := Lib.hid hpa
  obtain ⟨l4, hl4⟩ : ∃ l4, rst l3 = l4 := ⟨_, rfl⟩
  rw [hl4] at HS4 hr4
  have L4' := Lib.hid hl4
  have N4 := Lib.hid (show pa.length ≤ l1.length ∧ l4.length ≤ l1.length by have := N3.out; omega)
  clear hpa hpl hl4 hr4
  go_wp2_with fail
  refine (CC.out pa _ (by have := N4.out; have := N1.out; omega)).mono ?_
  rintro e w5 ⟨rfl, b5⟩
  have HS5 := Lib.hid (HS4.out.next b5)
  have HG5 := Lib.hid (grown_then HG4.out b5 HG4.out.size)
  have HX5 := Lib.hid (HX4.out.next b5)
  have HR5 := Lib.hid (HR4.out.next b5)
  have HO5 := Lib.hid (HO4.out.below b5 (Nat.le_refl _))
  clear b5 HS4 HG4 HX4 HR4 HO4
  have hxx := HX5.out
  have hfz := hxx.free 1
  have hcz := hxx.cell (i := 1) rfl
  have HS5' := Lib.hid (HS5.out.setA (i := 1) (v := .string (bs pa)) hxx)
  have HG5' := Lib.hid (grown_own HG5.out (grown_cell _ (w.heap.size + 1) 1 (.string (bs pa))) (fun q hq => by injection hq with hq; omega))
  have HX5' := Lib.hid (hxx.set 1 (.string (bs pa)))
  have HR5' := Lib.hid (HR5.out.set_other (b := w.heap.size + 1) (by omega) 1 (.string (bs pa)))
  have HO5' := Lib.hid (ownA_set (i := 1) (x := .string (bs pa)) HO5.out hxx)
  clear HS5 HG5 HX5 HR5 HO5 hxx
  have HS5 := HS5'
  have HG5 := HG5'
  have HX5 := HX5'
  have HR5 := HR5'
  have HO5 := HO5'
  clear HS5' HG5' HX5' HR5' HO5'
  go_wp2_with fail
  refine (CM.out l4 [63, 101, 61] _ _ (by decide) HS5.out).mono ?_
  rintro e w6 ⟨rfl, s6, g6⟩
  have HS6 := Lib.hid s6
  have HG6 := Lib.hid (grown_trans HG5.out g6)
  have HX6 := Lib.hid (HX5.out.grown g6 (by have := HBB.out.2; intro e; injection e; omega))
  have HR6 := Lib.hid (HR5.out.grown g6 (by have := HBB.out.2; intro e; injection e; omega))
  have HO6 := Lib.hid (HO5.out.low_grown g6 HBB.out.2)
  clear s6 g6 HS5 HG5 HX5 HR5 HO5
  obtain ⟨l5, hl5⟩ : ∃ l5, cutP [63, 101, 61] l4 = l5 := ⟨_, rfl⟩
  obtain ⟨f5, hf5⟩ : ∃ f5, List.isPrefixOf [63, 101, 61] l4 = f5 := ⟨_, rfl⟩
  rw [hl5, hf5] at HS6
  have L5 := Lib.hid (And.intro hl5 hf5)
  have hle := cutP_le [63, 101, 61] l4
  rw [hl5] at hle
  have N5 := Lib.hid (show l5.length ≤ l1.length by have := N4.out.2; omega)
  clear hl5 hf5 hle
  go_wp2_with fail
  refine (CN.out l5 _ _ (by have := N5.out; have := N1.out; omega) HS6.out HG6.out).mono ?_
  rintro e w7 ⟨rfl, s7, g7⟩
  have HS7 := Lib.hid s7
  have HG7 := Lib.hid (grown_trans HG6.out g7)
  have HX7 := Lib.hid (HX6.out.grown g7 (by have := HBB.out.2; intro e; injection e; omega))
  have HR7 := Lib.hid (HR6.out.grown g7 (by have := HBB.out.2; intro e; injection e; omega))
  have HO7 := Lib.hid (HO6.out.low_grown g7 HBB.out.2)
  clear s7 g7 HS6 HG6 HX6 HR6 HO6
  obtain ⟨n, hn⟩ : ∃ n, (scNum (wd l5)).1 = n := ⟨_, rfl⟩
  obtain ⟨q7, hq7⟩ : ∃ q7, (scNum (wd l5)).2 = q7 := ⟨_, rfl⟩
  rw [hn]
  rw [hq7] at HS7
  have L7 := Lib.hid (And.intro hn hq7)
  have hr7 := rst_le l5
  obtain ⟨l7, hl7⟩ : ∃ l7, rst l5 = l7 := ⟨_, rfl⟩
  rw [hl7] at HS7 hr7
  have L7' := Lib.hid hl7
  have N7 := Lib.hid (show l7.length ≤ l1.length by have := N5.out; omega)
  clear hn hq7 hr7 hl7
  have hxx := HX7.out
  have hfz := hxx.free 2
  have hcz := hxx.cell (i := 2) rfl
  have HS7' := Lib.hid (HS7.out.setA (i := 2) (v := .int .i64 n) hxx)
  have HG7' := Lib.hid (grown_own HG7.out (grown_cell _ (w.heap.size + 1) 2 (.int .i64 n)) (fun q hq => by injection hq with hq; omega))
  have HX7' := Lib.hid (hxx.set 2 (.int .i64 n))
  have HR7' := Lib.hid (HR7.out.set_other (b := w.heap.size + 1) (by omega) 2 (.int .i64 n))
  have HO7' := Lib.hid (ownA_set (i := 2) (x := .int .i64 n) HO7.out hxx)
  clear HS7 HG7 HX7 HR7 HO7 hxx
  have HS7 := HS7'
  have HG7 := HG7'
  have HX7 := HX7'
  have HR7 := HR7'
  have HO7 := HO7'
  clear HS7' HG7' HX7' HR7' HO7'
  have ca := implAskOk_any ⟨os, pa, n⟩ A c _ (by have := N2.out.1; have := N1.out; simp only; omega) (by have := N4.out.1; have := N1.out; simp only; omega) (HT.out _ HG7.out).ran (El.Own.reads (E := opE) HO7.out)
  unfold askV at ca
  have CA := Lib.hid ca
  have x0 := HX7.out.cell (i := 0) (v := .slice A os.length c) rfl
  have x1 := HX7.out.cell (i := 1) (v := .string (bs pa)) rfl
  have x2 := HX7.out.cell (i := 2) (v := .int .i64 n) rfl
  clear ca
  go_wp2_with fail
  refine CA.out.mono ?_
  rintro e w8 ⟨rfl, b8⟩
  clear x0 x1 x2 CA
  have HS8 := Lib.hid (HS7.out.next b8)
  have HG8 := Lib.hid (grown_then HG7.out b8 HG7.out.size)
  have HX8 := Lib.hid (HX7.out.next b8)
  have HR8 := Lib.hid (HR7.out.next b8)
  have HO8 := Lib.hid (HO7.out.below b8 (Nat.le_refl _))
  clear b8 HS7 HG7 HX7 HR7 HO7
  have L1LE : Hid (l1.length ≤ l.length) := Lib.hid (by rw [← L1.out.1]; exact cutP_le _ _)
  obtain ⟨z, hz⟩ : ∃ z, askB ⟨os, pa, n⟩ = z := ⟨_, rfl⟩
  have FINR : Hid (AskR l ⟨os, pa, n⟩ l7 (f1 && (q2 && (f3 && (f5 && (q7 && z)))))) := Lib.hid (by
    have e1 := L1.out
    have e3 := L3.out
    have e5 := L5.out
    have e7 := L7.out
    refine ⟨r2, q2, q7, by rw [e1.1]; exact L2.out, ?_, ?_, ?_⟩
    · show pa = _
      rw [e3.1, L4.out]
    · rw [e3.1, L4'.out]
      show NumR (cutP [63, 101, 61] l4) n l7 q7
      rw [e5.1]
      exact ⟨e7.1.symm, L7'.out.symm, e7.2.symm⟩
    · rw [e1.2, e3.1, e3.2, L4'.out, hz]
      show _ = (f1 && (q2 && (f3 && (List.isPrefixOf [63, 101, 61] l4 && (q7 && z)))))
      rw [e5.2])
  rw [hz]
  clear hz
  cases z
  · go_wp2_with fail
    refine (CB.out l7 _ _ _ HS8.out).mono ?_
    rintro e w9 ⟨rfl, s9, g9⟩
    have HS9 := Lib.hid s9
    have HG9 := Lib.hid (grown_trans HG8.out g9)
    have HX9 := Lib.hid (HX8.out.grown g9 (by have := HBB.out.2; intro e; injection e; omega))
    have HR9 := Lib.hid (HR8.out.grown g9 (by have := HBB.out.2; intro e; injection e; omega))
    have HO9 := Lib.hid (HO8.out.low_grown g9 HBB.out.2)
    clear s9 g9 HS8 HG8 HX8 HR8 HO8
    have x0 := HX9.out.cell (i := 0) (v := .slice A os.length c) rfl
    have x1 := HX9.out.cell (i := 1) (v := .string (bs pa)) rfl
    have x2 := HX9.out.cell (i := 2) (v := .int .i64 n) rfl
    have y0 := HR9.out.cell (i := 0) (v := .slice none 0 0) rfl
    have y1 := HR9.out.cell (i := 1) (v := .string ⟨#[]⟩) rfl
    have y2 := HR9.out.cell (i := 2) (v := .int .i64 0) rfl
    have z0 := HR9.out.free 0
    have z1 := HR9.out.free 1
    have z2 := HR9.out.free 2
    go_wp2_with fail
    exact bodyPost_ret (results_cell_row rfl _ _ w.heap.size 39 #[.slice A os.length c, .string (bs pa), .int .i64 n] (0, 0) _ rfl (fin_ua HR9.out _ _ _) Tryd.underlying39 rfl (by kernel_rfl)) rfl ⟨⟨os, pa, n⟩, A, c, l7, f1 && (q2 && (f3 && (f5 && (q7 && false)))), FINR.out, rfl, by have := N2.out.1; have := L1LE.out; simp only; omega, by have := N7.out; have := L1LE.out; omega, ownA_set (ownA_set (ownA_set HO9.out HR9.out) (HR9.out.set 0 _)) ((HR9.out.set 0 _).set 1 _), by simpa using (HS9.out.setA (HR9.out)).setA (HR9.out.set 0 _) |>.setA ((HR9.out.set 0 _).set 1 _), grown_own HG9.out (grown_ua _ _ _ _ _) (fun q hq => by injection hq with hq; omega)⟩
  · have x0 := HX8.out.cell (i := 0) (v := .slice A os.length c) rfl
    have x1 := HX8.out.cell (i := 1) (v := .string (bs pa)) rfl
    have x2 := HX8.out.cell (i := 2) (v := .int .i64 n) rfl
    have y0 := HR8.out.cell (i := 0) (v := .slice none 0 0) rfl
    have y1 := HR8.out.cell (i := 1) (v := .string ⟨#[]⟩) rfl
    have y2 := HR8.out.cell (i := 2) (v := .int .i64 0) rfl
    have z0 := HR8.out.free 0
    have z1 := HR8.out.free 1
    have z2 := HR8.out.free 2
    go_wp2_with fail
    exact bodyPost_ret (results_cell_row rfl _ _ w.heap.size 39 #[.slice A os.length c, .string (bs pa), .int .i64 n] (0, 0) _ rfl (fin_ua HR8.out _ _ _) Tryd.underlying39 rfl (by kernel_rfl)) rfl ⟨⟨os, pa, n⟩, A, c, l7, f1 && (q2 && (f3 && (f5 && (q7 && true)))), FINR.out, rfl, by have := N2.out.1; have := L1LE.out; simp only; omega, by have := N7.out; have := L1LE.out; omega, ownA_set (ownA_set (ownA_set HO8.out HR8.out) (HR8.out.set 0 _)) ((HR8.out.set 0 _).set 1 _), by simpa [Bool.and_assoc] using (HS8.out.setA (HR8.out)).setA (HR8.out.set 0 _) |>.setA ((HR8.out.set 0 _).set 1 _), grown_own HG8.out (grown_ua _ _ _ _ _) (fun q hq => by injection hq with hq; omega)⟩
end Go.Proofs.YtbejafbpipdbjaaDoor
