/-
  The reference reads a request. Condition: the text has at most 2^20 bytes.
-/
import Derived.Test.YtbejafbpipdbjaaDoorAskRS
import Derived.Test.YtbejafbpipdbjaaDoorAskRG
import Derived.Test.YtbejafbpipdbjaaDoorAskTS
namespace Go.Proofs.YtbejafbpipdbjaaDoor
set_option maxRecDepth 4000
open Go.RowKit

theorem ownS_cell {u : World} {base g n c : Nat} {L : List (List UInt8)} (h : strE.Own u base (.slice (some ⟨g, 0, none⟩) n c) L) {k : Nat} {p : List UInt8} (hp : L[k]? = some p) : u.cell? ⟨g, k, none⟩ = some (.string (bs p)) := by
  obtain ⟨b, o, y, e, -, hy, hc⟩ := h.reads.spot (k := k) (List.getElem?_eq_some_iff.1 hp).1
  injection e with e
  injection e with e1 e2
  subst e1 e2
  rw [hp] at hy
  injection hy with hy
  subst hy
  have := hc 0 _ rfl
  simpa [show strE.n = 1 from rfl] using this
theorem list3 {α : Type} {l : List α} (h : l.length = 3) : ∃ a b c, l = [a, b, c] := by
  match l, h with
  | [a, b, c], _ => exact ⟨a, b, c, rfl⟩
theorem list2 {α : Type} {l : List α} (h : l.length = 2) : ∃ a b, l = [a, b] := by
  match l, h with
  | [a, b], _ => exact ⟨a, b, rfl⟩
theorem cut_len {c : UInt8} {l p : List UInt8} (h : p ∈ cutL c l) : p.length ≤ l.length := cutL_mem h
set_option maxHeartbeats 8000000 in
theorem specAskRead_any (l : List UInt8) (w : World) (hl : l.length ≤ 1048576) :
    Calls Tryd.prog 28 #[.string (bs l)] w (GaveR l w) := by
  have HB0 := Lib.hid (alloc_below w (.cells #[.slice none 0 0, .string ⟨#[]⟩, .int .i64 0] 39))
  have HR0 : Hid (Box (w.alloc (.cells #[.slice none 0 0, .string ⟨#[]⟩, .int .i64 0] 39)) w.heap.size #[.slice none 0 0, .string ⟨#[]⟩, .int .i64 0] 39) := Lib.hid (Box.new w _ _)
  have CC := Lib.hid fun u => l7Cut_any l 47 u hl
  have h47 : ((47 : UInt8).toNat : Int) = 47 := rfl
  have h63 : ((63 : UInt8).toNat : Int) = 63 := rfl
  have hq : ∀ a b : List UInt8, ((bs a).toList == (bs b).toList) = decide (a = b) := bs_eq
  obtain ⟨P, hP⟩ : ∃ P, cutL 47 l = P := ⟨_, rfl⟩
  have HP := Lib.hid hP
  obtain ⟨n, hn⟩ : ∃ n, l.length = n := ⟨_, rfl⟩
  have sz : (bs l).size = n := by rw [bs_size, hn]
  have HN := Lib.hid hn
  have HL := Lib.hid hl
  have hP0 : 0 < P.length := by rw [← hP]; exact List.length_pos_iff.mpr (cutL_ne 47 l)
  have HP0 := Lib.hid hP0
  obtain ⟨N, hN⟩ : ∃ N, P.length = N := ⟨_, rfl⟩
  have HPN := Lib.hid hN
  rw [hP, hN] at CC
  have hie : (bs l).toList.isEmpty = decide (l = []) := by rw [bs_toList]; cases l <;> simp
  clear hP hn hP0 hN hl
  go_enter Tryd.func28, Tryd.ntmps28
  go_wp2_with fail
  refine (CC.out _).mono ?_
  rintro e w1 ⟨A1, cp, rfl, hPl, hown, b1⟩
  obtain ⟨gp, rfl, -, -⟩ := ownE_nonnil hown HP0.out
  have HPW := Lib.hid hown
  have HR1 := Lib.hid (HR0.out.next b1)
  have HB1 := Lib.hid (HB0.out.trans (b1.mono HB0.out.size))
  clear hPl hown b1 HR0 HB0 CC
  by_cases h2 : (n : Int) > 200
  · have HNO := Lib.hid (show ∀ a, askB a = true → askT a ≠ l from fun a ha he => by
      have := askT_len ha
      rw [he, HN.out] at this
      omega)
    have y0 := HR1.out.cell (i := 0) rfl
    have z0 := HR1.out.free 0
    have y1 := HR1.out.cell (i := 1) rfl
    have z1 := HR1.out.free 1
    have y2 := HR1.out.cell (i := 2) rfl
    have z2 := HR1.out.free 2
    go_wp2_with fail
    (try simp only [Exit.inBlock, Exit.then])
    have F1 := HB1.out.trans (below_of_grown_at (grown_ua w1 w.heap.size (.slice none 0 0) (.string ⟨#[]⟩) (.int .i64 0)) (Nat.le_refl _) HB1.out.size)
    have F3 := fin_ua HR1.out (.slice none 0 0) (.string ⟨#[]⟩) (.int .i64 0)
    refine bodyPost_ret (v := .tuple #[.agg #[.slice none 0 0, .string ⟨#[]⟩, .int .i64 0], .bool false]) ?_ rfl ?_
    · exact results_row_tmp rfl _ _ w.heap.size 39 #[.slice none 0 0, .string ⟨#[]⟩, .int .i64 0] (0, 0) _ _ rfl rfl F3 Tryd.underlying39 rfl (by kernel_rfl)
    exact ⟨.inr ⟨HNO.out, rfl⟩, F1⟩
  have h2' : decide ((200 : Int) < (n : Int)) = false := decide_eq_false h2
  by_cases h3 : (N : Int) = 3
  case neg =>
    have HNO := Lib.hid (show ∀ a, askB a = true → askT a ≠ l from fun a ha he => by
      have := congrArg List.length (askT_cut ha).1
      rw [he, HP.out, HPN.out] at this
      simp at this
      omega)
    have h3' : ((N : Int) != 3) = true := by simpa using h3
    have y0 := HR1.out.cell (i := 0) rfl
    have z0 := HR1.out.free 0
    have y1 := HR1.out.cell (i := 1) rfl
    have z1 := HR1.out.free 1
    have y2 := HR1.out.cell (i := 2) rfl
    have z2 := HR1.out.free 2
    go_wp2_with fail
    (try simp only [Exit.inBlock, Exit.then])
    have F1 := HB1.out.trans (below_of_grown_at (grown_ua w1 w.heap.size (.slice none 0 0) (.string ⟨#[]⟩) (.int .i64 0)) (Nat.le_refl _) HB1.out.size)
    have F3 := fin_ua HR1.out (.slice none 0 0) (.string ⟨#[]⟩) (.int .i64 0)
    refine bodyPost_ret (v := .tuple #[.agg #[.slice none 0 0, .string ⟨#[]⟩, .int .i64 0], .bool false]) ?_ rfl ?_
    · exact results_row_tmp rfl _ _ w.heap.size 39 #[.slice none 0 0, .string ⟨#[]⟩, .int .i64 0] (0, 0) _ _ rfl rfl F3 Tryd.underlying39 rfl (by kernel_rfl)
    exact ⟨.inr ⟨HNO.out, rfl⟩, F1⟩
  obtain ⟨p0, p1, p2, hp⟩ := list3 (HPN.out.trans (show N = 3 by omega))
  obtain rfl : N = 3 := by omega
  have HP' : Hid (cutL 47 l = [p0, p1, p2]) := Lib.hid (HP.out.trans hp)
  have hl1 : p1.length ≤ 200 := by
    have := cut_len (c := 47) (l := l) (p := p1) (by rw [HP'.out]; simp)
    have := HN.out
    omega
  have hl2 : p2.length ≤ 200 := by
    have := cut_len (c := 47) (l := l) (p := p2) (by rw [HP'.out]; simp)
    have := HN.out
    omega
  have d1 : w1.cell? ⟨gp, 1, none⟩ = some (.string (bs p1)) := ownS_cell HPW.out (by rw [hp]; rfl)
  have d2 := HPW.out
  have CR := Lib.hid fun u => l7Read_any p1 u (by omega)
  have CQ := Lib.hid fun u => l7Cut_any p2 63 u (by omega)
  obtain ⟨Q, hQ⟩ : ∃ Q, cutL 63 p2 = Q := ⟨_, rfl⟩
  have hQ0 : 0 < Q.length := by rw [← hQ]; exact List.length_pos_iff.mpr (cutL_ne 63 p2)
  obtain ⟨M, hM⟩ : ∃ M, Q.length = M := ⟨_, rfl⟩
  rw [hQ, hM] at CQ
  have HQ := Lib.hid (And.intro hQ (And.intro hM hQ0))
  have HPP := Lib.hid hp
  have HLL := Lib.hid (And.intro hl1 hl2)
  clear hp hQ hQ0 hM hl1 hl2 d2
  go_wp2_with fail
  refine (CR.out _).mono ?_
  rintro e w2 ⟨A2, c2, os, b, rfl, hlen, hcomp, ho, b2⟩
  have HO2 := Lib.hid (ho.lower (B := w.heap.size) HB1.out.size)
  have HR2 := Lib.hid (HR1.out.next b2)
  have HB2 := Lib.hid (HB1.out.trans (b2.mono HB1.out.size))
  have HPW2 := Lib.hid (HPW.out.below b2 (Nat.le_refl _))
  have HOC := Lib.hid (And.intro hlen hcomp)
  clear ho b2 hlen hcomp HR1 HB1 HPW d1 CR
  have d2 : w2.cell? ⟨gp, 2, none⟩ = some (.string (bs p2)) := ownS_cell HPW2.out (by rw [HPP.out]; rfl)
  go_wp2_with fail
  refine (CQ.out _).mono ?_
  rintro e w3 ⟨A3, c3, rfl, -, hown, b3⟩
  obtain ⟨gr, rfl, -, -⟩ := ownE_nonnil hown HQ.out.2.2
  have HQW := Lib.hid hown
  have HO3 := Lib.hid (HO2.out.below b3 (Nat.le_refl _))
  have HR3 := Lib.hid (HR2.out.next b3)
  have HB3 := Lib.hid (HB2.out.trans (b3.mono HB2.out.size))
  clear hown b3 HO2 HR2 HB2 HPW2 d2 CQ
  -- what a request that is written so would be
  have HW := Lib.hid (show ∀ a, askB a = true → askT a = l → b = true ∧ os = a.ops ∧ Q = [a.path, 101 :: 61 :: Go.Lib.itoa a.till] from fun a ha he => by
    have k1 := (askT_cut ha).1
    rw [he, HP'.out] at k1
    injection k1 with _ k1
    injection k1 with k1 k2
    injection k2 with k2 _
    obtain ⟨m1, m2⟩ := HOC.out.2 a.ops (ask_parts ha).1 k1.symm
    have k3 := (askT_cut ha).2
    rw [← k2, HQ.out.1] at k3
    exact ⟨m1, m2, k3⟩)
  cases b
  · have HNO := Lib.hid (show ∀ a, askB a = true → askT a ≠ l from fun a ha he => by cases (HW.out a ha he).1)
    have y0 := HR3.out.cell (i := 0) rfl
    have z0 := HR3.out.free 0
    have y1 := HR3.out.cell (i := 1) rfl
    have z1 := HR3.out.free 1
    have y2 := HR3.out.cell (i := 2) rfl
    have z2 := HR3.out.free 2
    go_wp2_with fail
    (try simp only [Exit.inBlock, Exit.then])
    have F1 := HB3.out.trans (below_of_grown_at (grown_ua w3 w.heap.size (.slice none 0 0) (.string ⟨#[]⟩) (.int .i64 0)) (Nat.le_refl _) HB3.out.size)
    have F3 := fin_ua HR3.out (.slice none 0 0) (.string ⟨#[]⟩) (.int .i64 0)
    refine bodyPost_ret (v := .tuple #[.agg #[.slice none 0 0, .string ⟨#[]⟩, .int .i64 0], .bool false]) ?_ rfl ?_
    · exact results_row_tmp rfl _ _ w.heap.size 39 #[.slice none 0 0, .string ⟨#[]⟩, .int .i64 0] (0, 0) _ _ rfl rfl F3 Tryd.underlying39 rfl (by kernel_rfl)
    exact ⟨.inr ⟨HNO.out, rfl⟩, F1⟩
  by_cases h4 : (M : Int) = 2
  case neg =>
    have HNO := Lib.hid (show ∀ a, askB a = true → askT a ≠ l from fun a ha he => by
      have := congrArg List.length (HW.out a ha he).2.2
      rw [HQ.out.2.1] at this
      simp at this
      omega)
    have h4' : ((M : Int) != 2) = true := by simpa using h4
    have y0 := HR3.out.cell (i := 0) rfl
    have z0 := HR3.out.free 0
    have y1 := HR3.out.cell (i := 1) rfl
    have z1 := HR3.out.free 1
    have y2 := HR3.out.cell (i := 2) rfl
    have z2 := HR3.out.free 2
    go_wp2_with fail
    (try simp only [Exit.inBlock, Exit.then])
    have F1 := HB3.out.trans (below_of_grown_at (grown_ua w3 w.heap.size (.slice none 0 0) (.string ⟨#[]⟩) (.int .i64 0)) (Nat.le_refl _) HB3.out.size)
    have F3 := fin_ua HR3.out (.slice none 0 0) (.string ⟨#[]⟩) (.int .i64 0)
    refine bodyPost_ret (v := .tuple #[.agg #[.slice none 0 0, .string ⟨#[]⟩, .int .i64 0], .bool false]) ?_ rfl ?_
    · exact results_row_tmp rfl _ _ w.heap.size 39 #[.slice none 0 0, .string ⟨#[]⟩, .int .i64 0] (0, 0) _ _ rfl rfl F3 Tryd.underlying39 rfl (by kernel_rfl)
    exact ⟨.inr ⟨HNO.out, rfl⟩, F1⟩
  obtain ⟨r0, r1, hr⟩ := list2 (HQ.out.2.1.trans (show M = 2 by omega))
  obtain rfl : M = 2 := by omega
  have hr1 : r1.length ≤ 200 := by
    have := cut_len (c := 63) (l := p2) (p := r1) (by rw [HQ.out.1, hr]; simp)
    have := HLL.out.2
    omega
  have hr0 : r0.length ≤ 200 := by
    have := cut_len (c := 63) (l := p2) (p := r0) (by rw [HQ.out.1, hr]; simp)
    have := HLL.out.2
    omega
  have HR := Lib.hid hr
  have d1 : w3.cell? ⟨gr, 1, none⟩ = some (.string (bs r1)) := ownS_cell HQW.out (by rw [hr]; rfl)
  obtain ⟨m1, hm1⟩ : ∃ m1, r1.length = m1 := ⟨_, rfl⟩
  have sz1 : (bs r1).size = m1 := by rw [bs_size, hm1]
  have HM1 := Lib.hid hm1
  have HRL := Lib.hid (And.intro hr0 hr1)
  clear hr hr0 hr1 hm1
  by_cases h5 : (m1 : Int) < 3
  · have HNO := Lib.hid (show ∀ a, askB a = true → askT a ≠ l from fun a ha he => by
      have k3 := (HW.out a ha he).2.2
      rw [HR.out] at k3
      injection k3 with _ k3
      injection k3 with k3 _
      have := congrArg List.length k3
      rw [HM1.out] at this
      obtain ⟨-, -, -, -, -, t0, t9⟩ := ask_parts ha
      have := (itoa_len t0 t9).1
      simp at *
      omega)
    have y0 := HR3.out.cell (i := 0) rfl
    have z0 := HR3.out.free 0
    have y1 := HR3.out.cell (i := 1) rfl
    have z1 := HR3.out.free 1
    have y2 := HR3.out.cell (i := 2) rfl
    have z2 := HR3.out.free 2
    go_wp2_with fail
    (try simp only [Exit.inBlock, Exit.then])
    have F1 := HB3.out.trans (below_of_grown_at (grown_ua w3 w.heap.size (.slice none 0 0) (.string ⟨#[]⟩) (.int .i64 0)) (Nat.le_refl _) HB3.out.size)
    have F3 := fin_ua HR3.out (.slice none 0 0) (.string ⟨#[]⟩) (.int .i64 0)
    refine bodyPost_ret (v := .tuple #[.agg #[.slice none 0 0, .string ⟨#[]⟩, .int .i64 0], .bool false]) ?_ rfl ?_
    · exact results_row_tmp rfl _ _ w.heap.size 39 #[.slice none 0 0, .string ⟨#[]⟩, .int .i64 0] (0, 0) _ _ rfl rfl F3 Tryd.underlying39 rfl (by kernel_rfl)
    exact ⟨.inr ⟨HNO.out, rfl⟩, F1⟩
  have h5' : decide ((m1 : Int) < 3) = false := decide_eq_false h5
  have HC0 := Lib.hid (show ∀ u, Below w3.heap.size w3 u → u.cell? ⟨gr, 0, none⟩ = some (.string (bs r0)) from fun u hb => ownS_cell (HQW.out.below hb (Nat.le_refl _)) (by rw [HR.out]; rfl))
  have HC1 := Lib.hid (show ∀ u, Below w3.heap.size w3 u → u.cell? ⟨gr, 1, none⟩ = some (.string (bs r1)) from fun u hb => ownS_cell (HQW.out.below hb (Nat.le_refl _)) (by rw [HR.out]; rfl))
  clear HQW
  go_wp2_with fail
  refine askBuild (by have := HRL.out.2; omega) (by rw [HM1.out]; omega) HC0.out HC1.out (fun _ _ _ _ _ h => h) (Lib.hid fun g w4 hg hx hb => ?_)
  have HX := Lib.hid hx
  have HGE := Lib.hid (Nat.le_trans HB3.out.size hg)
  have HO4 := Lib.hid (HO3.out.below hb (Nat.le_refl _))
  have HR4 := Lib.hid (HR3.out.next hb)
  have HB4 := Lib.hid (HB3.out.trans (hb.mono HB3.out.size))
  clear hx hg hb HO3 HR3 HB3 d1 HC0 HC1
  obtain ⟨t, ht⟩ : ∃ t, num4 (r1.drop 2) = t := ⟨_, rfl⟩
  rw [ht] at HX ⊢
  obtain ⟨a0, ha0⟩ : ∃ a0 : Ask, a0 = ⟨os, r0, t⟩ := ⟨_, rfl⟩
  have HA0 := Lib.hid (show ∀ a, askB a = true → askT a = l → a = a0 from fun a ha he => by
    obtain ⟨-, m2, k3⟩ := HW.out a ha he
    rw [HR.out] at k3
    injection k3 with k3 k4
    injection k4 with k4 _
    obtain ⟨-, -, -, -, -, t0, t9⟩ := ask_parts ha
    have : t = a.till := by rw [← ht, k4]; exact num4_itoa t0 t9
    rw [ha0, m2, k3, this])
  have CT := Lib.hid fun u hh => specAskText_any a0 A2 c2 u (by rw [ha0]; have := HOC.out.1; have := HLL.out.1; show os.length ≤ _; omega) (by rw [ha0]; have := HRL.out.1; show r0.length ≤ maxLen; unfold maxLen; omega) hh
  have HE0 := Lib.hid (show a0.ops = os ∧ a0.path = r0 ∧ a0.till = t by rw [ha0]; exact ⟨rfl, rfl, rfl⟩)
  rw [HE0.out.1, HE0.out.2.1, HE0.out.2.2] at CT
  unfold askV at CT
  clear ht ha0
  obtain ⟨x, hx⟩ : ∃ x, askTx a0 = x := ⟨_, rfl⟩
  rw [hx] at CT
  have HXX := Lib.hid hx
  clear hx
  have x0 := HX.out.cell (i := 0) (v := .slice A2 os.length c2) rfl
  have x1 := HX.out.cell (i := 1) (v := .string (bs r0)) rfl
  have x2 := HX.out.cell (i := 2) (v := .int .i64 t) rfl
  go_wp2_with fail
  refine (CT.out _ HO4.out.reads).mono ?_
  rintro e w5 ⟨rfl, b5⟩
  have HX5 := Lib.hid (HX.out.next b5)
  have HO5 := Lib.hid (HO4.out.below b5 (Nat.le_refl _))
  have HR5 := Lib.hid (HR4.out.next b5)
  have HB5 := Lib.hid (HB4.out.trans (b5.mono HB4.out.size))
  clear b5 HX HO4 HR4 HB4 x0 x1 x2 CT
  by_cases h6 : x = l
  case neg =>
    have HNO := Lib.hid (show ∀ a, askB a = true → askT a ≠ l from fun a ha he => by
      have := HA0.out a ha he
      apply h6
      rw [← HXX.out, ← this]
      unfold askTx
      rw [ha]
      exact he)
    have y0 := HR5.out.cell (i := 0) rfl
    have z0 := HR5.out.free 0
    have y1 := HR5.out.cell (i := 1) rfl
    have z1 := HR5.out.free 1
    have y2 := HR5.out.cell (i := 2) rfl
    have z2 := HR5.out.free 2
    go_wp2_with fail
    (try simp only [Exit.inBlock, Exit.then])
    have F1 := HB5.out.trans (below_of_grown_at (grown_ua w5 w.heap.size (.slice none 0 0) (.string ⟨#[]⟩) (.int .i64 0)) (Nat.le_refl _) HB5.out.size)
    have F3 := fin_ua HR5.out (.slice none 0 0) (.string ⟨#[]⟩) (.int .i64 0)
    refine bodyPost_ret (v := .tuple #[.agg #[.slice none 0 0, .string ⟨#[]⟩, .int .i64 0], .bool false]) ?_ rfl ?_
    · exact results_row_tmp rfl _ _ w.heap.size 39 #[.slice none 0 0, .string ⟨#[]⟩, .int .i64 0] (0, 0) _ _ rfl rfl F3 Tryd.underlying39 rfl (by kernel_rfl)
    exact ⟨.inr ⟨HNO.out, rfl⟩, F1⟩
  by_cases h7 : l = []
  · have HNO := Lib.hid (show ∀ a, askB a = true → askT a ≠ l from fun a ha he => by
      rw [h7] at he
      cases he)
    have hemp : (bs l).toList.isEmpty = true := by rw [hie, decide_eq_true h7]
    clear h7 hie
    have y0 := HR5.out.cell (i := 0) rfl
    have z0 := HR5.out.free 0
    have y1 := HR5.out.cell (i := 1) rfl
    have z1 := HR5.out.free 1
    have y2 := HR5.out.cell (i := 2) rfl
    have z2 := HR5.out.free 2
    go_wp2_with fail
    (try simp only [Exit.inBlock, Exit.then])
    have F1 := HB5.out.trans (below_of_grown_at (grown_ua w5 w.heap.size (.slice none 0 0) (.string ⟨#[]⟩) (.int .i64 0)) (Nat.le_refl _) HB5.out.size)
    have F3 := fin_ua HR5.out (.slice none 0 0) (.string ⟨#[]⟩) (.int .i64 0)
    refine bodyPost_ret (v := .tuple #[.agg #[.slice none 0 0, .string ⟨#[]⟩, .int .i64 0], .bool false]) ?_ rfl ?_
    · exact results_row_tmp rfl _ _ w.heap.size 39 #[.slice none 0 0, .string ⟨#[]⟩, .int .i64 0] (0, 0) _ _ rfl rfl F3 Tryd.underlying39 rfl (by kernel_rfl)
    exact ⟨.inr ⟨HNO.out, rfl⟩, F1⟩
  have HB := Lib.hid (show askB a0 = true ∧ askT a0 = l from by
    have k := HXX.out
    unfold askTx at k
    by_cases hb : askB a0 = true
    · rw [if_pos hb] at k
      exact ⟨hb, k.trans h6⟩
    · rw [if_neg hb] at k
      exact absurd (h6.symm.trans k.symm) h7)
  have y0 := HR5.out.cell (i := 0) rfl
  have z0 := HR5.out.free 0
  have y1 := HR5.out.cell (i := 1) rfl
  have z1 := HR5.out.free 1
  have y2 := HR5.out.cell (i := 2) rfl
  have z2 := HR5.out.free 2
  have x0 := HX5.out.cell (i := 0) (v := .slice A2 os.length c2) rfl
  have x1 := HX5.out.cell (i := 1) (v := .string (bs r0)) rfl
  have x2 := HX5.out.cell (i := 2) (v := .int .i64 t) rfl
  go_wp2_with fail
  (try simp only [Exit.inBlock, Exit.then])
  have F1 := HB5.out.trans (below_of_grown_at (grown_ua w5 w.heap.size (.slice A2 os.length c2) (.string (bs r0)) (.int .i64 t)) (Nat.le_refl _) HB5.out.size)
  have F3 := fin_ua HR5.out (.slice A2 os.length c2) (.string (bs r0)) (.int .i64 t)
  have F4 := ownA_set (i := 2) (x := .int .i64 t) (ownA_set (i := 1) (x := .string (bs r0)) (ownA_set (i := 0) (x := .slice A2 os.length c2) HO5.out HR5.out) (HR5.out.set 0 _)) ((HR5.out.set 0 _).set 1 _)
  refine bodyPost_ret (v := .tuple #[.agg #[.slice A2 os.length c2, .string (bs r0), .int .i64 t], .bool true]) ?_ rfl ?_
  · exact results_row_tmp rfl _ _ w.heap.size 39 #[.slice A2 os.length c2, .string (bs r0), .int .i64 t] (0, 0) _ _ rfl rfl F3 Tryd.underlying39 rfl (by kernel_rfl)
  refine ⟨.inl ⟨a0, A2, c2, HB.out.1, HB.out.2, ?_, ?_⟩, F1⟩
  · rw [HE0.out.1]
    exact F4
  · unfold askV
    rw [HE0.out.1, HE0.out.2.1, HE0.out.2.2]
end Go.Proofs.YtbejafbpipdbjaaDoor
