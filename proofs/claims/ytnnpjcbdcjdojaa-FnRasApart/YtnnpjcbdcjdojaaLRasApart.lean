/-
  The law FnRasApart returns true for every two lists of bytes to draw from. No condition.
-/
import Derived.Test.YtnnpjcbdcjdojaaFormC
import Derived.Test.YtnnpjcbdcjdojaaDrawFM
import Derived.Test.YtnnpjcbdcjdojaaEaRasD
import Derived.Test.YtnnpjcbdcjdojaaEaOk
namespace Go.Proofs.Ytnnpjcbdcjdojaa
set_option maxRecDepth 4000
open Go.RowKit

theorem rasBy_inj {W H W' H' : Int} {l l' : List Px} (h : rasB W H l = true) (h' : rasB W' H' l' = true) (e : rasBy W H l = rasBy W' H' l') : W = W' ∧ H = H' ∧ l = l' := by
  obtain ⟨-, a1, a2, a3⟩ := read_by h
  obtain ⟨-, b1, b2, b3⟩ := read_by h'
  rw [e] at a1 a2 a3
  exact ⟨a1.symm.trans b1, a2.symm.trans b2, a3.symm.trans b3⟩
theorem formB_inj {W H W' H' : Int} {l l' : List Px} (h : rasB W H l = true) (h' : rasB W' H' l' = true) (e : formB 80 [] W H l = formB 80 [] W' H' l') : W = W' ∧ H = H' ∧ l = l' := by
  rw [formB_of (k := 80) (note := []) rfl (by simp) h, formB_of (k := 80) (note := []) rfl (by simp) h'] at e
  have hlen := congrArg List.length e
  rw [fileB_length, fileB_length] at hlen
  unfold fileB at e
  have e1 := (List.append_inj e (by simp at hlen ⊢; omega)).1
  have e2 := (List.append_inj e1 rfl).2
  have e3 : pakPutB (rasBy W H l) = pakPutB (rasBy W' H' l') := e2
  exact rasBy_inj h h' (pak_inj (by have := rasBy_le h; omega) (by have := rasBy_le h'; omega) e3)
theorem apart_by {W H W' H' : Int} {l l' : List Px} (h : rasB W H l = true) (h' : rasB W' H' l' = true) : decide (rasOut W H l = rasOut W' H' l') = sameRas W H l W' H' l' := by
  unfold rasOut sameRas
  rw [h, h', if_pos rfl, if_pos rfl, Bool.eq_iff_iff, decide_eq_true_eq, decide_eq_true_eq]
  exact ⟨fun e => rasBy_inj h h' e, fun ⟨e1, e2, e3⟩ => by rw [e1, e2, e3]⟩
theorem apart_file {W H W' H' : Int} {l l' : List Px} (h : rasB W H l = true) (h' : rasB W' H' l' = true) : decide (formB 80 [] W H l = formB 80 [] W' H' l') = sameRas W H l W' H' l' := by
  unfold sameRas
  rw [Bool.eq_iff_iff, decide_eq_true_eq, decide_eq_true_eq]
  exact ⟨fun e => formB_inj h h' e, fun ⟨e1, e2, e3⟩ => by rw [e1, e2, e3]⟩
theorem rbI (W H : Int) (A : Option Addr) (c : Nat) (l : List Px) (w : World) (hs : l.length ≤ 1000) (h : HasP w w.heap.size A l) :
    Calls Try.prog 27 #[.agg #[.int .i64 W, .int .i64 H, .slice A l.length c]] w (Filed (rasOut W H l) w) :=
  (implRasBytes_any W H A c l w (by omega) h).mono fun _ _ h => filed_of h
theorem rbS (W H : Int) (A : Option Addr) (c : Nat) (l : List Px) (w : World) (hs : l.length ≤ 1000) (h : HasP w w.heap.size A l) :
    Calls Try.prog 28 #[.agg #[.int .i64 W, .int .i64 H, .slice A l.length c]] w (Filed (rasOut W H l) w) :=
  (specRasBytes_any W H A c l w (by omega) h).mono fun _ _ h => filed_of h
theorem rasOut_zero (W H : Int) (l : List Px) : ((rasOut W H l).length == 0) = !rasB W H l := by
  unfold rasOut
  cases h : rasB W H l
  · rfl
  · rw [if_pos rfl, rasBy_length]
    exact beq_eq_false_iff_ne.2 (by omega)
/-- Two rasters that lie in boxes, and stay. -/
def Two (w : World) (g g' : Nat) (W H : Int) (A : Option Addr) (c : Nat) (l : List Px) (W' H' : Int) (A' : Option Addr) (c' : Nat) (l' : List Px) (v : World) : Prop :=
  RasAtB v g W H A l.length c 25 ∧ RasAtB v g' W' H' A' l'.length c' 25 ∧ HasP v v.heap.size A l ∧ HasP v v.heap.size A' l' ∧ Below w.heap.size w v
section
variable {w v v' : World} {g g' : Nat} {W H W' H' : Int} {A A' : Option Addr} {c c' : Nat} {l l' : List Px}
theorem Two.next (h : Two w g g' W H A c l W' H' A' c' l' v) (b : Below v.heap.size v v') : Two w g g' W H A c l W' H' A' c' l' v' :=
  ⟨h.1.below b h.1.lt, h.2.1.below b h.2.1.lt, h.2.2.1.carry b (Nat.le_refl _) b.size, h.2.2.2.1.carry b (Nat.le_refl _) b.size, h.2.2.2.2.trans (b.mono h.2.2.2.2.size)⟩
theorem Two.drew (h : Two w g g' W H A c l W' H' A' c' l' v) : Two w g g' W H A c l W' H' A' c' l' v.drew := h.next (below_draws (Below.refl _ v) 1)
end
set_option maxHeartbeats 4000000 in
theorem fnRasApart_small (A : Option Addr) (c : Nat) (l : List UInt8) (A' : Option Addr) (c' : Nat) (l' : List UInt8) (w : World) (h : Has w w.heap.size A l) (hc : l.length ≤ c) (h' : Has w w.heap.size A' l') (hc' : l'.length ≤ c') (hs : l.length ≤ 1048576) (hs' : l'.length ≤ 1048576) :
    Calls Try.prog 5 #[.slice A l.length c, .slice A' l'.length c'] w fun e w' => e = .returned (.bool true) ∧ Below w.heap.size w w' := by
  have C1 := Lib.hid (drawRasBytes_any A c l w (by omega) hc h)
  have C2 := Lib.hid fun W hb => drawFormPut_any A' c' l' W (by omega) hc' (h'.carry (C := w.heap.size) (w' := W) hb (Nat.le_refl _) hb.size)
  have hl0 : ¬ ((1048576 : Int) < (l.length : Int)) := by omega
  have hl0' : ¬ ((1048576 : Int) < (l'.length : Int)) := by omega
  clear h hs hc h' hs' hc'
  go_enter Try.func5, Try.ntmps5
  go_wp2_with fail
  refine C1.out.mono ?_
  rintro e w1 ⟨W1, H1, A1, c1, l1, rfl, hh1, hc1, hl1, B1⟩
  clear C1
  unfold rasV
  have hX2 : RasAtB (w1.alloc (.cells #[.int .i64 W1, .int .i64 H1, .slice A1 l1.length c1] 25)) w1.heap.size W1 H1 A1 l1.length c1 25 := heap_alloc_new w1 _
  have b2 : Below w1.heap.size w1 (w1.alloc (.cells #[.int .i64 W1, .int .i64 H1, .slice A1 l1.length c1] 25)) := (Below.refl _ w1).alloc (Nat.le_refl _) _
  have B2 := B1.trans (b2.mono B1.size)
  have hh2 := hh1.carry b2 (Nat.le_refl _) b2.size
  have C22 := Lib.hid (C2.out _ B2)
  clear C2 b2 B1 hh1
  go_wp2_with fail
  generalize w1.alloc (.cells #[.int .i64 W1, .int .i64 H1, .slice A1 l1.length c1] 25) = w2 at *
  have hz2 := hX2.lt
  refine C22.out.mono ?_
  rintro e w3 ⟨W2, H2, A2, c2, l2, rfl, hk3, hc2, hl2, b3⟩
  unfold rasV
  have hX3 := hX2.below b3 hz2
  have hh3 := hh2.carry b3 (Nat.le_refl _) b3.size
  have B3 := B2.trans (b3.mono B2.size)
  have b4 : Below w3.heap.size w3 (w3.alloc (.cells #[.int .i64 W2, .int .i64 H2, .slice A2 l2.length c2] 25)) := (Below.refl _ w3).alloc (Nat.le_refl _) _
  have hY4 : RasAtB (w3.alloc (.cells #[.int .i64 W2, .int .i64 H2, .slice A2 l2.length c2] 25)) w3.heap.size W2 H2 A2 l2.length c2 25 := heap_alloc_new w3 _
  have hX4 := hX3.below b4 hX3.lt
  have hh4 := hh3.carry b4 (Nat.le_refl _) b4.size
  have hk4 := hk3.carry b4 (Nat.le_refl _) b4.size
  have B4 := B3.trans (b4.mono B3.size)
  have x0 := hX4.c0
  have x1 := hX4.c1
  have x2 := hX4.c2
  clear C22 b3 B2 B3 b4 hh2 hh3 hk3 hX2 hX3 hz2
  have S4 := Lib.hid (show Two w w1.heap.size w3.heap.size W1 H1 A1 c1 l1 W2 H2 A2 c2 l2 _ from ⟨hX4, hY4, hh4, hk4, B4⟩)
  clear hX4 hh4 hk4 B4
  have CI := Lib.hid fun W0 hp => rbI W1 H1 A1 c1 l1 W0 (by omega) hp
  have CS := Lib.hid fun W0 hp => rbS W1 H1 A1 c1 l1 W0 (by omega) hp
  have CI2 := Lib.hid fun W0 hp => rbI W2 H2 A2 c2 l2 W0 (by omega) hp
  have CF := Lib.hid fun W0 hp => fpI W1 H1 A1 c1 l1 W0 (by omega) hc1 hp
  have CF2 := Lib.hid fun W0 hp => fpI W2 H2 A2 c2 l2 W0 (by omega) hc2 hp
  have CFS := Lib.hid fun W0 hp => fpS W2 H2 A2 c2 l2 W0 (by omega) hc2 hp
  have CO1 := Lib.hid fun W0 hp => rokS W1 H1 A1 c1 l1 W0 (by omega) hp
  have CO2 := Lib.hid fun W0 hp => rokS W2 H2 A2 c2 l2 W0 (by omega) hp
  have CE := Lib.hid fun W0 hp hp' => eaRas_any W1 H1 W2 H2 A1 A2 c1 c2 l1 l2 W0 (by omega) (by omega) hp hp'
  have HZ := Lib.hid (rasOut_zero W1 H1 l1)
  have HA1 : Hid (rasB W1 H1 l1 = true → rasB W2 H2 l2 = true → _) := Lib.hid fun a b => apart_by a b
  have HA2 : Hid (rasB W1 H1 l1 = true → rasB W2 H2 l2 = true → _) := Lib.hid fun a b => apart_file a b
  unfold Filed at CI CS CI2 CF CF2 CFS
  generalize rasOut W1 H1 l1 = p1 at *
  generalize rasOut W2 H2 l2 = p2 at *
  generalize formB 80 [] W1 H1 l1 = y1 at *
  generalize formB 80 [] W2 H2 l2 = y2 at *
  generalize sameRas W1 H1 l1 W2 H2 l2 = q at *
  go_wp2_with fail
  clear x0 x1 x2
  generalize w3.alloc (.cells #[.int .i64 W2, .int .i64 H2, .slice A2 l2.length c2] 25) = w4 at *
  refine (CI.out _ S4.out.2.2.1).mono ?_
  rintro e w5 ⟨A5, c5, rfl, -, h5, b5⟩
  have S5 := Lib.hid (S4.out.next b5)
  have HX5 := Lib.hid h5
  clear CI b5 S4 hY4 h5
  have x0 := S5.out.1.c0
  have x1 := S5.out.1.c1
  have x2 := S5.out.1.c2
  have z0 := S5.out.2.1.c0
  have z1 := S5.out.2.1.c1
  have z2 := S5.out.2.1.c2
  go_wp2_with fail
  clear x0 x1 x2 z0 z1 z2
  refine (CF2.out _ S5.out.2.2.2.1).mono ?_
  rintro e w6 ⟨A6, c6, rfl, -, h6, b6⟩
  have S6 := Lib.hid (S5.out.next b6)
  have HX6 := Lib.hid (HX5.out.carry b6 (Nat.le_refl _) b6.size)
  have HY6 := Lib.hid h6
  clear CF2 b6 S5 HX5 h6
  have x0 := S6.out.1.c0
  have x1 := S6.out.1.c1
  have x2 := S6.out.1.c2
  have z0 := S6.out.2.1.c0
  have z1 := S6.out.2.1.c1
  have z2 := S6.out.2.1.c2
  go_wp2_with fail
  clear x0 x1 x2 z0 z1 z2
  refine (CS.out _ S6.out.2.2.1).mono ?_
  rintro e w7 ⟨A7, c7, rfl, -, h7, b7⟩
  have S7 := Lib.hid (S6.out.next b7)
  have HX7 := Lib.hid (HX6.out.carry b7 (Nat.le_refl _) b7.size)
  have HY7 := Lib.hid (HY6.out.carry b7 (Nat.le_refl _) b7.size)
  have HS7 := Lib.hid h7
  clear CS b7 S6 HX6 HY6 h7
  have x0 := S7.out.1.c0
  have x1 := S7.out.1.c1
  have x2 := S7.out.1.c2
  have z0 := S7.out.2.1.c0
  have z1 := S7.out.2.1.c1
  have z2 := S7.out.2.1.c2
  go_wp2_with fail
  refine (eaBytes_same _ _ _ _ _ _ p1 _ HX7.out HS7.out).mono ?_
  rintro e w' ⟨rfl, rfl⟩
  clear HS7
  go_wp2_with fail
  clear x0 x1 x2 z0 z1 z2
  refine (CFS.out _ S7.out.2.2.2.1).mono ?_
  rintro e w8 ⟨A8, c8, rfl, -, h8, b8⟩
  have S8 := Lib.hid (S7.out.next b8)
  have HX8 := Lib.hid (HX7.out.carry b8 (Nat.le_refl _) b8.size)
  have HY8 := Lib.hid (HY7.out.carry b8 (Nat.le_refl _) b8.size)
  have HS8 := Lib.hid h8
  clear CFS b8 S7 HX7 HY7 h8
  have x0 := S8.out.1.c0
  have x1 := S8.out.1.c1
  have x2 := S8.out.1.c2
  have z0 := S8.out.2.1.c0
  have z1 := S8.out.2.1.c1
  have z2 := S8.out.2.1.c2
  go_wp2_with fail
  refine (eaBytes_same _ _ _ _ _ _ y2 _ HY8.out HS8.out).mono ?_
  rintro e w' ⟨rfl, rfl⟩
  clear HS8
  go_wp2_with fail
  clear x0 x1 x2 z0 z1 z2
  refine (CO1.out _ S8.out.2.2.1).mono ?_
  rintro e w9 ⟨rfl, b9⟩
  have S9 := Lib.hid (S8.out.next b9)
  have HX9 := Lib.hid (HX8.out.carry b9 (Nat.le_refl _) b9.size)
  have HY9 := Lib.hid (HY8.out.carry b9 (Nat.le_refl _) b9.size)
  clear b9 S8 HX8 HY8
  obtain ⟨r1, hr1⟩ : ∃ r1, rasB W1 H1 l1 = r1 := ⟨_, rfl⟩
  obtain ⟨r2, hr2⟩ : ∃ r2, rasB W2 H2 l2 = r2 := ⟨_, rfl⟩
  rw [hr1] at HZ HA1 HA2 CO1 ⊢
  rw [hr2] at HA1 HA2 CO2
  clear hr1 hr2
  have x0 := S9.out.1.c0
  have x1 := S9.out.1.c1
  have x2 := S9.out.1.c2
  have z0 := S9.out.2.1.c0
  have z1 := S9.out.2.1.c1
  have z2 := S9.out.2.1.c2
  cases r1
  · have hz : (p1.length == 0) = true := HZ.out
    have hz' : ((p1.length : Int) == 0) = true := by rw [beq_iff_eq] at hz ⊢; omega
    clear HZ HA1 HA2 CI2 CF CO2 CE hz
    go_wp2_with fail
    clear x0 x1 x2 z0 z1 z2
    refine (CO1.out _ S9.out.2.2.1).mono ?_
    rintro e w10 ⟨rfl, b10⟩
    have S10 := Lib.hid (S9.out.next b10)
    clear b10 S9 HX9 HY9 CO1
    go_wp2_with fail
    refine (eaOk_any _).mono ?_
    rintro e w11 ⟨rfl, b11⟩
    have HB := Lib.hid (S10.out.next b11).2.2.2.2
    clear b11 S10
    go_wp2_with fail
    go_ret
    exact ⟨rfl, HB.out⟩
  · have hz : (p1.length == 0) = false := HZ.out
    have hz' : ((p1.length : Int) == 0) = false := by rw [beq_eq_false_iff_ne] at hz ⊢; omega
    clear HZ hz
    go_wp2_with fail
    clear x0 x1 x2 z0 z1 z2
    refine (CO2.out _ S9.out.2.2.2.1).mono ?_
    rintro e w10 ⟨rfl, b10⟩
    have S10 := Lib.hid (S9.out.next b10)
    have HX10 := Lib.hid (HX9.out.carry b10 (Nat.le_refl _) b10.size)
    have HY10 := Lib.hid (HY9.out.carry b10 (Nat.le_refl _) b10.size)
    clear b10 S9 HX9 HY9 CO2
    have x0 := S10.out.1.c0
    have x1 := S10.out.1.c1
    have x2 := S10.out.1.c2
    have z0 := S10.out.2.1.c0
    have z1 := S10.out.2.1.c1
    have z2 := S10.out.2.1.c2
    cases r2
    · clear HA1 HA2 CI2 CF CE
      go_wp2_with fail
      clear x0 x1 x2 z0 z1 z2
      refine (CO1.out _ S10.out.2.2.1).mono ?_
      rintro e w11 ⟨rfl, b11⟩
      have S11 := Lib.hid (S10.out.next b11)
      clear b11 S10 HX10 HY10 CO1
      go_wp2_with fail
      refine (eaOk_any _).mono ?_
      rintro e w12 ⟨rfl, b12⟩
      have HB := Lib.hid (S11.out.next b12).2.2.2.2
      clear b12 S11
      go_wp2_with fail
      go_ret
      exact ⟨rfl, HB.out⟩
    · have HD1 : Hid (decide (p1 = p2) = q) := Lib.hid (by simpa using HA1.out)
      have HD2 : Hid (decide (y1 = y2) = q) := Lib.hid (by simpa using HA2.out)
      clear HA1 HA2 CO1 hz'
      have hqq : (q == q) = true := by cases q <;> rfl
      have S11 := Lib.hid S10.out.drew
      have HX11 : Hid (Has w10.drew w10.drew.heap.size A5 p1) := Lib.hid (HX10.out.carry (below_draws (Below.refl _ w10) 1) (Nat.le_refl _) (Nat.le_refl _))
      have HY11 : Hid (Has w10.drew w10.drew.heap.size A6 y2) := Lib.hid (HY10.out.carry (below_draws (Below.refl _ w10) 1) (Nat.le_refl _) (Nat.le_refl _))
      go_wp2_with fail
      clear x0 x1 x2 z0 z1 z2
      refine wp_region_T (fun W => Two w w1.heap.size w3.heap.size W1 H1 A1 c1 l1 W2 H2 A2 c2 l2 W) 18 (by kernel_rfl) ?_
      generalize w10.drew = w11 at *
      refine wpAnyT_take (i := 0) (d := 55) (v := .slice A5 p1.length c5) rfl rfl (by kernel_rfl) (by kernel_rfl) (by kernel_rfl) (by kernel_rfl) (by kernel_rfl) (fun _ _ _ h => h) S11.out (Or.inl ⟨by rfl, fun w' hS' => ?_⟩) ?_
      · go_simp
      simp only [Act.put, List.setIfInBounds_toArray, List.set_cons_zero, List.set_cons_succ]
      refine wpAnyT_take (i := 1) (d := 56) (v := .agg #[.int .i64 W2, .int .i64 H2, .slice A2 l2.length c2]) rfl rfl (by kernel_rfl) (by kernel_rfl) (by kernel_rfl) (by kernel_rfl) (by kernel_rfl) (fun _ _ _ h => h) S11.out (Or.inl ⟨by rfl, fun w' hS' => ?_⟩) ?_
      · have x0 := hS'.2.1.c0
        have x1 := hS'.2.1.c1
        have x2 := hS'.2.1.c2
        go_simp
      simp only [Act.put, List.setIfInBounds_toArray, List.set_cons_zero, List.set_cons_succ]
      refine wpAnyT_take (i := 4) (d := 59) (v := .agg #[.int .i64 W1, .int .i64 H1, .slice A1 l1.length c1]) rfl rfl (by kernel_rfl) (by kernel_rfl) (by kernel_rfl) (by kernel_rfl) (by kernel_rfl) (fun _ _ _ h => h) S11.out (Or.inl ⟨by rfl, fun w' hS' => ?_⟩) ?_
      · have x0 := hS'.1.c0
        have x1 := hS'.1.c1
        have x2 := hS'.1.c2
        go_simp
      simp only [Act.put, List.setIfInBounds_toArray, List.set_cons_zero, List.set_cons_succ]
      refine wpAnyT_take (i := 5) (d := 60) (v := .agg #[.int .i64 W2, .int .i64 H2, .slice A2 l2.length c2]) rfl rfl (by kernel_rfl) (by kernel_rfl) (by kernel_rfl) (by kernel_rfl) (by kernel_rfl) (fun _ _ _ h => h) S11.out (Or.inl ⟨by rfl, fun w' hS' => ?_⟩) ?_
      · have x0 := hS'.2.1.c0
        have x1 := hS'.2.1.c1
        have x2 := hS'.2.1.c2
        go_simp
      simp only [Act.put, List.setIfInBounds_toArray, List.set_cons_zero, List.set_cons_succ]
      refine wpAnyT_one (i := 2) (by kernel_rfl) rfl (fun K hK => ?_)
      go_simp
      refine (CI2.out _ S11.out.2.2.2.1).mono ?_
      rintro e w12 ⟨A12, c12, rfl, -, h12, b12⟩
      have S12 := Lib.hid (S11.out.next b12)
      have HX12 := Lib.hid (HX11.out.carry b12 (Nat.le_refl _) b12.size)
      have HY12 := Lib.hid (HY11.out.carry b12 (Nat.le_refl _) b12.size)
      refine hK.out _ _ (fun _ => S12.out) ?_
      clear hK S11 HX11 HY11 b12
      refine wpAnyT_one (i := 3) (by kernel_rfl) rfl (fun K hK => ?_)
      go_simp
      refine (eaBytes_any _ _ _ _ _ _ p1 p2 _ HX12.out h12).mono ?_
      rintro e w' ⟨rfl, rfl⟩
      rw [HD1.out]
      refine hK.out _ _ (fun _ => S12.out) ?_
      clear hK h12 HX12
      refine wpAnyT_one (i := 6) (by kernel_rfl) rfl (fun K hK => ?_)
      go_simp
      refine (CE.out _ S12.out.2.2.1 S12.out.2.2.2.1).mono ?_
      rintro e w13 ⟨rfl, b13⟩
      have S13 := Lib.hid (S12.out.next b13)
      have HY13 := Lib.hid (HY12.out.carry b13 (Nat.le_refl _) b13.size)
      refine hK.out _ _ (fun _ => S13.out) ?_
      clear hK S12 HY12 b13
      refine wpAnyT_one (i := 7) (by kernel_rfl) rfl (fun K hK => ?_)
      go_simp
      refine hK.out _ _ (fun _ => S13.out) ?_
      clear hK
      refine wpAnyT_one (i := 8) (by kernel_rfl) rfl (fun K hK => ?_)
      go_simp
      refine hK.out _ _ (fun _ => S13.out) ?_
      clear hK
      refine wpAnyT_take (i := 9) (d := 64) (v := .agg #[.int .i64 W1, .int .i64 H1, .slice A1 l1.length c1]) rfl rfl (by kernel_rfl) (by kernel_rfl) (by kernel_rfl) (by kernel_rfl) (by kernel_rfl) (fun _ _ _ h => h) S13.out (Or.inl ⟨by rfl, fun w' hS' => ?_⟩) ?_
      · have x0 := hS'.1.c0
        have x1 := hS'.1.c1
        have x2 := hS'.1.c2
        go_simp
      simp only [Act.put, List.setIfInBounds_toArray, List.set_cons_zero, List.set_cons_succ]
      refine wpAnyT_take (i := 11) (d := 66) (v := .slice A6 y2.length c6) rfl rfl (by kernel_rfl) (by kernel_rfl) (by kernel_rfl) (by kernel_rfl) (by kernel_rfl) (fun _ _ _ h => h) S13.out (Or.inl ⟨by rfl, fun w' hS' => ?_⟩) ?_
      · go_simp
      simp only [Act.put, List.setIfInBounds_toArray, List.set_cons_zero, List.set_cons_succ]
      refine wpAnyT_take (i := 13) (d := 68) (v := .agg #[.int .i64 W1, .int .i64 H1, .slice A1 l1.length c1]) rfl rfl (by kernel_rfl) (by kernel_rfl) (by kernel_rfl) (by kernel_rfl) (by kernel_rfl) (fun _ _ _ h => h) S13.out (Or.inl ⟨by rfl, fun w' hS' => ?_⟩) ?_
      · have x0 := hS'.1.c0
        have x1 := hS'.1.c1
        have x2 := hS'.1.c2
        go_simp
      simp only [Act.put, List.setIfInBounds_toArray, List.set_cons_zero, List.set_cons_succ]
      refine wpAnyT_take (i := 14) (d := 69) (v := .agg #[.int .i64 W2, .int .i64 H2, .slice A2 l2.length c2]) rfl rfl (by kernel_rfl) (by kernel_rfl) (by kernel_rfl) (by kernel_rfl) (by kernel_rfl) (fun _ _ _ h => h) S13.out (Or.inl ⟨by rfl, fun w' hS' => ?_⟩) ?_
      · have x0 := hS'.2.1.c0
        have x1 := hS'.2.1.c1
        have x2 := hS'.2.1.c2
        go_simp
      simp only [Act.put, List.setIfInBounds_toArray, List.set_cons_zero, List.set_cons_succ]
      refine wpAnyT_one (i := 10) (by kernel_rfl) rfl (fun K hK => ?_)
      go_simp
      refine (CF.out _ S13.out.2.2.1).mono ?_
      rintro e w14 ⟨A14, c14, rfl, -, h14, b14⟩
      have S14 := Lib.hid (S13.out.next b14)
      have HY14 := Lib.hid (HY13.out.carry b14 (Nat.le_refl _) b14.size)
      refine hK.out _ _ (fun _ => S14.out) ?_
      clear hK S13 HY13 b14
      refine wpAnyT_one (i := 12) (by kernel_rfl) rfl (fun K hK => ?_)
      go_simp
      refine (eaBytes_any _ _ _ _ _ _ y1 y2 _ h14 HY14.out).mono ?_
      rintro e w' ⟨rfl, rfl⟩
      rw [HD2.out]
      refine hK.out _ _ (fun _ => S14.out) ?_
      clear hK h14 HY14
      refine wpAnyT_one (i := 15) (by kernel_rfl) rfl (fun K hK => ?_)
      go_simp
      refine (CE.out _ S14.out.2.2.1 S14.out.2.2.2.1).mono ?_
      rintro e w15 ⟨rfl, b15⟩
      have S15 := Lib.hid (S14.out.next b15)
      refine hK.out _ _ (fun _ => S15.out) ?_
      clear hK S14 b15
      refine wpAnyT_one (i := 16) (by kernel_rfl) rfl (fun K hK => ?_)
      go_simp
      refine hK.out _ _ (fun _ => S15.out) ?_
      clear hK
      refine wpAnyT_one (i := 17) (by kernel_rfl) rfl (fun K hK => ?_)
      go_simp
      refine hK.out _ _ (fun _ => S15.out) ?_
      clear hK
      refine wpAnyT_one (i := 18) (by kernel_rfl) rfl (fun K hK => ?_)
      go_simp
      refine hK.out _ _ (fun h => last_out h) ?_
      clear hK
      refine wpAnyT_done (by kernel_rfl) ?_ _
      go_wp2_with fail
      go_ret
      exact ⟨rfl, S15.out.2.2.2.2⟩
set_option maxHeartbeats 400000 in
theorem fnRasApart_walk (A : Option Addr) (c : Nat) (l : List UInt8) (A' : Option Addr) (c' : Nat) (l' : List UInt8) (w : World) (h : Has w w.heap.size A l) (hc : l.length ≤ c) (h' : Has w w.heap.size A' l') (hc' : l'.length ≤ c') :
    Calls Try.prog 5 #[.slice A l.length c, .slice A' l'.length c'] w fun e w' => e = .returned (.bool true) ∧ Below w.heap.size w w' := by
  by_cases hbig : 1048576 < l.length
  · have hb : (1048576 : Int) < (l.length : Int) := by omega
    clear hbig h h'
    go_enter Try.func5, Try.ntmps5
    go_wp2
    go_ret
    exact ⟨rfl, Below.refl _ _⟩
  · by_cases hbig' : 1048576 < l'.length
    · have hb0 : ¬ ((1048576 : Int) < (l.length : Int)) := by omega
      have hb : (1048576 : Int) < (l'.length : Int) := by omega
      clear hbig hbig' h h'
      go_enter Try.func5, Try.ntmps5
      go_wp2
      go_ret
      exact ⟨rfl, Below.refl _ _⟩
    · exact fnRasApart_small A c l A' c' l' w h hc h' hc' (by omega) (by omega)
end Go.Proofs.Ytnnpjcbdcjdojaa
