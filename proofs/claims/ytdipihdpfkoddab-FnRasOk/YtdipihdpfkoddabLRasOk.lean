/-
  The law FnRasOk returns true for every list of bytes to draw from. No condition.
-/
import Derived.Test.YtdipihdpfkoddabDrawRasO
import Derived.Test.YtdipihdpfkoddabDrawPixOk
import Derived.Test.YtdipihdpfkoddabRasI
import Derived.Test.YtdipihdpfkoddabEaOk
import Derived.Deep.RegionWith
import Derived.Deep.CutRange
import Derived.BigRegion
namespace Go.Proofs.Ytdipihdpfkoddab
open Go.RowKit

theorem own_px (w : World) (p : Px) : OwnP (w.alloc (.cells #[.int .i64 p.r, .int .i64 p.g, .int .i64 p.b, .int .i64 p.a] 28)) w.heap.size (.slice (some ⟨w.heap.size, 0, none⟩) 1 1) [p] :=
  ⟨rfl, .inr ⟨w.heap.size, 1, _, rfl, Nat.le_refl _, heap_alloc_new w _, Nat.le_refl _, by unfold maxLen; omega, rfl, rfl⟩⟩
theorem own_ne_ras {w : World} {base M n c : Nat} {A : Option Addr} {l : List Px} {W H : Int} {A' : Option Addr} {n' c' : Nat} (h : OwnP w base (.slice A n c) l) (hM : RasAtB w M W H A' n' c' 25) : ∀ b o, A = some ⟨b, o, none⟩ → b ≠ M := by
  intro b o e hb
  subst e
  subst hb
  rcases h.2 with ⟨e, -⟩ | ⟨g, cap, cur, e, _, hg, _⟩
  · cases e
  · injection e with e _ _
    injection e with e
    injection e with e1 _ _
    subst e1
    rw [hM] at hg
    injection hg with hg
    injection hg with _ hg _
    exact absurd hg (by decide)
theorem below_undrew (w : World) : Below w.heap.size w.drew w := ⟨rfl, rfl, rfl, Nat.le_refl _, fun _ _ => rfl⟩
set_option maxHeartbeats 20000000 in
theorem fnRasOk_small (A : Option Addr) (c : Nat) (l : List UInt8) (w : World) (h : Has w w.heap.size A l) (hc : l.length ≤ c) (hs : l.length ≤ 1048576) :
    Calls Try.prog 3 #[.slice A l.length c] w fun e w' => e = .returned (.bool true) ∧ Below w.heap.size w w' := by
  have HA : Hid (∀ W, Below w.heap.size w W → Has W W.heap.size A l) := Lib.hid fun W hb => h.carry hb (Nat.le_refl _) hb.size
  have C1 := Lib.hid (drawRasOk_any A c l w (by omega) hc h)
  have C2 := Lib.hid fun W hh => drawPixOk_any A c l W (by omega) hc hh
  have hl0 : ¬ ((1048576 : Int) < (l.length : Int)) := by omega
  clear h hs hc
  go_enter Try.func3, Try.ntmps3
  go_wp2_with fail
  refine C1.out.mono ?_
  rintro e w1 ⟨W, H, A1, c1, l1, rfl, hh1, hc1, hl1, B1⟩
  have CI := Lib.hid fun W0 hh => implRasOk_any W H A1 c1 l1 W0 (by omega) hh
  have CS := Lib.hid fun W0 hh => specRasOk_any W H A1 c1 l1 W0 (by omega) hh
  unfold rasV at *
  go_wp2_with fail
  have hX2 : RasAtB (w1.alloc (.cells #[.int .i64 W, .int .i64 H, .slice A1 l1.length c1] 25)) w1.heap.size W H A1 l1.length c1 25 := heap_alloc_new w1 _
  have b2 : Below w1.heap.size w1 (w1.alloc (.cells #[.int .i64 W, .int .i64 H, .slice A1 l1.length c1] 25)) := (Below.refl _ w1).alloc (Nat.le_refl _) _
  generalize w1.alloc (.cells #[.int .i64 W, .int .i64 H, .slice A1 l1.length c1] 25) = w2 at *
  have hh2 := hh1.carry b2 (Nat.le_refl _) b2.size
  have B2 := B1.trans (b2.mono B1.size)
  clear hh1 b2 B1
  refine (C2.out _ (HA.out _ B2)).mono ?_
  rintro e w3 ⟨q, rfl, b3⟩
  have z2 := hX2.lt
  have hX3 := hX2.below b3 z2
  have hh3 := hh2.carry b3 (Nat.le_refl _) b3.size
  have B3 := B2.trans (b3.mono B2.size)
  have z3 := hX3.lt
  have x0 := hX3.c0
  have x1 := hX3.c1
  have x2 := hX3.c2
  clear hX2 hh2 b3 B2
  have CPI := Lib.hid (implPixOk_any q)
  have CPS := Lib.hid (specPixOk_any q)
  unfold Px.v at *
  go_wp2_with fail
  have hP4 : PixAtB (w3.alloc (.cells #[.int .i64 q.r, .int .i64 q.g, .int .i64 q.b, .int .i64 q.a] 28)) w3.heap.size q := heap_alloc_new w3 _
  have b4 : Below w3.heap.size w3 (w3.alloc (.cells #[.int .i64 q.r, .int .i64 q.g, .int .i64 q.b, .int .i64 q.a] 28)) := (Below.refl _ w3).alloc (Nat.le_refl _) _
  generalize w3.alloc (.cells #[.int .i64 q.r, .int .i64 q.g, .int .i64 q.b, .int .i64 q.a] 28) = w4 at *
  have hX4 := hX3.below b4 z3
  have hh4 := hh3.carry b4 (Nat.le_refl _) b4.size
  have B4 := B3.trans (b4.mono B3.size)
  have z4 := hX4.lt
  have zp4 := hP4.lt
  clear hX3 hh3 b4 B3 x0 x1 x2
  refine (CI.out _ hh4).mono ?_
  rintro e w5 ⟨rfl, b5⟩
  have hX5 := (hX4.below b5 z4).drew1
  have hP5 : PixAtB w5.drew w3.heap.size q := (b5.block _ zp4).trans hP4
  have hh5 : HasP w5.drew w5.drew.heap.size A1 l1 := (hh4.carry b5 (Nat.le_refl _) b5.size).drewN 1
  have B5 := below_drew1 (B4.trans (b5.mono B4.size))
  clear hX4 hP4 hh4 b5 B4
  obtain ⟨ok, hok⟩ : ∃ ok, rasB W H l1 = ok := ⟨_, rfl⟩
  obtain ⟨okp, hokp⟩ : ∃ okp, pixB q = okp := ⟨_, rfl⟩
  rw [hok] at CS CI ⊢
  rw [hokp] at CPS CPI
  have HOK := Lib.hid hok
  clear hok hokp
  go_wp2_with fail
  go_cut [28] from 18 to 28 (fun s wx => s = .bool false ∧ Below w5.heap.size w5 wx)
  case first =>
    have x0 := hX5.c0
    have x1 := hX5.c1
    have x2 := hX5.c2
    have p0 := hP5.c0
    have p1 := hP5.c1
    have p2 := hP5.c2
    have p3 := hP5.c3
    have zp5 := hP5.lt
    have HP5 := Lib.hid hP5
    have CS5 := Lib.hid (CS.out _ hh5)
    have HB5 := Lib.hid (below_drew1 (Below.refl w5.heap.size w5))
    clear hX5 hP5 hh5 B5 CS C1 C2 HA CI
    go_region_with (first
      | (go_at_call 11; refine CS5.out.mono ?_; rintro e w6 ⟨rfl, b6⟩; have HB6 := Lib.hid (HB5.out.trans (b6.mono HB5.out.size)); have HP6 : Hid (PixAtB w6 w3.heap.size q) := Lib.hid ((b6.block _ zp5).trans HP5.out); have p60 := HP6.out.c0; have p61 := HP6.out.c1; have p62 := HP6.out.c2; have p63 := HP6.out.c3; have zp6 := HP6.out.lt; clear b6)
      | (go_at_call 12; refine (CPI.out _).mono ?_; rintro e w7 ⟨rfl, b7⟩; have HB7 := Lib.hid (HB6.out.trans (b7.mono HB6.out.size)); have HP7 : Hid (PixAtB w7 w3.heap.size q) := Lib.hid ((b7.block _ zp6).trans HP6.out); have p70 := HP7.out.c0; have p71 := HP7.out.c1; have p72 := HP7.out.c2; have p73 := HP7.out.c3; clear b7)
      | (go_at_call 13; refine (CPS.out _).mono ?_; rintro e w8 ⟨rfl, b8⟩; have HB8 := Lib.hid (HB7.out.trans (b8.mono HB7.out.size)); clear b8))
    all_goals (go_wp2_with fail; go_meet; exact ⟨rfl, HB8.out⟩)
  case rest =>
    obtain ⟨rfl, b6⟩ := hcut
    have hX5' : RasAtB w5 w1.heap.size W H A1 l1.length c1 25 := hX5
    have hh5' : HasP w5 w5.heap.size A1 l1 := hh5
    have B5' : Below w.heap.size w w5 := ⟨B5.os, B5.tape, B5.output, B5.size, B5.block⟩
    have z5 := hX5'.lt
    have hX6 := hX5'.below b6 z5
    have hh6 := hh5'.carry b6 (Nat.le_refl _) b6.size
    have B6 := B5'.trans (b6.mono B5'.size)
    clear hX5 hX5' hP5 hh5 hh5' B5 B5' b6 CS C1 C2 HA CPS
    cases ok
    · go_wp2_with fail
      refine (eaOk_any _).mono ?_
      rintro e w7 ⟨rfl, b7⟩
      have B7 := B6.trans (b7.mono B6.size)
      clear b7
      go_wp2_with fail
      go_ret
      exact ⟨rfl, B7⟩
    obtain ⟨hW, hH, hl, ha⟩ := rasB_parts HOK.out
    have h36 := mul36 hW hH
    have HAL := Lib.hid ha
    have HL := Lib.hid hl
    have hl36 : (l1.length : Int) ≤ 36 := by omega
    have hlp : 1 ≤ (l1.length : Int) := by omega
    obtain ⟨X, hXX⟩ : ∃ X, w1.heap.size = X := ⟨_, rfl⟩
    rw [hXX] at hX6
    clear ha hl h36
    go_wp2_with fail
    try rw [hXX]
    clear hXX z5 z4 z3 z2
    go_loopw [6] (fun i wr => ∃ k : Nat, k ≤ l1.length ∧ i = .int .i64 k ∧ Below wc.heap.size wc wr) (fun i _ => l1.length - (intOf i).toNat)
    case atStart => exact ⟨0, Nat.zero_le _, rfl, Below.refl _ _⟩
    case round =>
      obtain ⟨k, hk, rfl, hbel⟩ := hrel
      have hXr := hX6.below hbel hX6.lt
      have hhr := hh6.carry hbel (Nat.le_refl _) hbel.size
      have Br := B6.trans (hbel.mono B6.size)
      have x0 := hXr.c0
      have x1 := hXr.c1
      have x2 := hXr.c2
      by_cases hlt : k < l1.length
      · obtain ⟨b, o, p, hA, hbB, hp, d0, d1, d2, d3⟩ := hhr.spot hlt
        subst hA
        have CP := Lib.hid (implPixOk_any p)
        rw [List.all_eq_true.1 HAL.out p (List.mem_of_getElem? hp)] at CP
        unfold Px.v at CP
        have HBel := Lib.hid hbel
        clear hp hXr hhr Br hbel
        go_wp2_with fail
        refine (CP.out _).mono ?_
        rintro e w7 ⟨rfl, b7⟩
        have HB7 := Lib.hid (HBel.out.trans (b7.mono HBel.out.size))
        clear b7
        go_wp2_with fail
        go_roundw
        case rel => exact ⟨k + 1, by omega, by go_num, HB7.out⟩
        case measure => simp [intOf]; omega
      · obtain ⟨q0, lt, hlq⟩ : ∃ q0 lt, l1 = q0 :: lt := by
          cases l1 with
          | nil => simp at hlp
          | cons q0 lt => exact ⟨q0, lt, rfl⟩
        obtain ⟨bA, oA, hA⟩ : ∃ b o, A1 = some ⟨b, o, none⟩ := by
          rcases hhr with h0 | ⟨b, o, e, _⟩
          · rw [h0] at hlq; cases hlq
          · exact ⟨b, o, e⟩
        have hnl : lt.length + 1 = l1.length := by rw [hlq]; rfl
        have hXd := hXr.drew1
        have S0 : wr.drew.cell? ⟨X, 0, none⟩ = some (.int .i64 W) := x0
        have S1 : wr.drew.cell? ⟨X, 1, none⟩ = some (.int .i64 H) := x1
        have S2 : wr.drew.cell? ⟨X, 2, none⟩ = some (.slice A1 l1.length c1) := x2
        have zX := hXr.lt
        have hnc : ¬ c1 = 0 := by omega
        by_cases hc11 : c1 = 1
        · have hltn : ([] : List Px).length = 0 := rfl
          have hTail : ∀ W0 : World, HasP W0 W0.heap.size A1 l1 → HasP W0 W0.heap.size (some ⟨bA, oA, none⟩) ([] : List Px) := fun W0 _ => .inl rfl
          subst hA
          subst hc11
          clear hlq hnl
          have hRL : rasB W H ([] : List Px) = false := by
            unfold rasB
            rw [decide_eq_false (fun k => by have h1 := k.2.2; have h2 := HL.out; have h3 := hltn; omega)]
            rfl
          have CL := Lib.hid fun W0 hh => implRasOk_any W H (some ⟨bA, oA, none⟩) 0 ([] : List Px) W0 (by rw [hltn]; omega) hh
          rw [hRL, hltn] at CL
          have HLTN := Lib.hid hltn
          clear hltn
          have HL3 : Hid (∀ W0 : World, HasP W0 W0.heap.size (some ⟨bA, oA, none⟩) l1 → HasP W0 W0.heap.size (some ⟨bA, oA, none⟩) ([] : List Px)) := Lib.hid fun W0 hh => hTail W0 hh
          have HhR := Lib.hid hhr
          have HXr := Lib.hid hXr
          have HBr := Lib.hid Br
          clear hRL hXr hhr Br hTail hbel
          go_wp2_with fail
          go_region
          have hX7 : RasAtB (wr.alloc (.cells #[.int .i64 W, .int .i64 H, .slice (some ⟨bA, oA, none⟩) 0 0] 25)).drew X W H (some ⟨bA, oA, none⟩) l1.length 1 25 := (Below.heap_alloc wr _ _ zX).trans HXr.out
          have hL7 : RasAtB (wr.alloc (.cells #[.int .i64 W, .int .i64 H, .slice (some ⟨bA, oA, none⟩) 0 0] 25)).drew wr.heap.size W H (some ⟨bA, oA, none⟩) 0 0 25 := heap_alloc_new wr _
          have b7 : Below wr.heap.size wr (wr.alloc (.cells #[.int .i64 W, .int .i64 H, .slice (some ⟨bA, oA, none⟩) 0 0] 25)).drew := below_drew1 ((Below.refl _ wr).alloc (Nat.le_refl _) _)
          have B7 := HBr.out.trans (b7.mono HBr.out.size)
          have hh7 := HhR.out.carry b7 (Nat.le_refl _) b7.size
          clear b7 HhR HXr HBr S0 S1 S2 x0 x1 x2
          generalize (wr.alloc (.cells #[.int .i64 W, .int .i64 H, .slice (some ⟨bA, oA, none⟩) 0 0] 25)).drew = w7 at *
          obtain ⟨Lb, hLb, hXL⟩ : ∃ Lb, wr.heap.size = Lb ∧ X < Lb := ⟨_, rfl, zX⟩
          rw [hLb] at hL7 ⊢
          clear hLb
          have hX8 := hX7.drew1
          have hL8 := hL7.drew1
          have hh8 : HasP w7.drew w7.drew.heap.size (some ⟨bA, oA, none⟩) l1 := hh7.drewN 1
          have B8 := below_drew1 B7
          have ht8 := HL3.out _ hh8
          have zL := hL7.lt
          have HS0 : w7.drew.cell? ⟨X, 0, none⟩ = some (.int .i64 W) ∧ w7.drew.cell? ⟨X, 1, none⟩ = some (.int .i64 H) ∧ w7.drew.cell? ⟨X, 2, none⟩ = some (.slice (some ⟨bA, oA, none⟩) l1.length 1) := ⟨hX8.c0, hX8.c1, hX8.c2⟩
          clear hX7 hL7 hh7 B7
          go_wp2_with fail
          refine wp_region_T (fun w' => w'.cell? ⟨X, 0, none⟩ = some (.int .i64 W) ∧ w'.cell? ⟨X, 1, none⟩ = some (.int .i64 H) ∧ w'.cell? ⟨X, 2, none⟩ = some (.slice (some ⟨bA, oA, none⟩) l1.length 1)) 12 (by kernel_rfl) ?_
          refine wpAnyT_take (i := 0) (d := 54) (v := .pointer (some ⟨X, 0, none⟩)) rfl rfl (by kernel_rfl) (by kernel_rfl) (by kernel_rfl) (by kernel_rfl) (by kernel_rfl) (fun _ _ _ h => h) HS0 (Or.inl ⟨by rfl, fun w' hS' => ?_⟩) ?_
          · obtain ⟨s0, s1, s2⟩ := hS'
            go_simp
          simp only [Act.put, List.setIfInBounds_toArray, List.set_cons_zero, List.set_cons_succ]
          refine wpAnyT_take (i := 1) (d := 55) (v := .int .i64 W) rfl rfl (by kernel_rfl) (by kernel_rfl) (by kernel_rfl) (by kernel_rfl) (by kernel_rfl) (fun _ _ _ h => h) HS0 (Or.inl ⟨by rfl, fun w' hS' => ?_⟩) ?_
          · obtain ⟨s0, s1, s2⟩ := hS'
            go_simp
          simp only [Act.put, List.setIfInBounds_toArray, List.set_cons_zero, List.set_cons_succ]
          refine wpAnyT_take (i := 2) (d := 56) (v := .pointer (some ⟨X, 1, none⟩)) rfl rfl (by kernel_rfl) (by kernel_rfl) (by kernel_rfl) (by kernel_rfl) (by kernel_rfl) (fun _ _ _ h => h) HS0 (Or.inl ⟨by rfl, fun w' hS' => ?_⟩) ?_
          · obtain ⟨s0, s1, s2⟩ := hS'
            go_simp
          simp only [Act.put, List.setIfInBounds_toArray, List.set_cons_zero, List.set_cons_succ]
          refine wpAnyT_take (i := 3) (d := 57) (v := .int .i64 H) rfl rfl (by kernel_rfl) (by kernel_rfl) (by kernel_rfl) (by kernel_rfl) (by kernel_rfl) (fun _ _ _ h => h) HS0 (Or.inl ⟨by rfl, fun w' hS' => ?_⟩) ?_
          · obtain ⟨s0, s1, s2⟩ := hS'
            go_simp
          simp only [Act.put, List.setIfInBounds_toArray, List.set_cons_zero, List.set_cons_succ]
          refine wpAnyT_take (i := 4) (d := 58) (v := .agg #[.int .i64 256, .int .i64 0, .int .i64 0, .int .i64 0]) rfl rfl (by kernel_rfl) (by kernel_rfl) (by kernel_rfl) (by kernel_rfl) (by kernel_rfl) (fun _ _ _ h => h) HS0 (Or.inl ⟨by rfl, fun w' hS' => ?_⟩) ?_
          · obtain ⟨s0, s1, s2⟩ := hS'
            go_simp
          simp only [Act.put, List.setIfInBounds_toArray, List.set_cons_zero, List.set_cons_succ]
          refine wpAnyT_take (i := 6) (d := 60) (v := .pointer (some ⟨X, 2, none⟩)) rfl rfl (by kernel_rfl) (by kernel_rfl) (by kernel_rfl) (by kernel_rfl) (by kernel_rfl) (fun _ _ _ h => h) HS0 (Or.inl ⟨by rfl, fun w' hS' => ?_⟩) ?_
          · obtain ⟨s0, s1, s2⟩ := hS'
            go_simp
          simp only [Act.put, List.setIfInBounds_toArray, List.set_cons_zero, List.set_cons_succ]
          refine wpAnyT_take (i := 7) (d := 61) (v := .slice (some ⟨bA, oA, none⟩) l1.length 1) rfl rfl (by kernel_rfl) (by kernel_rfl) (by kernel_rfl) (by kernel_rfl) (by kernel_rfl) (fun _ _ _ h => h) HS0 (Or.inl ⟨by rfl, fun w' hS' => ?_⟩) ?_
          · obtain ⟨s0, s1, s2⟩ := hS'
            go_simp
          simp only [Act.put, List.setIfInBounds_toArray, List.set_cons_zero, List.set_cons_succ]
          refine wpAnyT_take (i := 8) (d := 62) (v := .slice (some ⟨bA, oA, none⟩) 0 0) rfl rfl (by kernel_rfl) (by kernel_rfl) (by kernel_rfl) (by kernel_rfl) (by kernel_rfl) (fun _ _ _ h => h) HS0 (Or.inl ⟨by rfl, fun w' hS' => ?_⟩) ?_
          · obtain ⟨s0, s1, s2⟩ := hS'
            go_simp
          simp only [Act.put, List.setIfInBounds_toArray, List.set_cons_zero, List.set_cons_succ]
          obtain ⟨L9, hL9e⟩ : ∃ L9 : List Px, [⟨256, 0, 0, 0⟩] ++ ([] : List Px) = L9 := ⟨_, rfl⟩
          have HL9 := Lib.hid hL9e
          have hL9n : L9.length ≤ 37 := by rw [← hL9e, List.length_append, HLTN.out]; simp <;> omega
          have hL9b : rasB W H L9 = false := by
            unfold rasB
            rw [all_stop (l := L9) (k := 0) (p := ⟨256, 0, 0, 0⟩) (by rw [← hL9e]; rfl) (by rfl), Bool.and_false]
          have CW := Lib.hid fun A9 c9 W0 hh => implRasOk_any W H A9 c9 L9 W0 (by omega) hh
          rw [hL9b] at CW
          have HWR : Hid (wrap64 (W * H) = W * H) := Lib.hid (by have := mul36 hW hH; unfold wrap64; omega)
          have hw7 : w.heap.size ≤ w7.heap.size := B8.size
          have zX7 : X < w7.heap.size := hX8.lt
          unfold rasV at CL CW
          clear hL9e hL9b
          refine wpAnyT_two (i := 5) (j := 11) (by kernel_rfl) rfl rfl (fun K hK => ?_) (fun K hK => ?_)
          · have ba : Below w7.heap.size w7.drew (w7.alloc (.cells #[.int .i64 256, .int .i64 0, .int .i64 0, .int .i64 0] 28)).drew := below_drew1 (Below.alloc (B := w7.heap.size) (w := w7) (below_undrew w7) (Nat.le_refl _) (.cells #[.int .i64 256, .int .i64 0, .int .i64 0, .int .i64 0] 28))
            have hXa : RasAtB (w7.alloc (.cells #[.int .i64 256, .int .i64 0, .int .i64 0, .int .i64 0] 28)).drew X W H (some ⟨bA, oA, none⟩) l1.length 1 25 := hX8.below ba zX7
            have hLa : RasAtB (w7.alloc (.cells #[.int .i64 256, .int .i64 0, .int .i64 0, .int .i64 0] 28)).drew Lb W H (some ⟨bA, oA, none⟩) 0 0 25 := hL8.below ba zL
            have hta : HasP (w7.alloc (.cells #[.int .i64 256, .int .i64 0, .int .i64 0, .int .i64 0] 28)).drew w7.heap.size (some ⟨bA, oA, none⟩) ([] : List Px) := ht8.below ba
            have Ba : Below w.heap.size w (w7.alloc (.cells #[.int .i64 256, .int .i64 0, .int .i64 0, .int .i64 0] 28)).drew := B8.trans (ba.mono hw7)
            have owna : OwnP (w7.alloc (.cells #[.int .i64 256, .int .i64 0, .int .i64 0, .int .i64 0] 28)).drew w7.heap.size (.slice (some ⟨w7.heap.size, 0, none⟩) 1 1) [⟨256, 0, 0, 0⟩] := own_px w7 ⟨256, 0, 0, 0⟩
            go_simp
            refine hK.out _ _ (fun _ => ⟨hXa.c0, hXa.c1, hXa.c2⟩) ?_
            clear hK
            refine wpAnyT_two (i := 9) (j := 11) (by kernel_rfl) rfl rfl (fun K hK => ?_) (fun K hK => ?_)
            · refine step_pushAllP rfl (.tmp 59) (.tmp 62) rfl (w7.heap.size) _ [⟨256, 0, 0, 0⟩] rfl owna _ _ 0 0 ([] : List Px) HLTN.out rfl hta (by rw [HLTN.out]; simp <;> omega) (by simp <;> omega) ?_
              intro v9 w9 own9 g9
              rw [HL9.out] at own9
              obtain ⟨A9, c9, rfl, hc9, hh9⟩ := own9.has
              have b9 : Below w7.heap.size w7.drew w9 := ba.trans ((Below.refl _ _).grown g9 (by simp <;> omega) (fun b hb => by have := (World.ownsRow.lt owna b hb).1; omega))
              have hX9 := hX8.below b9 zX7
              have hL9 := hL8.below b9 zL
              have ht9 := ht8.below b9
              have B9 := B8.trans (b9.mono hw7)
              have hz9 : w7.heap.size ≤ w9.heap.size := b9.size
              refine hK.out _ _ (fun _ => ⟨hX9.c0, hX9.c1, hX9.c2⟩) ?_
              clear hK g9
              try simp only [Act.put, List.setIfInBounds_toArray]
              refine wpAnyT_take (i := 10) (d := 64) (v := .agg #[.int .i64 W, .int .i64 H, .slice A9 L9.length c9]) rfl rfl (by kernel_rfl) (by kernel_rfl) (by kernel_rfl) (by kernel_rfl) (by kernel_rfl) (fun _ _ _ h => h) ⟨hX9.c0, hX9.c1, hX9.c2⟩ (Or.inl ⟨by rfl, fun w' hS' => by go_simp⟩) ?_
              simp only [Act.put]
              have hme : RasAtB (w9.alloc (.cells #[.int .i64 0, .int .i64 0, .slice none 0 0] 25)) w9.heap.size 0 0 none 0 0 25 := heap_alloc_new w9 _
              have bm : Below w9.heap.size w9 (w9.alloc (.cells #[.int .i64 0, .int .i64 0, .slice none 0 0] 25)) := (Below.refl _ w9).alloc (Nat.le_refl _) _
              have bM : Below w9.heap.size w9 (w9.alloc (.cells #[.int .i64 W, .int .i64 H, .slice A9 L9.length c9] 25)) := (Below.refl _ w9).alloc (Nat.le_refl _) _
              have hXm := hX9.below bm hX9.lt
              have hMe : RasAtB (w9.alloc (.cells #[.int .i64 W, .int .i64 H, .slice A9 L9.length c9] 25)) w9.heap.size W H A9 L9.length c9 25 := heap_alloc_new w9 _
              have hXe := hX9.below bM hX9.lt
              have hLe := hL9.below bM hL9.lt
              have hte := ht9.below (bM.mono hz9)
              have Be := B9.trans (bM.mono B9.size)
              have hhe := hh9.carry bM (Nat.le_refl _) bM.size
              have hne : w7.heap.size ≤ (w9.alloc (.cells #[.int .i64 W, .int .i64 H, .slice A9 L9.length c9] 25)).heap.size := Nat.le_trans hz9 bM.size
              refine wpAnyT_one (i := 11) (by kernel_rfl) rfl (fun K hK => ?_)
              go_simp
              refine hK.out _ _ (fun _ => ⟨hXm.c0, hXm.c1, hXm.c2⟩) ?_
              clear hK
              try simp only [Act.put, List.setIfInBounds_toArray]
              refine wpAnyT_one (i := 12) (by kernel_rfl) rfl (fun K hK => ?_)
              go_simp
              refine hK.out _ _ (fun h => last_out h) ?_
              clear hK
              refine wpAnyT_done (by kernel_rfl) ?_ _
              have y0 := hLe.c0
              have y1 := hLe.c1
              have y2 := hLe.c2
              have HMe := Lib.hid hMe
              have HXe := Lib.hid hXe
              have HBe := Lib.hid Be
              have CLe := Lib.hid (CL.out _ (hte.wider hne))
              have Hhe := Lib.hid hhe
              have zMe := hMe.lt
              have zXe := hXe.lt
              clear hMe hXe hLe hte Be hhe hXm hme bm bM hX9 hL9 ht9 B9 own9 hh9 b9
              go_wp2_with fail
              refine CLe.out.mono ?_
              rintro e wg ⟨rfl, bg⟩
              have hMg := HMe.out.below bg zMe
              have hXg := HXe.out.below bg zXe
              have m0 := hMg.c0
              have m1 := hMg.c1
              have m2 := hMg.c2
              have Bg := HBe.out.trans (bg.mono HBe.out.size)
              have hhg := Hhe.out.carry bg (Nat.le_refl _) bg.size
              have zXg := hXg.lt
              clear bg
              go_wp2_with fail
              refine (CW.out _ _ _ hhg).mono ?_
              rintro e wk ⟨rfl, bk⟩
              have hXk := hXg.below bk zXg
              have k0 := hXk.c0
              have k1 := hXk.c1
              have k2 := hXk.c2
              have Bk := Bg.trans (bk.mono Bg.size)
              have hwr := HWR.out
              have heq : ((l1.length : Int) == W * H) = true := beq_iff_eq.2 HL.out
              clear bk
              go_wp2_with fail
              go_ret
              exact ⟨rfl, Bk⟩
            · have bb : Below w7.heap.size w7.drew ((w7.alloc (.cells #[.int .i64 256, .int .i64 0, .int .i64 0, .int .i64 0] 28)).alloc (.cells #[.int .i64 0, .int .i64 0, .slice none 0 0] 25)).drew := below_drew1 (Below.alloc (Below.alloc (below_undrew w7) (Nat.le_refl _) (.cells #[.int .i64 256, .int .i64 0, .int .i64 0, .int .i64 0] 28)) (by simp) (.cells #[.int .i64 0, .int .i64 0, .slice none 0 0] 25))
              have hXb : RasAtB ((w7.alloc (.cells #[.int .i64 256, .int .i64 0, .int .i64 0, .int .i64 0] 28)).alloc (.cells #[.int .i64 0, .int .i64 0, .slice none 0 0] 25)).drew X W H (some ⟨bA, oA, none⟩) l1.length 1 25 := hX8.below bb zX7
              have hLb : RasAtB ((w7.alloc (.cells #[.int .i64 256, .int .i64 0, .int .i64 0, .int .i64 0] 28)).alloc (.cells #[.int .i64 0, .int .i64 0, .slice none 0 0] 25)).drew Lb W H (some ⟨bA, oA, none⟩) 0 0 25 := hL8.below bb zL
              have htb : HasP ((w7.alloc (.cells #[.int .i64 256, .int .i64 0, .int .i64 0, .int .i64 0] 28)).alloc (.cells #[.int .i64 0, .int .i64 0, .slice none 0 0] 25)).drew w7.heap.size (some ⟨bA, oA, none⟩) ([] : List Px) := ht8.below bb
              have Bb : Below w.heap.size w ((w7.alloc (.cells #[.int .i64 256, .int .i64 0, .int .i64 0, .int .i64 0] 28)).alloc (.cells #[.int .i64 0, .int .i64 0, .slice none 0 0] 25)).drew := B8.trans (bb.mono hw7)
              have ownb : OwnP ((w7.alloc (.cells #[.int .i64 256, .int .i64 0, .int .i64 0, .int .i64 0] 28)).alloc (.cells #[.int .i64 0, .int .i64 0, .slice none 0 0] 25)).drew w7.heap.size (.slice (some ⟨w7.heap.size, 0, none⟩) 1 1) [⟨256, 0, 0, 0⟩] := World.ownsRow.alloc (own_px w7 ⟨256, 0, 0, 0⟩) (.cells #[.int .i64 0, .int .i64 0, .slice none 0 0] 25)
              have hMb : RasAtB ((w7.alloc (.cells #[.int .i64 256, .int .i64 0, .int .i64 0, .int .i64 0] 28)).alloc (.cells #[.int .i64 0, .int .i64 0, .slice none 0 0] 25)).drew (w7.heap.size + 1) 0 0 none 0 0 25 := by
                have := heap_alloc_new (w7.alloc (.cells #[.int .i64 256, .int .i64 0, .int .i64 0, .int .i64 0] 28)) (.cells #[.int .i64 0, .int .i64 0, .slice none 0 0] 25)
                rw [show (w7.alloc (.cells #[.int .i64 256, .int .i64 0, .int .i64 0, .int .i64 0] 28)).heap.size = w7.heap.size + 1 from by simp] at this
                exact this
              go_simp
              refine hK.out _ _ (fun _ => ⟨hXb.c0, hXb.c1, hXb.c2⟩) ?_
              clear hK
              refine wpAnyT_one (i := 9) (by kernel_rfl) rfl (fun K hK => ?_)
              refine step_pushAllP rfl (.tmp 59) (.tmp 62) rfl (w7.heap.size) _ [⟨256, 0, 0, 0⟩] rfl ownb _ _ 0 0 ([] : List Px) HLTN.out rfl htb (by rw [HLTN.out]; simp <;> omega) (by simp <;> omega) ?_
              intro v9 w9 own9 g9
              rw [HL9.out] at own9
              obtain ⟨A9, c9, rfl, hc9, hh9⟩ := own9.has
              have b9 : Below w7.heap.size w7.drew w9 := bb.trans ((Below.refl _ _).grown g9 (by simp <;> omega) (fun b hb => by have := (World.ownsRow.lt ownb b hb).1; omega))
              have hX9 := hX8.below b9 zX7
              have hL9 := hL8.below b9 zL
              have ht9 := ht8.below b9
              have B9 := B8.trans (b9.mono hw7)
              have hM9 : RasAtB w9 (w7.heap.size + 1) 0 0 none 0 0 25 := hMb.grown g9 (fun e => by have e1 : some w7.heap.size = some (w7.heap.size + 1) := e; injection e1 with e1; omega)
              have hA9 := own_ne_ras own9 hM9
              have zM9 := hM9.lt
              refine hK.out _ _ (fun _ => ⟨hX9.c0, hX9.c1, hX9.c2⟩) ?_
              clear hK g9
              try simp only [Act.put, List.setIfInBounds_toArray]
              refine wpAnyT_take (i := 10) (d := 64) (v := .agg #[.int .i64 W, .int .i64 H, .slice A9 L9.length c9]) rfl rfl (by kernel_rfl) (by kernel_rfl) (by kernel_rfl) (by kernel_rfl) (by kernel_rfl) (fun _ _ _ h => h) ⟨hX9.c0, hX9.c1, hX9.c2⟩ (Or.inl ⟨by rfl, fun w' hS' => by go_simp⟩) ?_
              simp only [Act.put]
              have m90 := hM9.c0
              have m91 := hM9.c1
              have m92 := hM9.c2
              have mf0 := hM9.free 0
              have mf1 := hM9.free 1
              have mf2 := hM9.free 2
              have bS : Below w7.heap.size w9 (((w9.setCell ⟨w7.heap.size + 1, 0, none⟩ (.int .i64 W)).setCell ⟨w7.heap.size + 1, 1, none⟩ (.int .i64 H)).setCell ⟨w7.heap.size + 1, 2, none⟩ (.slice A9 L9.length c9)) := (((Below.refl _ w9).setCell (p := ⟨w7.heap.size + 1, 0, none⟩) (by simp <;> omega) _).setCell (p := ⟨w7.heap.size + 1, 1, none⟩) (by simp <;> omega) _).setCell (p := ⟨w7.heap.size + 1, 2, none⟩) (by simp <;> omega) _
              have hMe : RasAtB (((w9.setCell ⟨w7.heap.size + 1, 0, none⟩ (.int .i64 W)).setCell ⟨w7.heap.size + 1, 1, none⟩ (.int .i64 H)).setCell ⟨w7.heap.size + 1, 2, none⟩ (.slice A9 L9.length c9)) (w7.heap.size + 1) W H A9 L9.length c9 25 := fin_ras hM9 _ _ _
              have hXe := hX9.below bS zX7
              have hLe := hL9.below bS zL
              have hte := ht9.below bS
              have Be := B9.trans (bS.mono hw7)
              have hhe : HasP (((w9.setCell ⟨w7.heap.size + 1, 0, none⟩ (.int .i64 W)).setCell ⟨w7.heap.size + 1, 1, none⟩ (.int .i64 H)).setCell ⟨w7.heap.size + 1, 2, none⟩ (.slice A9 L9.length c9)) (((w9.setCell ⟨w7.heap.size + 1, 0, none⟩ (.int .i64 W)).setCell ⟨w7.heap.size + 1, 1, none⟩ (.int .i64 H)).setCell ⟨w7.heap.size + 1, 2, none⟩ (.slice A9 L9.length c9)).heap.size A9 L9 := by simpa using ((hh9.set_ne hA9 0 (.int .i64 W)).set_ne hA9 1 (.int .i64 H)).set_ne hA9 2 (.slice A9 L9.length c9)
              have hne : w7.heap.size ≤ (((w9.setCell ⟨w7.heap.size + 1, 0, none⟩ (.int .i64 W)).setCell ⟨w7.heap.size + 1, 1, none⟩ (.int .i64 H)).setCell ⟨w7.heap.size + 1, 2, none⟩ (.slice A9 L9.length c9)).heap.size := by have := b9.size; simpa using this
              have hzz : w7.heap.size ≤ w9.heap.size := b9.size
              refine wpAnyT_one (i := 12) (by kernel_rfl) rfl (fun K hK => ?_)
              go_simp
              refine hK.out _ _ (fun h => last_out h) ?_
              clear hK
              refine wpAnyT_done (by kernel_rfl) ?_ _
              have y0 := hLe.c0
              have y1 := hLe.c1
              have y2 := hLe.c2
              have HMe := Lib.hid hMe
              have HXe := Lib.hid hXe
              have HBe := Lib.hid Be
              have CLe := Lib.hid (CL.out _ (hte.wider hne))
              have Hhe := Lib.hid hhe
              have zMe := hMe.lt
              have zXe := hXe.lt
              clear hMe hXe hLe hte Be hhe hA9 bS hX9 hL9 ht9 B9 own9 hh9 b9 hM9
              go_wp2_with fail
              refine CLe.out.mono ?_
              rintro e wg ⟨rfl, bg⟩
              have hMg := HMe.out.below bg zMe
              have hXg := HXe.out.below bg zXe
              have m0 := hMg.c0
              have m1 := hMg.c1
              have m2 := hMg.c2
              have Bg := HBe.out.trans (bg.mono HBe.out.size)
              have hhg := Hhe.out.carry bg (Nat.le_refl _) bg.size
              have zXg := hXg.lt
              clear bg
              go_wp2_with fail
              refine (CW.out _ _ _ hhg).mono ?_
              rintro e wk ⟨rfl, bk⟩
              have hXk := hXg.below bk zXg
              have k0 := hXk.c0
              have k1 := hXk.c1
              have k2 := hXk.c2
              have Bk := Bg.trans (bk.mono Bg.size)
              have hwr := HWR.out
              have heq : ((l1.length : Int) == W * H) = true := beq_iff_eq.2 HL.out
              clear bk
              go_wp2_with fail
              go_ret
              exact ⟨rfl, Bk⟩
          · have bd : Below w7.heap.size w7.drew (w7.alloc (.cells #[.int .i64 0, .int .i64 0, .slice none 0 0] 25)).drew := below_drew1 (Below.alloc (below_undrew w7) (Nat.le_refl _) (.cells #[.int .i64 0, .int .i64 0, .slice none 0 0] 25))
            have hXd_ : RasAtB (w7.alloc (.cells #[.int .i64 0, .int .i64 0, .slice none 0 0] 25)).drew X W H (some ⟨bA, oA, none⟩) l1.length 1 25 := hX8.below bd zX7
            have hLd : RasAtB (w7.alloc (.cells #[.int .i64 0, .int .i64 0, .slice none 0 0] 25)).drew Lb W H (some ⟨bA, oA, none⟩) 0 0 25 := hL8.below bd zL
            have htd : HasP (w7.alloc (.cells #[.int .i64 0, .int .i64 0, .slice none 0 0] 25)).drew w7.heap.size (some ⟨bA, oA, none⟩) ([] : List Px) := ht8.below bd
            have Bd : Below w.heap.size w (w7.alloc (.cells #[.int .i64 0, .int .i64 0, .slice none 0 0] 25)).drew := B8.trans (bd.mono hw7)
            go_simp
            refine hK.out _ _ (fun _ => ⟨hXd_.c0, hXd_.c1, hXd_.c2⟩) ?_
            clear hK
            refine wpAnyT_one (i := 5) (by kernel_rfl) rfl (fun K hK => ?_)
            have bc : Below w7.heap.size w7.drew ((w7.alloc (.cells #[.int .i64 0, .int .i64 0, .slice none 0 0] 25)).alloc (.cells #[.int .i64 256, .int .i64 0, .int .i64 0, .int .i64 0] 28)).drew := below_drew1 (Below.alloc (Below.alloc (below_undrew w7) (Nat.le_refl _) (.cells #[.int .i64 0, .int .i64 0, .slice none 0 0] 25)) (by simp) (.cells #[.int .i64 256, .int .i64 0, .int .i64 0, .int .i64 0] 28))
            have hXc : RasAtB ((w7.alloc (.cells #[.int .i64 0, .int .i64 0, .slice none 0 0] 25)).alloc (.cells #[.int .i64 256, .int .i64 0, .int .i64 0, .int .i64 0] 28)).drew X W H (some ⟨bA, oA, none⟩) l1.length 1 25 := hX8.below bc zX7
            have hLc : RasAtB ((w7.alloc (.cells #[.int .i64 0, .int .i64 0, .slice none 0 0] 25)).alloc (.cells #[.int .i64 256, .int .i64 0, .int .i64 0, .int .i64 0] 28)).drew Lb W H (some ⟨bA, oA, none⟩) 0 0 25 := hL8.below bc zL
            have htc : HasP ((w7.alloc (.cells #[.int .i64 0, .int .i64 0, .slice none 0 0] 25)).alloc (.cells #[.int .i64 256, .int .i64 0, .int .i64 0, .int .i64 0] 28)).drew w7.heap.size (some ⟨bA, oA, none⟩) ([] : List Px) := ht8.below bc
            have Bc : Below w.heap.size w ((w7.alloc (.cells #[.int .i64 0, .int .i64 0, .slice none 0 0] 25)).alloc (.cells #[.int .i64 256, .int .i64 0, .int .i64 0, .int .i64 0] 28)).drew := B8.trans (bc.mono hw7)
            have ownc : OwnP ((w7.alloc (.cells #[.int .i64 0, .int .i64 0, .slice none 0 0] 25)).alloc (.cells #[.int .i64 256, .int .i64 0, .int .i64 0, .int .i64 0] 28)).drew (w7.heap.size + 1) (.slice (some ⟨w7.heap.size + 1, 0, none⟩) 1 1) [⟨256, 0, 0, 0⟩] := by
              have := own_px (w7.alloc (.cells #[.int .i64 0, .int .i64 0, .slice none 0 0] 25)) ⟨256, 0, 0, 0⟩
              rw [show (w7.alloc (.cells #[.int .i64 0, .int .i64 0, .slice none 0 0] 25)).heap.size = w7.heap.size + 1 from by simp] at this
              exact this
            have hMc : RasAtB ((w7.alloc (.cells #[.int .i64 0, .int .i64 0, .slice none 0 0] 25)).alloc (.cells #[.int .i64 256, .int .i64 0, .int .i64 0, .int .i64 0] 28)).drew w7.heap.size 0 0 none 0 0 25 := (Below.heap_alloc (w7.alloc (.cells #[.int .i64 0, .int .i64 0, .slice none 0 0] 25)) (.cells #[.int .i64 256, .int .i64 0, .int .i64 0, .int .i64 0] 28) _ (by simp)).trans (heap_alloc_new w7 _)
            go_simp
            refine hK.out _ _ (fun _ => ⟨hXc.c0, hXc.c1, hXc.c2⟩) ?_
            clear hK
            refine wpAnyT_one (i := 9) (by kernel_rfl) rfl (fun K hK => ?_)
            refine step_pushAllP rfl (.tmp 59) (.tmp 62) rfl (w7.heap.size + 1) _ [⟨256, 0, 0, 0⟩] rfl ownc _ _ 0 0 ([] : List Px) HLTN.out rfl htc (by rw [HLTN.out]; simp <;> omega) (by simp <;> omega) ?_
            intro v9 w9 own9 g9
            rw [HL9.out] at own9
            obtain ⟨A9, c9, rfl, hc9, hh9⟩ := own9.has
            have b9 : Below w7.heap.size w7.drew w9 := bc.trans ((Below.refl _ _).grown g9 (by simp <;> omega) (fun b hb => by have := (World.ownsRow.lt ownc b hb).1; omega))
            have hX9 := hX8.below b9 zX7
            have hL9 := hL8.below b9 zL
            have ht9 := ht8.below b9
            have B9 := B8.trans (b9.mono hw7)
            have hM9 : RasAtB w9 (w7.heap.size) 0 0 none 0 0 25 := hMc.grown g9 (fun e => by have e1 : some (w7.heap.size + 1) = some w7.heap.size := e; injection e1 with e1; omega)
            have hA9 := own_ne_ras own9 hM9
            have zM9 := hM9.lt
            refine hK.out _ _ (fun _ => ⟨hX9.c0, hX9.c1, hX9.c2⟩) ?_
            clear hK g9
            try simp only [Act.put, List.setIfInBounds_toArray]
            refine wpAnyT_take (i := 10) (d := 64) (v := .agg #[.int .i64 W, .int .i64 H, .slice A9 L9.length c9]) rfl rfl (by kernel_rfl) (by kernel_rfl) (by kernel_rfl) (by kernel_rfl) (by kernel_rfl) (fun _ _ _ h => h) ⟨hX9.c0, hX9.c1, hX9.c2⟩ (Or.inl ⟨by rfl, fun w' hS' => by go_simp⟩) ?_
            simp only [Act.put]
            have m90 := hM9.c0
            have m91 := hM9.c1
            have m92 := hM9.c2
            have mf0 := hM9.free 0
            have mf1 := hM9.free 1
            have mf2 := hM9.free 2
            have bS : Below w7.heap.size w9 (((w9.setCell ⟨w7.heap.size, 0, none⟩ (.int .i64 W)).setCell ⟨w7.heap.size, 1, none⟩ (.int .i64 H)).setCell ⟨w7.heap.size, 2, none⟩ (.slice A9 L9.length c9)) := (((Below.refl _ w9).setCell (p := ⟨w7.heap.size, 0, none⟩) (by simp <;> omega) _).setCell (p := ⟨w7.heap.size, 1, none⟩) (by simp <;> omega) _).setCell (p := ⟨w7.heap.size, 2, none⟩) (by simp <;> omega) _
            have hMe : RasAtB (((w9.setCell ⟨w7.heap.size, 0, none⟩ (.int .i64 W)).setCell ⟨w7.heap.size, 1, none⟩ (.int .i64 H)).setCell ⟨w7.heap.size, 2, none⟩ (.slice A9 L9.length c9)) (w7.heap.size) W H A9 L9.length c9 25 := fin_ras hM9 _ _ _
            have hXe := hX9.below bS zX7
            have hLe := hL9.below bS zL
            have hte := ht9.below bS
            have Be := B9.trans (bS.mono hw7)
            have hhe : HasP (((w9.setCell ⟨w7.heap.size, 0, none⟩ (.int .i64 W)).setCell ⟨w7.heap.size, 1, none⟩ (.int .i64 H)).setCell ⟨w7.heap.size, 2, none⟩ (.slice A9 L9.length c9)) (((w9.setCell ⟨w7.heap.size, 0, none⟩ (.int .i64 W)).setCell ⟨w7.heap.size, 1, none⟩ (.int .i64 H)).setCell ⟨w7.heap.size, 2, none⟩ (.slice A9 L9.length c9)).heap.size A9 L9 := by simpa using ((hh9.set_ne hA9 0 (.int .i64 W)).set_ne hA9 1 (.int .i64 H)).set_ne hA9 2 (.slice A9 L9.length c9)
            have hne : w7.heap.size ≤ (((w9.setCell ⟨w7.heap.size, 0, none⟩ (.int .i64 W)).setCell ⟨w7.heap.size, 1, none⟩ (.int .i64 H)).setCell ⟨w7.heap.size, 2, none⟩ (.slice A9 L9.length c9)).heap.size := by have := b9.size; simpa using this
            have hzz : w7.heap.size ≤ w9.heap.size := b9.size
            refine wpAnyT_one (i := 12) (by kernel_rfl) rfl (fun K hK => ?_)
            go_simp
            refine hK.out _ _ (fun h => last_out h) ?_
            clear hK
            refine wpAnyT_done (by kernel_rfl) ?_ _
            have y0 := hLe.c0
            have y1 := hLe.c1
            have y2 := hLe.c2
            have HMe := Lib.hid hMe
            have HXe := Lib.hid hXe
            have HBe := Lib.hid Be
            have CLe := Lib.hid (CL.out _ (hte.wider hne))
            have Hhe := Lib.hid hhe
            have zMe := hMe.lt
            have zXe := hXe.lt
            clear hMe hXe hLe hte Be hhe hA9 bS hX9 hL9 ht9 B9 own9 hh9 b9 hM9
            go_wp2_with fail
            refine CLe.out.mono ?_
            rintro e wg ⟨rfl, bg⟩
            have hMg := HMe.out.below bg zMe
            have hXg := HXe.out.below bg zXe
            have m0 := hMg.c0
            have m1 := hMg.c1
            have m2 := hMg.c2
            have Bg := HBe.out.trans (bg.mono HBe.out.size)
            have hhg := Hhe.out.carry bg (Nat.le_refl _) bg.size
            have zXg := hXg.lt
            clear bg
            go_wp2_with fail
            refine (CW.out _ _ _ hhg).mono ?_
            rintro e wk ⟨rfl, bk⟩
            have hXk := hXg.below bk zXg
            have k0 := hXk.c0
            have k1 := hXk.c1
            have k2 := hXk.c2
            have Bk := Bg.trans (bk.mono Bg.size)
            have hwr := HWR.out
            have heq : ((l1.length : Int) == W * H) = true := beq_iff_eq.2 HL.out
            clear bk
            go_wp2_with fail
            go_ret
            exact ⟨rfl, Bk⟩
        · have hltn : lt.length = l1.length - 1 := by omega
          have hTail : ∀ W0 : World, HasP W0 W0.heap.size A1 l1 → HasP W0 W0.heap.size (some ⟨bA, oA + 4, none⟩) lt := fun W0 hh => by
            rw [hlq, hA] at hh
            exact HasP.tail hh
          subst hA
          clear hlq hnl
          have hRL : rasB W H lt = false := by
            unfold rasB
            rw [decide_eq_false (fun k => by have h1 := k.2.2; have h2 := HL.out; have h3 := hltn; omega)]
            rfl
          have CL := Lib.hid fun W0 hh => implRasOk_any W H (some ⟨bA, oA + 4, none⟩) (c1 - 1) lt W0 (by rw [hltn]; omega) hh
          rw [hRL, hltn] at CL
          have HLTN := Lib.hid hltn
          clear hltn
          have HL3 : Hid (∀ W0 : World, HasP W0 W0.heap.size (some ⟨bA, oA, none⟩) l1 → HasP W0 W0.heap.size (some ⟨bA, oA + 4, none⟩) lt) := Lib.hid fun W0 hh => hTail W0 hh
          have HhR := Lib.hid hhr
          have HXr := Lib.hid hXr
          have HBr := Lib.hid Br
          clear hRL hXr hhr Br hTail hbel
          go_wp2_with fail
          go_region
          have hX7 : RasAtB (wr.alloc (.cells #[.int .i64 W, .int .i64 H, .slice (some ⟨bA, oA + 4, none⟩) (l1.length - 1) (c1 - 1)] 25)).drew X W H (some ⟨bA, oA, none⟩) l1.length c1 25 := (Below.heap_alloc wr _ _ zX).trans HXr.out
          have hL7 : RasAtB (wr.alloc (.cells #[.int .i64 W, .int .i64 H, .slice (some ⟨bA, oA + 4, none⟩) (l1.length - 1) (c1 - 1)] 25)).drew wr.heap.size W H (some ⟨bA, oA + 4, none⟩) (l1.length - 1) (c1 - 1) 25 := heap_alloc_new wr _
          have b7 : Below wr.heap.size wr (wr.alloc (.cells #[.int .i64 W, .int .i64 H, .slice (some ⟨bA, oA + 4, none⟩) (l1.length - 1) (c1 - 1)] 25)).drew := below_drew1 ((Below.refl _ wr).alloc (Nat.le_refl _) _)
          have B7 := HBr.out.trans (b7.mono HBr.out.size)
          have hh7 := HhR.out.carry b7 (Nat.le_refl _) b7.size
          clear b7 HhR HXr HBr S0 S1 S2 x0 x1 x2
          generalize (wr.alloc (.cells #[.int .i64 W, .int .i64 H, .slice (some ⟨bA, oA + 4, none⟩) (l1.length - 1) (c1 - 1)] 25)).drew = w7 at *
          obtain ⟨Lb, hLb, hXL⟩ : ∃ Lb, wr.heap.size = Lb ∧ X < Lb := ⟨_, rfl, zX⟩
          rw [hLb] at hL7 ⊢
          clear hLb
          have hX8 := hX7.drew1
          have hL8 := hL7.drew1
          have hh8 : HasP w7.drew w7.drew.heap.size (some ⟨bA, oA, none⟩) l1 := hh7.drewN 1
          have B8 := below_drew1 B7
          have ht8 := HL3.out _ hh8
          have zL := hL7.lt
          have HS0 : w7.drew.cell? ⟨X, 0, none⟩ = some (.int .i64 W) ∧ w7.drew.cell? ⟨X, 1, none⟩ = some (.int .i64 H) ∧ w7.drew.cell? ⟨X, 2, none⟩ = some (.slice (some ⟨bA, oA, none⟩) l1.length c1) := ⟨hX8.c0, hX8.c1, hX8.c2⟩
          clear hX7 hL7 hh7 B7
          go_wp2_with fail
          refine wp_region_T (fun w' => w'.cell? ⟨X, 0, none⟩ = some (.int .i64 W) ∧ w'.cell? ⟨X, 1, none⟩ = some (.int .i64 H) ∧ w'.cell? ⟨X, 2, none⟩ = some (.slice (some ⟨bA, oA, none⟩) l1.length c1)) 12 (by kernel_rfl) ?_
          refine wpAnyT_take (i := 0) (d := 54) (v := .pointer (some ⟨X, 0, none⟩)) rfl rfl (by kernel_rfl) (by kernel_rfl) (by kernel_rfl) (by kernel_rfl) (by kernel_rfl) (fun _ _ _ h => h) HS0 (Or.inl ⟨by rfl, fun w' hS' => ?_⟩) ?_
          · obtain ⟨s0, s1, s2⟩ := hS'
            go_simp
          simp only [Act.put, List.setIfInBounds_toArray, List.set_cons_zero, List.set_cons_succ]
          refine wpAnyT_take (i := 1) (d := 55) (v := .int .i64 W) rfl rfl (by kernel_rfl) (by kernel_rfl) (by kernel_rfl) (by kernel_rfl) (by kernel_rfl) (fun _ _ _ h => h) HS0 (Or.inl ⟨by rfl, fun w' hS' => ?_⟩) ?_
          · obtain ⟨s0, s1, s2⟩ := hS'
            go_simp
          simp only [Act.put, List.setIfInBounds_toArray, List.set_cons_zero, List.set_cons_succ]
          refine wpAnyT_take (i := 2) (d := 56) (v := .pointer (some ⟨X, 1, none⟩)) rfl rfl (by kernel_rfl) (by kernel_rfl) (by kernel_rfl) (by kernel_rfl) (by kernel_rfl) (fun _ _ _ h => h) HS0 (Or.inl ⟨by rfl, fun w' hS' => ?_⟩) ?_
          · obtain ⟨s0, s1, s2⟩ := hS'
            go_simp
          simp only [Act.put, List.setIfInBounds_toArray, List.set_cons_zero, List.set_cons_succ]
          refine wpAnyT_take (i := 3) (d := 57) (v := .int .i64 H) rfl rfl (by kernel_rfl) (by kernel_rfl) (by kernel_rfl) (by kernel_rfl) (by kernel_rfl) (fun _ _ _ h => h) HS0 (Or.inl ⟨by rfl, fun w' hS' => ?_⟩) ?_
          · obtain ⟨s0, s1, s2⟩ := hS'
            go_simp
          simp only [Act.put, List.setIfInBounds_toArray, List.set_cons_zero, List.set_cons_succ]
          refine wpAnyT_take (i := 4) (d := 58) (v := .agg #[.int .i64 256, .int .i64 0, .int .i64 0, .int .i64 0]) rfl rfl (by kernel_rfl) (by kernel_rfl) (by kernel_rfl) (by kernel_rfl) (by kernel_rfl) (fun _ _ _ h => h) HS0 (Or.inl ⟨by rfl, fun w' hS' => ?_⟩) ?_
          · obtain ⟨s0, s1, s2⟩ := hS'
            go_simp
          simp only [Act.put, List.setIfInBounds_toArray, List.set_cons_zero, List.set_cons_succ]
          refine wpAnyT_take (i := 6) (d := 60) (v := .pointer (some ⟨X, 2, none⟩)) rfl rfl (by kernel_rfl) (by kernel_rfl) (by kernel_rfl) (by kernel_rfl) (by kernel_rfl) (fun _ _ _ h => h) HS0 (Or.inl ⟨by rfl, fun w' hS' => ?_⟩) ?_
          · obtain ⟨s0, s1, s2⟩ := hS'
            go_simp
          simp only [Act.put, List.setIfInBounds_toArray, List.set_cons_zero, List.set_cons_succ]
          refine wpAnyT_take (i := 7) (d := 61) (v := .slice (some ⟨bA, oA, none⟩) l1.length c1) rfl rfl (by kernel_rfl) (by kernel_rfl) (by kernel_rfl) (by kernel_rfl) (by kernel_rfl) (fun _ _ _ h => h) HS0 (Or.inl ⟨by rfl, fun w' hS' => ?_⟩) ?_
          · obtain ⟨s0, s1, s2⟩ := hS'
            go_simp
          simp only [Act.put, List.setIfInBounds_toArray, List.set_cons_zero, List.set_cons_succ]
          refine wpAnyT_take (i := 8) (d := 62) (v := .slice (some ⟨bA, oA + 4, none⟩) (l1.length - 1) (c1 - 1)) rfl rfl (by kernel_rfl) (by kernel_rfl) (by kernel_rfl) (by kernel_rfl) (by kernel_rfl) (fun _ _ _ h => h) HS0 (Or.inl ⟨by rfl, fun w' hS' => ?_⟩) ?_
          · obtain ⟨s0, s1, s2⟩ := hS'
            go_simp
          simp only [Act.put, List.setIfInBounds_toArray, List.set_cons_zero, List.set_cons_succ]
          obtain ⟨L9, hL9e⟩ : ∃ L9 : List Px, [⟨256, 0, 0, 0⟩] ++ lt = L9 := ⟨_, rfl⟩
          have HL9 := Lib.hid hL9e
          have hL9n : L9.length ≤ 37 := by rw [← hL9e, List.length_append, HLTN.out]; simp <;> omega
          have hL9b : rasB W H L9 = false := by
            unfold rasB
            rw [all_stop (l := L9) (k := 0) (p := ⟨256, 0, 0, 0⟩) (by rw [← hL9e]; rfl) (by rfl), Bool.and_false]
          have CW := Lib.hid fun A9 c9 W0 hh => implRasOk_any W H A9 c9 L9 W0 (by omega) hh
          rw [hL9b] at CW
          have HWR : Hid (wrap64 (W * H) = W * H) := Lib.hid (by have := mul36 hW hH; unfold wrap64; omega)
          have hw7 : w.heap.size ≤ w7.heap.size := B8.size
          have zX7 : X < w7.heap.size := hX8.lt
          unfold rasV at CL CW
          clear hL9e hL9b
          refine wpAnyT_two (i := 5) (j := 11) (by kernel_rfl) rfl rfl (fun K hK => ?_) (fun K hK => ?_)
          · have ba : Below w7.heap.size w7.drew (w7.alloc (.cells #[.int .i64 256, .int .i64 0, .int .i64 0, .int .i64 0] 28)).drew := below_drew1 (Below.alloc (B := w7.heap.size) (w := w7) (below_undrew w7) (Nat.le_refl _) (.cells #[.int .i64 256, .int .i64 0, .int .i64 0, .int .i64 0] 28))
            have hXa : RasAtB (w7.alloc (.cells #[.int .i64 256, .int .i64 0, .int .i64 0, .int .i64 0] 28)).drew X W H (some ⟨bA, oA, none⟩) l1.length c1 25 := hX8.below ba zX7
            have hLa : RasAtB (w7.alloc (.cells #[.int .i64 256, .int .i64 0, .int .i64 0, .int .i64 0] 28)).drew Lb W H (some ⟨bA, oA + 4, none⟩) (l1.length - 1) (c1 - 1) 25 := hL8.below ba zL
            have hta : HasP (w7.alloc (.cells #[.int .i64 256, .int .i64 0, .int .i64 0, .int .i64 0] 28)).drew w7.heap.size (some ⟨bA, oA + 4, none⟩) lt := ht8.below ba
            have Ba : Below w.heap.size w (w7.alloc (.cells #[.int .i64 256, .int .i64 0, .int .i64 0, .int .i64 0] 28)).drew := B8.trans (ba.mono hw7)
            have owna : OwnP (w7.alloc (.cells #[.int .i64 256, .int .i64 0, .int .i64 0, .int .i64 0] 28)).drew w7.heap.size (.slice (some ⟨w7.heap.size, 0, none⟩) 1 1) [⟨256, 0, 0, 0⟩] := own_px w7 ⟨256, 0, 0, 0⟩
            go_simp
            refine hK.out _ _ (fun _ => ⟨hXa.c0, hXa.c1, hXa.c2⟩) ?_
            clear hK
            refine wpAnyT_two (i := 9) (j := 11) (by kernel_rfl) rfl rfl (fun K hK => ?_) (fun K hK => ?_)
            · refine step_pushAllP rfl (.tmp 59) (.tmp 62) rfl (w7.heap.size) _ [⟨256, 0, 0, 0⟩] rfl owna _ _ (c1 - 1) (l1.length - 1) lt HLTN.out rfl hta (by rw [HLTN.out]; simp <;> omega) (by simp <;> omega) ?_
              intro v9 w9 own9 g9
              rw [HL9.out] at own9
              obtain ⟨A9, c9, rfl, hc9, hh9⟩ := own9.has
              have b9 : Below w7.heap.size w7.drew w9 := ba.trans ((Below.refl _ _).grown g9 (by simp <;> omega) (fun b hb => by have := (World.ownsRow.lt owna b hb).1; omega))
              have hX9 := hX8.below b9 zX7
              have hL9 := hL8.below b9 zL
              have ht9 := ht8.below b9
              have B9 := B8.trans (b9.mono hw7)
              have hz9 : w7.heap.size ≤ w9.heap.size := b9.size
              refine hK.out _ _ (fun _ => ⟨hX9.c0, hX9.c1, hX9.c2⟩) ?_
              clear hK g9
              try simp only [Act.put, List.setIfInBounds_toArray]
              refine wpAnyT_take (i := 10) (d := 64) (v := .agg #[.int .i64 W, .int .i64 H, .slice A9 L9.length c9]) rfl rfl (by kernel_rfl) (by kernel_rfl) (by kernel_rfl) (by kernel_rfl) (by kernel_rfl) (fun _ _ _ h => h) ⟨hX9.c0, hX9.c1, hX9.c2⟩ (Or.inl ⟨by rfl, fun w' hS' => by go_simp⟩) ?_
              simp only [Act.put]
              have hme : RasAtB (w9.alloc (.cells #[.int .i64 0, .int .i64 0, .slice none 0 0] 25)) w9.heap.size 0 0 none 0 0 25 := heap_alloc_new w9 _
              have bm : Below w9.heap.size w9 (w9.alloc (.cells #[.int .i64 0, .int .i64 0, .slice none 0 0] 25)) := (Below.refl _ w9).alloc (Nat.le_refl _) _
              have bM : Below w9.heap.size w9 (w9.alloc (.cells #[.int .i64 W, .int .i64 H, .slice A9 L9.length c9] 25)) := (Below.refl _ w9).alloc (Nat.le_refl _) _
              have hXm := hX9.below bm hX9.lt
              have hMe : RasAtB (w9.alloc (.cells #[.int .i64 W, .int .i64 H, .slice A9 L9.length c9] 25)) w9.heap.size W H A9 L9.length c9 25 := heap_alloc_new w9 _
              have hXe := hX9.below bM hX9.lt
              have hLe := hL9.below bM hL9.lt
              have hte := ht9.below (bM.mono hz9)
              have Be := B9.trans (bM.mono B9.size)
              have hhe := hh9.carry bM (Nat.le_refl _) bM.size
              have hne : w7.heap.size ≤ (w9.alloc (.cells #[.int .i64 W, .int .i64 H, .slice A9 L9.length c9] 25)).heap.size := Nat.le_trans hz9 bM.size
              refine wpAnyT_one (i := 11) (by kernel_rfl) rfl (fun K hK => ?_)
              go_simp
              refine hK.out _ _ (fun _ => ⟨hXm.c0, hXm.c1, hXm.c2⟩) ?_
              clear hK
              try simp only [Act.put, List.setIfInBounds_toArray]
              refine wpAnyT_one (i := 12) (by kernel_rfl) rfl (fun K hK => ?_)
              go_simp
              refine hK.out _ _ (fun h => last_out h) ?_
              clear hK
              refine wpAnyT_done (by kernel_rfl) ?_ _
              have y0 := hLe.c0
              have y1 := hLe.c1
              have y2 := hLe.c2
              have HMe := Lib.hid hMe
              have HXe := Lib.hid hXe
              have HBe := Lib.hid Be
              have CLe := Lib.hid (CL.out _ (hte.wider hne))
              have Hhe := Lib.hid hhe
              have zMe := hMe.lt
              have zXe := hXe.lt
              clear hMe hXe hLe hte Be hhe hXm hme bm bM hX9 hL9 ht9 B9 own9 hh9 b9
              go_wp2_with fail
              refine CLe.out.mono ?_
              rintro e wg ⟨rfl, bg⟩
              have hMg := HMe.out.below bg zMe
              have hXg := HXe.out.below bg zXe
              have m0 := hMg.c0
              have m1 := hMg.c1
              have m2 := hMg.c2
              have Bg := HBe.out.trans (bg.mono HBe.out.size)
              have hhg := Hhe.out.carry bg (Nat.le_refl _) bg.size
              have zXg := hXg.lt
              clear bg
              go_wp2_with fail
              refine (CW.out _ _ _ hhg).mono ?_
              rintro e wk ⟨rfl, bk⟩
              have hXk := hXg.below bk zXg
              have k0 := hXk.c0
              have k1 := hXk.c1
              have k2 := hXk.c2
              have Bk := Bg.trans (bk.mono Bg.size)
              have hwr := HWR.out
              have heq : ((l1.length : Int) == W * H) = true := beq_iff_eq.2 HL.out
              clear bk
              go_wp2_with fail
              go_ret
              exact ⟨rfl, Bk⟩
            · have bb : Below w7.heap.size w7.drew ((w7.alloc (.cells #[.int .i64 256, .int .i64 0, .int .i64 0, .int .i64 0] 28)).alloc (.cells #[.int .i64 0, .int .i64 0, .slice none 0 0] 25)).drew := below_drew1 (Below.alloc (Below.alloc (below_undrew w7) (Nat.le_refl _) (.cells #[.int .i64 256, .int .i64 0, .int .i64 0, .int .i64 0] 28)) (by simp) (.cells #[.int .i64 0, .int .i64 0, .slice none 0 0] 25))
              have hXb : RasAtB ((w7.alloc (.cells #[.int .i64 256, .int .i64 0, .int .i64 0, .int .i64 0] 28)).alloc (.cells #[.int .i64 0, .int .i64 0, .slice none 0 0] 25)).drew X W H (some ⟨bA, oA, none⟩) l1.length c1 25 := hX8.below bb zX7
              have hLb : RasAtB ((w7.alloc (.cells #[.int .i64 256, .int .i64 0, .int .i64 0, .int .i64 0] 28)).alloc (.cells #[.int .i64 0, .int .i64 0, .slice none 0 0] 25)).drew Lb W H (some ⟨bA, oA + 4, none⟩) (l1.length - 1) (c1 - 1) 25 := hL8.below bb zL
              have htb : HasP ((w7.alloc (.cells #[.int .i64 256, .int .i64 0, .int .i64 0, .int .i64 0] 28)).alloc (.cells #[.int .i64 0, .int .i64 0, .slice none 0 0] 25)).drew w7.heap.size (some ⟨bA, oA + 4, none⟩) lt := ht8.below bb
              have Bb : Below w.heap.size w ((w7.alloc (.cells #[.int .i64 256, .int .i64 0, .int .i64 0, .int .i64 0] 28)).alloc (.cells #[.int .i64 0, .int .i64 0, .slice none 0 0] 25)).drew := B8.trans (bb.mono hw7)
              have ownb : OwnP ((w7.alloc (.cells #[.int .i64 256, .int .i64 0, .int .i64 0, .int .i64 0] 28)).alloc (.cells #[.int .i64 0, .int .i64 0, .slice none 0 0] 25)).drew w7.heap.size (.slice (some ⟨w7.heap.size, 0, none⟩) 1 1) [⟨256, 0, 0, 0⟩] := World.ownsRow.alloc (own_px w7 ⟨256, 0, 0, 0⟩) (.cells #[.int .i64 0, .int .i64 0, .slice none 0 0] 25)
              have hMb : RasAtB ((w7.alloc (.cells #[.int .i64 256, .int .i64 0, .int .i64 0, .int .i64 0] 28)).alloc (.cells #[.int .i64 0, .int .i64 0, .slice none 0 0] 25)).drew (w7.heap.size + 1) 0 0 none 0 0 25 := by
                have := heap_alloc_new (w7.alloc (.cells #[.int .i64 256, .int .i64 0, .int .i64 0, .int .i64 0] 28)) (.cells #[.int .i64 0, .int .i64 0, .slice none 0 0] 25)
                rw [show (w7.alloc (.cells #[.int .i64 256, .int .i64 0, .int .i64 0, .int .i64 0] 28)).heap.size = w7.heap.size + 1 from by simp] at this
                exact this
              go_simp
              refine hK.out _ _ (fun _ => ⟨hXb.c0, hXb.c1, hXb.c2⟩) ?_
              clear hK
              refine wpAnyT_one (i := 9) (by kernel_rfl) rfl (fun K hK => ?_)
              refine step_pushAllP rfl (.tmp 59) (.tmp 62) rfl (w7.heap.size) _ [⟨256, 0, 0, 0⟩] rfl ownb _ _ (c1 - 1) (l1.length - 1) lt HLTN.out rfl htb (by rw [HLTN.out]; simp <;> omega) (by simp <;> omega) ?_
              intro v9 w9 own9 g9
              rw [HL9.out] at own9
              obtain ⟨A9, c9, rfl, hc9, hh9⟩ := own9.has
              have b9 : Below w7.heap.size w7.drew w9 := bb.trans ((Below.refl _ _).grown g9 (by simp <;> omega) (fun b hb => by have := (World.ownsRow.lt ownb b hb).1; omega))
              have hX9 := hX8.below b9 zX7
              have hL9 := hL8.below b9 zL
              have ht9 := ht8.below b9
              have B9 := B8.trans (b9.mono hw7)
              have hM9 : RasAtB w9 (w7.heap.size + 1) 0 0 none 0 0 25 := hMb.grown g9 (fun e => by have e1 : some w7.heap.size = some (w7.heap.size + 1) := e; injection e1 with e1; omega)
              have hA9 := own_ne_ras own9 hM9
              have zM9 := hM9.lt
              refine hK.out _ _ (fun _ => ⟨hX9.c0, hX9.c1, hX9.c2⟩) ?_
              clear hK g9
              try simp only [Act.put, List.setIfInBounds_toArray]
              refine wpAnyT_take (i := 10) (d := 64) (v := .agg #[.int .i64 W, .int .i64 H, .slice A9 L9.length c9]) rfl rfl (by kernel_rfl) (by kernel_rfl) (by kernel_rfl) (by kernel_rfl) (by kernel_rfl) (fun _ _ _ h => h) ⟨hX9.c0, hX9.c1, hX9.c2⟩ (Or.inl ⟨by rfl, fun w' hS' => by go_simp⟩) ?_
              simp only [Act.put]
              have m90 := hM9.c0
              have m91 := hM9.c1
              have m92 := hM9.c2
              have mf0 := hM9.free 0
              have mf1 := hM9.free 1
              have mf2 := hM9.free 2
              have bS : Below w7.heap.size w9 (((w9.setCell ⟨w7.heap.size + 1, 0, none⟩ (.int .i64 W)).setCell ⟨w7.heap.size + 1, 1, none⟩ (.int .i64 H)).setCell ⟨w7.heap.size + 1, 2, none⟩ (.slice A9 L9.length c9)) := (((Below.refl _ w9).setCell (p := ⟨w7.heap.size + 1, 0, none⟩) (by simp <;> omega) _).setCell (p := ⟨w7.heap.size + 1, 1, none⟩) (by simp <;> omega) _).setCell (p := ⟨w7.heap.size + 1, 2, none⟩) (by simp <;> omega) _
              have hMe : RasAtB (((w9.setCell ⟨w7.heap.size + 1, 0, none⟩ (.int .i64 W)).setCell ⟨w7.heap.size + 1, 1, none⟩ (.int .i64 H)).setCell ⟨w7.heap.size + 1, 2, none⟩ (.slice A9 L9.length c9)) (w7.heap.size + 1) W H A9 L9.length c9 25 := fin_ras hM9 _ _ _
              have hXe := hX9.below bS zX7
              have hLe := hL9.below bS zL
              have hte := ht9.below bS
              have Be := B9.trans (bS.mono hw7)
              have hhe : HasP (((w9.setCell ⟨w7.heap.size + 1, 0, none⟩ (.int .i64 W)).setCell ⟨w7.heap.size + 1, 1, none⟩ (.int .i64 H)).setCell ⟨w7.heap.size + 1, 2, none⟩ (.slice A9 L9.length c9)) (((w9.setCell ⟨w7.heap.size + 1, 0, none⟩ (.int .i64 W)).setCell ⟨w7.heap.size + 1, 1, none⟩ (.int .i64 H)).setCell ⟨w7.heap.size + 1, 2, none⟩ (.slice A9 L9.length c9)).heap.size A9 L9 := by simpa using ((hh9.set_ne hA9 0 (.int .i64 W)).set_ne hA9 1 (.int .i64 H)).set_ne hA9 2 (.slice A9 L9.length c9)
              have hne : w7.heap.size ≤ (((w9.setCell ⟨w7.heap.size + 1, 0, none⟩ (.int .i64 W)).setCell ⟨w7.heap.size + 1, 1, none⟩ (.int .i64 H)).setCell ⟨w7.heap.size + 1, 2, none⟩ (.slice A9 L9.length c9)).heap.size := by have := b9.size; simpa using this
              have hzz : w7.heap.size ≤ w9.heap.size := b9.size
              refine wpAnyT_one (i := 12) (by kernel_rfl) rfl (fun K hK => ?_)
              go_simp
              refine hK.out _ _ (fun h => last_out h) ?_
              clear hK
              refine wpAnyT_done (by kernel_rfl) ?_ _
              have y0 := hLe.c0
              have y1 := hLe.c1
              have y2 := hLe.c2
              have HMe := Lib.hid hMe
              have HXe := Lib.hid hXe
              have HBe := Lib.hid Be
              have CLe := Lib.hid (CL.out _ (hte.wider hne))
              have Hhe := Lib.hid hhe
              have zMe := hMe.lt
              have zXe := hXe.lt
              clear hMe hXe hLe hte Be hhe hA9 bS hX9 hL9 ht9 B9 own9 hh9 b9 hM9
              go_wp2_with fail
              refine CLe.out.mono ?_
              rintro e wg ⟨rfl, bg⟩
              have hMg := HMe.out.below bg zMe
              have hXg := HXe.out.below bg zXe
              have m0 := hMg.c0
              have m1 := hMg.c1
              have m2 := hMg.c2
              have Bg := HBe.out.trans (bg.mono HBe.out.size)
              have hhg := Hhe.out.carry bg (Nat.le_refl _) bg.size
              have zXg := hXg.lt
              clear bg
              go_wp2_with fail
              refine (CW.out _ _ _ hhg).mono ?_
              rintro e wk ⟨rfl, bk⟩
              have hXk := hXg.below bk zXg
              have k0 := hXk.c0
              have k1 := hXk.c1
              have k2 := hXk.c2
              have Bk := Bg.trans (bk.mono Bg.size)
              have hwr := HWR.out
              have heq : ((l1.length : Int) == W * H) = true := beq_iff_eq.2 HL.out
              clear bk
              go_wp2_with fail
              go_ret
              exact ⟨rfl, Bk⟩
          · have bd : Below w7.heap.size w7.drew (w7.alloc (.cells #[.int .i64 0, .int .i64 0, .slice none 0 0] 25)).drew := below_drew1 (Below.alloc (below_undrew w7) (Nat.le_refl _) (.cells #[.int .i64 0, .int .i64 0, .slice none 0 0] 25))
            have hXd_ : RasAtB (w7.alloc (.cells #[.int .i64 0, .int .i64 0, .slice none 0 0] 25)).drew X W H (some ⟨bA, oA, none⟩) l1.length c1 25 := hX8.below bd zX7
            have hLd : RasAtB (w7.alloc (.cells #[.int .i64 0, .int .i64 0, .slice none 0 0] 25)).drew Lb W H (some ⟨bA, oA + 4, none⟩) (l1.length - 1) (c1 - 1) 25 := hL8.below bd zL
            have htd : HasP (w7.alloc (.cells #[.int .i64 0, .int .i64 0, .slice none 0 0] 25)).drew w7.heap.size (some ⟨bA, oA + 4, none⟩) lt := ht8.below bd
            have Bd : Below w.heap.size w (w7.alloc (.cells #[.int .i64 0, .int .i64 0, .slice none 0 0] 25)).drew := B8.trans (bd.mono hw7)
            go_simp
            refine hK.out _ _ (fun _ => ⟨hXd_.c0, hXd_.c1, hXd_.c2⟩) ?_
            clear hK
            refine wpAnyT_one (i := 5) (by kernel_rfl) rfl (fun K hK => ?_)
            have bc : Below w7.heap.size w7.drew ((w7.alloc (.cells #[.int .i64 0, .int .i64 0, .slice none 0 0] 25)).alloc (.cells #[.int .i64 256, .int .i64 0, .int .i64 0, .int .i64 0] 28)).drew := below_drew1 (Below.alloc (Below.alloc (below_undrew w7) (Nat.le_refl _) (.cells #[.int .i64 0, .int .i64 0, .slice none 0 0] 25)) (by simp) (.cells #[.int .i64 256, .int .i64 0, .int .i64 0, .int .i64 0] 28))
            have hXc : RasAtB ((w7.alloc (.cells #[.int .i64 0, .int .i64 0, .slice none 0 0] 25)).alloc (.cells #[.int .i64 256, .int .i64 0, .int .i64 0, .int .i64 0] 28)).drew X W H (some ⟨bA, oA, none⟩) l1.length c1 25 := hX8.below bc zX7
            have hLc : RasAtB ((w7.alloc (.cells #[.int .i64 0, .int .i64 0, .slice none 0 0] 25)).alloc (.cells #[.int .i64 256, .int .i64 0, .int .i64 0, .int .i64 0] 28)).drew Lb W H (some ⟨bA, oA + 4, none⟩) (l1.length - 1) (c1 - 1) 25 := hL8.below bc zL
            have htc : HasP ((w7.alloc (.cells #[.int .i64 0, .int .i64 0, .slice none 0 0] 25)).alloc (.cells #[.int .i64 256, .int .i64 0, .int .i64 0, .int .i64 0] 28)).drew w7.heap.size (some ⟨bA, oA + 4, none⟩) lt := ht8.below bc
            have Bc : Below w.heap.size w ((w7.alloc (.cells #[.int .i64 0, .int .i64 0, .slice none 0 0] 25)).alloc (.cells #[.int .i64 256, .int .i64 0, .int .i64 0, .int .i64 0] 28)).drew := B8.trans (bc.mono hw7)
            have ownc : OwnP ((w7.alloc (.cells #[.int .i64 0, .int .i64 0, .slice none 0 0] 25)).alloc (.cells #[.int .i64 256, .int .i64 0, .int .i64 0, .int .i64 0] 28)).drew (w7.heap.size + 1) (.slice (some ⟨w7.heap.size + 1, 0, none⟩) 1 1) [⟨256, 0, 0, 0⟩] := by
              have := own_px (w7.alloc (.cells #[.int .i64 0, .int .i64 0, .slice none 0 0] 25)) ⟨256, 0, 0, 0⟩
              rw [show (w7.alloc (.cells #[.int .i64 0, .int .i64 0, .slice none 0 0] 25)).heap.size = w7.heap.size + 1 from by simp] at this
              exact this
            have hMc : RasAtB ((w7.alloc (.cells #[.int .i64 0, .int .i64 0, .slice none 0 0] 25)).alloc (.cells #[.int .i64 256, .int .i64 0, .int .i64 0, .int .i64 0] 28)).drew w7.heap.size 0 0 none 0 0 25 := (Below.heap_alloc (w7.alloc (.cells #[.int .i64 0, .int .i64 0, .slice none 0 0] 25)) (.cells #[.int .i64 256, .int .i64 0, .int .i64 0, .int .i64 0] 28) _ (by simp)).trans (heap_alloc_new w7 _)
            go_simp
            refine hK.out _ _ (fun _ => ⟨hXc.c0, hXc.c1, hXc.c2⟩) ?_
            clear hK
            refine wpAnyT_one (i := 9) (by kernel_rfl) rfl (fun K hK => ?_)
            refine step_pushAllP rfl (.tmp 59) (.tmp 62) rfl (w7.heap.size + 1) _ [⟨256, 0, 0, 0⟩] rfl ownc _ _ (c1 - 1) (l1.length - 1) lt HLTN.out rfl htc (by rw [HLTN.out]; simp <;> omega) (by simp <;> omega) ?_
            intro v9 w9 own9 g9
            rw [HL9.out] at own9
            obtain ⟨A9, c9, rfl, hc9, hh9⟩ := own9.has
            have b9 : Below w7.heap.size w7.drew w9 := bc.trans ((Below.refl _ _).grown g9 (by simp <;> omega) (fun b hb => by have := (World.ownsRow.lt ownc b hb).1; omega))
            have hX9 := hX8.below b9 zX7
            have hL9 := hL8.below b9 zL
            have ht9 := ht8.below b9
            have B9 := B8.trans (b9.mono hw7)
            have hM9 : RasAtB w9 (w7.heap.size) 0 0 none 0 0 25 := hMc.grown g9 (fun e => by have e1 : some (w7.heap.size + 1) = some w7.heap.size := e; injection e1 with e1; omega)
            have hA9 := own_ne_ras own9 hM9
            have zM9 := hM9.lt
            refine hK.out _ _ (fun _ => ⟨hX9.c0, hX9.c1, hX9.c2⟩) ?_
            clear hK g9
            try simp only [Act.put, List.setIfInBounds_toArray]
            refine wpAnyT_take (i := 10) (d := 64) (v := .agg #[.int .i64 W, .int .i64 H, .slice A9 L9.length c9]) rfl rfl (by kernel_rfl) (by kernel_rfl) (by kernel_rfl) (by kernel_rfl) (by kernel_rfl) (fun _ _ _ h => h) ⟨hX9.c0, hX9.c1, hX9.c2⟩ (Or.inl ⟨by rfl, fun w' hS' => by go_simp⟩) ?_
            simp only [Act.put]
            have m90 := hM9.c0
            have m91 := hM9.c1
            have m92 := hM9.c2
            have mf0 := hM9.free 0
            have mf1 := hM9.free 1
            have mf2 := hM9.free 2
            have bS : Below w7.heap.size w9 (((w9.setCell ⟨w7.heap.size, 0, none⟩ (.int .i64 W)).setCell ⟨w7.heap.size, 1, none⟩ (.int .i64 H)).setCell ⟨w7.heap.size, 2, none⟩ (.slice A9 L9.length c9)) := (((Below.refl _ w9).setCell (p := ⟨w7.heap.size, 0, none⟩) (by simp <;> omega) _).setCell (p := ⟨w7.heap.size, 1, none⟩) (by simp <;> omega) _).setCell (p := ⟨w7.heap.size, 2, none⟩) (by simp <;> omega) _
            have hMe : RasAtB (((w9.setCell ⟨w7.heap.size, 0, none⟩ (.int .i64 W)).setCell ⟨w7.heap.size, 1, none⟩ (.int .i64 H)).setCell ⟨w7.heap.size, 2, none⟩ (.slice A9 L9.length c9)) (w7.heap.size) W H A9 L9.length c9 25 := fin_ras hM9 _ _ _
            have hXe := hX9.below bS zX7
            have hLe := hL9.below bS zL
            have hte := ht9.below bS
            have Be := B9.trans (bS.mono hw7)
            have hhe : HasP (((w9.setCell ⟨w7.heap.size, 0, none⟩ (.int .i64 W)).setCell ⟨w7.heap.size, 1, none⟩ (.int .i64 H)).setCell ⟨w7.heap.size, 2, none⟩ (.slice A9 L9.length c9)) (((w9.setCell ⟨w7.heap.size, 0, none⟩ (.int .i64 W)).setCell ⟨w7.heap.size, 1, none⟩ (.int .i64 H)).setCell ⟨w7.heap.size, 2, none⟩ (.slice A9 L9.length c9)).heap.size A9 L9 := by simpa using ((hh9.set_ne hA9 0 (.int .i64 W)).set_ne hA9 1 (.int .i64 H)).set_ne hA9 2 (.slice A9 L9.length c9)
            have hne : w7.heap.size ≤ (((w9.setCell ⟨w7.heap.size, 0, none⟩ (.int .i64 W)).setCell ⟨w7.heap.size, 1, none⟩ (.int .i64 H)).setCell ⟨w7.heap.size, 2, none⟩ (.slice A9 L9.length c9)).heap.size := by have := b9.size; simpa using this
            have hzz : w7.heap.size ≤ w9.heap.size := b9.size
            refine wpAnyT_one (i := 12) (by kernel_rfl) rfl (fun K hK => ?_)
            go_simp
            refine hK.out _ _ (fun h => last_out h) ?_
            clear hK
            refine wpAnyT_done (by kernel_rfl) ?_ _
            have y0 := hLe.c0
            have y1 := hLe.c1
            have y2 := hLe.c2
            have HMe := Lib.hid hMe
            have HXe := Lib.hid hXe
            have HBe := Lib.hid Be
            have CLe := Lib.hid (CL.out _ (hte.wider hne))
            have Hhe := Lib.hid hhe
            have zMe := hMe.lt
            have zXe := hXe.lt
            clear hMe hXe hLe hte Be hhe hA9 bS hX9 hL9 ht9 B9 own9 hh9 b9 hM9
            go_wp2_with fail
            refine CLe.out.mono ?_
            rintro e wg ⟨rfl, bg⟩
            have hMg := HMe.out.below bg zMe
            have hXg := HXe.out.below bg zXe
            have m0 := hMg.c0
            have m1 := hMg.c1
            have m2 := hMg.c2
            have Bg := HBe.out.trans (bg.mono HBe.out.size)
            have hhg := Hhe.out.carry bg (Nat.le_refl _) bg.size
            have zXg := hXg.lt
            clear bg
            go_wp2_with fail
            refine (CW.out _ _ _ hhg).mono ?_
            rintro e wk ⟨rfl, bk⟩
            have hXk := hXg.below bk zXg
            have k0 := hXk.c0
            have k1 := hXk.c1
            have k2 := hXk.c2
            have Bk := Bg.trans (bk.mono Bg.size)
            have hwr := HWR.out
            have heq : ((l1.length : Int) == W * H) = true := beq_iff_eq.2 HL.out
            clear bk
            go_wp2_with fail
            go_ret
            exact ⟨rfl, Bk⟩
theorem fnRasOk_walk (A : Option Addr) (c : Nat) (l : List UInt8) (w : World) (h : Has w w.heap.size A l) (hc : l.length ≤ c) :
    Calls Try.prog 3 #[.slice A l.length c] w fun e w' => e = .returned (.bool true) ∧ Below w.heap.size w w' := by
  by_cases hbig : l.length ≤ 1048576
  · exact fnRasOk_small A c l w h hc hbig
  · have hb : (1048576 : Int) < (l.length : Int) := by omega
    clear h hbig
    go_enter Try.func3, Try.ntmps3
    go_wp2_with fail
    go_ret
    exact ⟨rfl, Below.refl _ _⟩
end Go.Proofs.Ytdipihdpfkoddab
