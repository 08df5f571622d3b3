/-
  The law FnRasAt returns true for every list of bytes to draw from. No condition.
-/
import Derived.Test.YtdipihdpfkoddabDrawRasO
import Derived.Test.YtdipihdpfkoddabRasAtI
import Derived.Test.YtdipihdpfkoddabEaOk
import Derived.Test.YtdipihdpfkoddabEaRas
import Derived.Deep.RegionWith
import Derived.Deep.CutRange
namespace Go.Proofs.Ytdipihdpfkoddab
open Go.RowKit

theorem rasAtP_in {W H : Int} {l : List Px} {wn hn j k : Nat} (hok : rasB W H l = true) (hW : W = (wn : Int)) (hH : H = (hn : Int)) (hj : j < wn) (hk : k < hn) (p : Px) (hp : l[k * wn + j]? = some p) : rasAtP W H (j : Int) (k : Int) l = p := by
  unfold rasAtP atB
  rw [hok, decide_eq_true (p := (0 ≤ (j : Int) ∧ (j : Int) < W) ∧ 0 ≤ (k : Int) ∧ (k : Int) < H) (by omega)]
  have e : ((k : Int) * W + (j : Int)).toNat = k * wn + j := by rw [hW, ← Int.natCast_mul, ← Int.natCast_add, Int.toNat_natCast]
  rw [e, hp]
  rfl
set_option maxHeartbeats 4000000 in
theorem fnRasAt_small (A : Option Addr) (c : Nat) (l : List UInt8) (w : World) (h : Has w w.heap.size A l) (hc : l.length ≤ c) (hs : l.length ≤ 1048576) :
    Calls Try.prog 4 #[.slice A l.length c] w fun e w' => e = .returned (.bool true) ∧ Below w.heap.size w w' := by
  have C1 := Lib.hid (drawRasAt_any A c l w (by omega) hc h)
  have hl0 : ¬ ((1048576 : Int) < (l.length : Int)) := by omega
  clear h hs hc
  go_enter Try.func4, Try.ntmps4
  go_wp2_with fail
  refine C1.out.mono ?_
  rintro e w1 ⟨W, H, x, y, A1, c1, l1, rfl, hh1, hc1, hl1, B1⟩
  have CI := Lib.hid fun a b W0 hh => implRasAt_any W H a b A1 c1 l1 W0 (by omega) hc1 hh
  have CS := Lib.hid fun W0 hh => specRasAt_any W H x y A1 c1 l1 W0 (by omega) hh
  have CO := Lib.hid fun W0 hh => specRasOk_any W H A1 c1 l1 W0 (by omega) hh
  have CE := Lib.hid fun A A' c c' W0 hh hh' => eaRas_same W H A A' c c' l1 W0 (by omega) hh hh'
  unfold rasV at *
  go_wp2_with fail
  have hX2 : RasAtB (w1.alloc (.cells #[.int .i64 W, .int .i64 H, .slice A1 l1.length c1] 25)) w1.heap.size W H A1 l1.length c1 25 := heap_alloc_new w1 _
  have b2 : Below w1.heap.size w1 (w1.alloc (.cells #[.int .i64 W, .int .i64 H, .slice A1 l1.length c1] 25)) := (Below.refl _ w1).alloc (Nat.le_refl _) _
  generalize w1.alloc (.cells #[.int .i64 W, .int .i64 H, .slice A1 l1.length c1] 25) = w2 at *
  have hh2 := hh1.carry b2 (Nat.le_refl _) b2.size
  have B2 := B1.trans (b2.mono B1.size)
  have z2 := hX2.lt
  clear hh1 b2 B1 C1
  obtain ⟨p, hp⟩ : ∃ p, rasAtP W H x y l1 = p := ⟨_, rfl⟩
  have C3 := Lib.hid (CI.out x y _ hh2)
  rw [hp] at C3 CS
  have HP := Lib.hid hp
  unfold Px.v at C3 CS
  clear hp
  refine C3.out.mono ?_
  rintro e w3 ⟨rfl, b3⟩
  have hX3 := hX2.below b3 z2
  have hh3 := hh2.carry b3 (Nat.le_refl _) b3.size
  have B3 := B2.trans (b3.mono B2.size)
  have z3 := hX3.lt
  clear hX2 hh2 b3 B2 C3
  go_wp2_with fail
  have hP4 : PixAtB (w3.alloc (.cells #[.int .i64 p.r, .int .i64 p.g, .int .i64 p.b, .int .i64 p.a] 28)) w3.heap.size p := heap_alloc_new w3 _
  have b4 : Below w3.heap.size w3 (w3.alloc (.cells #[.int .i64 p.r, .int .i64 p.g, .int .i64 p.b, .int .i64 p.a] 28)) := (Below.refl _ w3).alloc (Nat.le_refl _) _
  generalize w3.alloc (.cells #[.int .i64 p.r, .int .i64 p.g, .int .i64 p.b, .int .i64 p.a] 28) = w4 at *
  have hX4 := hX3.below b4 z3
  have hh4 := hh3.carry b4 (Nat.le_refl _) b4.size
  have B4 := B3.trans (b4.mono B3.size)
  have z4 := hX4.lt
  have zp4 := hP4.lt
  clear hX3 hh3 b4 B3
  go_cut [28] from 23 to 28 (fun s wx => s = .bool false ∧ Below w4.heap.size w4 wx)
  case first =>
    have hX5 := hX4.drew1
    have hP5 : PixAtB w4.drew w3.heap.size p := hP4
    have hh5 : HasP w4.drew w4.drew.heap.size A1 l1 := hh4.drewN 1
    have x0 := hX5.c0
    have x1 := hX5.c1
    have x2 := hX5.c2
    have p0 := hP5.c0
    have p1 := hP5.c1
    have p2 := hP5.c2
    have p3 := hP5.c3
    have zp5 := hP5.lt
    have HP5 := Lib.hid hP5
    have CS5 := Lib.hid (CS.out _ hh5)
    have HB5 := Lib.hid (below_drew1 (Below.refl w4.heap.size w4))
    clear hX5 hP5 hh5 hX4 hP4 hh4 B4 CS CI CO CE
    go_region_with (first
      | (go_at_call 17; refine CS5.out.mono ?_; rintro e w6 ⟨rfl, b6⟩; have HB6 := Lib.hid (HB5.out.trans (b6.mono HB5.out.size)); have HP6 : Hid (PixAtB w6 w3.heap.size p) := Lib.hid ((b6.block _ zp5).trans HP5.out); have p60 := HP6.out.c0; have p61 := HP6.out.c1; have p62 := HP6.out.c2; have p63 := HP6.out.c3; clear b6))
    all_goals (go_wp2_with fail; go_meet; exact ⟨rfl, HB6.out⟩)
  case rest =>
    obtain ⟨rfl, b6⟩ := hcut
    have hX6 := hX4.below b6 z4
    have hP6 : PixAtB wc w3.heap.size p := (b6.block _ zp4).trans hP4
    have hh6 := hh4.carry b6 (Nat.le_refl _) b6.size
    have B6 := B4.trans (b6.mono B4.size)
    have x0 := hX6.c0
    have x1 := hX6.c1
    have x2 := hX6.c2
    clear hX4 hP4 hh4 B4 b6 CS
    go_wp2_with fail
    refine (CO.out _ hh6).mono ?_
    rintro e w7 ⟨rfl, b7⟩
    have z6 := hX6.lt
    have zp6 := hP6.lt
    have hX7 := hX6.below b7 z6
    have hP7 : PixAtB w7 w3.heap.size p := (b7.block _ zp6).trans hP6
    have hh7 := hh6.carry b7 (Nat.le_refl _) b7.size
    have B7 := B6.trans (b7.mono B6.size)
    have y0 := hX7.c0
    have y1 := hX7.c1
    have y2 := hX7.c2
    have p0 := hP7.c0
    have p1 := hP7.c1
    have p2 := hP7.c2
    have p3 := hP7.c3
    clear hX6 hP6 hh6 B6 b7 x0 x1 x2 z2 z3 z4 zp4 z6 zp6
    cases hat : atB W H x y l1
    · have hp0 : p = px0 := by rw [← HP.out]; unfold rasAtP; rw [hat]; rfl
      subst hp0
      unfold px0 at p0 p1 p2 p3
      clear HP hP7 CE CI
      cases hok : rasB W H l1
      · go_wp2_with fail
        refine (eaOk_any _).mono ?_
        rintro e w8 ⟨rfl, b8⟩
        have B8 := B7.trans (b8.mono B7.size)
        clear b8
        go_wp2_with fail
        go_ret
        exact ⟨rfl, B8⟩
      have hxy : ¬ ((0 ≤ x ∧ x < W) ∧ 0 ≤ y ∧ y < H) := by
        intro k
        unfold atB at hat
        rw [hok, decide_eq_true k] at hat
        cases hat
      by_cases a1 : x < 0
      rotate_left
      by_cases a2 : x ≥ W
      rotate_left
      by_cases a3 : y < 0
      rotate_left
      have a4 : y ≥ H := by omega
      all_goals (
        clear hxy hat hok
        go_wp2_with fail
        refine (eaOk_any _).mono ?_
        rintro e w8 ⟨rfl, b8⟩
        have B8 := B7.trans (b8.mono B7.size)
        clear b8
        go_wp2_with fail
        go_ret
        exact ⟨rfl, B8⟩)
    · have hok : rasB W H l1 = true := by
        cases hk : rasB W H l1
        · unfold atB at hat; rw [hk] at hat; cases hat
        · rfl
      have hxy : (0 ≤ x ∧ x < W) ∧ 0 ≤ y ∧ y < H := by
        unfold atB at hat
        rw [hok] at hat
        simpa using hat
      obtain ⟨hW, hH, hl, -⟩ := rasB_parts hok
      have h36 := mul36 hW hH
      obtain ⟨wn, hwn⟩ : ∃ n : Nat, W = (n : Int) := ⟨W.toNat, by omega⟩
      obtain ⟨hn, hhn⟩ : ∃ n : Nat, H = (n : Int) := ⟨H.toNat, by omega⟩
      have hln : l1.length = hn * wn := by
        rw [hwn, hhn, ← Int.natCast_mul, Int.natCast_inj] at hl
        rw [hl, Nat.mul_comm]
      have HLN := Lib.hid hln
      have HOK := Lib.hid hok
      have HWN := Lib.hid hwn
      have HHN := Lib.hid hhn
      rw [hok]
      clear hat hl h36 hln HP hP7 p0 p1 p2 p3 hok CO hwn hhn
      have HX7 := Lib.hid hX7
      have HH7 := Lib.hid hh7
      have HB7 := Lib.hid B7
      have zX := hX7.lt
      have HE0 : Hid (OwnP (w7.alloc (.cells #[] 28)) w7.heap.size (.slice (some ⟨w7.heap.size, 0, none⟩) 0 0) (l1.take (0 * wn))) := Lib.hid (by rw [Nat.zero_mul]; exact ownP_empty (Nat.le_refl _))
      have hb8 : Below w7.heap.size w7 (w7.alloc (.cells #[] 28)) := (Below.refl _ w7).alloc (Nat.le_refl _) _
      have HB8 := Lib.hid hb8
      clear hX7 hh7 B7 hb8
      obtain ⟨⟨hx0, hx1⟩, hy0, hy1⟩ := hxy
      go_wp2_with fail
      clear y0 y1 y2
      go_loopw [7, 8] (fun v i wr => ∃ k : Nat, k ≤ hn ∧ i = .int .i64 k ∧ OwnP wr w7.heap.size v (l1.take (k * wn)) ∧ Below w7.heap.size w7 wr) (fun _ i _ => hn - (intOf i).toNat)
      case atStart => exact ⟨0, Nat.zero_le _, rfl, HE0.out, HB8.out⟩
      case round =>
        obtain ⟨k, hk, rfl, hown, hbel⟩ := hrel
        have hXr := HX7.out.below hbel zX
        have y0 := hXr.c0
        have y1 := hXr.c1
        have y2 := hXr.c2
        by_cases hlt : k < hn
        · have hkH : (k : Int) < H := by have := HHN.out; omega
          clear hXr
          go_wp2_with fail
          have hown0 : OwnP wr w7.heap.size u7 (l1.take (k * wn + 0)) := hown
          go_loopw [7, 9] (fun v i wq => ∃ j : Nat, j ≤ wn ∧ i = .int .i64 j ∧ OwnP wq w7.heap.size v (l1.take (k * wn + j)) ∧ Below w7.heap.size w7 wq) (fun _ i _ => wn - (intOf i).toNat)
          case atStart => exact ⟨0, Nat.zero_le _, rfl, hown0, hbel⟩
          case round =>
            clear hown hown0 hbel y0 y1 y2
            obtain ⟨j, hj, rfl, hown, hbel⟩ := hrel
            have hXr := HX7.out.below hbel zX
            have y0 := hXr.c0
            have y1 := hXr.c1
            have y2 := hXr.c2
            by_cases hjl : j < wn
            · have hjW : (j : Int) < W := by have := HWN.out; omega
              have hidx : k * wn + j < l1.length := by
                rw [HLN.out]
                have h1 : k * wn + wn = (k + 1) * wn := by rw [Nat.add_mul, Nat.one_mul]
                have h2 : (k + 1) * wn ≤ hn * wn := Nat.mul_le_mul_right _ hlt
                omega
              obtain ⟨pj, hpj⟩ : ∃ pj, l1[k * wn + j]? = some pj := ⟨_, List.getElem?_eq_getElem hidx⟩
              have HV := Lib.hid (rasAtP_in HOK.out HWN.out HHN.out hjl hlt pj hpj)
              have CR := Lib.hid (CI.out (j : Int) (k : Int) wr (HH7.out.carry hbel (Nat.le_refl _) hbel.size))
              rw [HV.out] at CR
              unfold Px.v at CR
              obtain ⟨m, hm⟩ : ∃ m, k * wn + j = m := ⟨_, rfl⟩
              have hm1 : k * wn + (j + 1) = m + 1 := by omega
              rw [hm] at hown hidx hpj
              have hlm : (l1.take m).length = m := by rw [List.length_take]; omega
              have HSn : Hid (l1.take (k * wn + (j + 1)) = l1.take m ++ [pj]) := Lib.hid (by rw [hm1, List.take_add_one, hpj]; rfl)
              obtain ⟨A7, c7, hv7, -, -⟩ := hown.has
              rw [hlm] at hv7
              subst hv7
              have HOw := Lib.hid hown
              have HBe := Lib.hid hbel
              have hmb : (l1.take m).length + 1 ≤ 1073741824 := by rw [hlm]; omega
              have HMB := Lib.hid hmb
              have HLM := Lib.hid hlm
              clear hXr hown hbel hpj hm hm1 hlm hmb
              go_wp2_with fail
              refine CR.out.mono ?_
              rintro e ws ⟨rfl, bs⟩
              have HOs := Lib.hid (HOw.out.below bs (Nat.le_refl _))
              have HBs := Lib.hid (HBe.out.trans (bs.mono HBe.out.size))
              clear bs HOw HBe CR y0 y1 y2
              go_wp2_with (at_builtin; refine wpList_pushP rfl (.tmp 71) (.tmp 76) rfl w7.heap.size (.slice A7 m c7) (l1.take m) rfl HOs.out pj ws.heap.size rfl rfl HMB.out HBs.out.size ?_; intro g6 c6 w6 ho6 hg6 h6; have HO6 := Lib.hid ho6; have HG6 := Lib.hid hg6; clear ho6 hg6 h6)
              have HO7 : Hid (OwnP w6 w7.heap.size (.slice (some ⟨g6, 0, none⟩) ((l1.take m).length + 1) c6) (l1.take (k * wn + (j + 1)))) := Lib.hid (by rw [HSn.out]; exact HO6.out)
              have HB7' := Lib.hid ((HBs.out.alloc HBs.out.size _).grown HG6.out (by have := HBs.out.size; simp; omega) (fun q hq => (World.ownsRow.lt HOs.out q hq).1))
              have HO8 : Hid (OwnP w6 w7.heap.size (.slice (some ⟨g6, 0, none⟩) (min m l1.length + 1) c6) (l1.take (k * wn + (j + 1)))) := Lib.hid (by have := HO7.out; rw [List.length_take] at this; exact this)
              go_roundw
              case rel => exact ⟨j + 1, by omega, by go_num, HO8.out, HB7'.out⟩
              case measure => simp [intOf]; omega
            · obtain rfl : j = wn := by omega
              have hjW : ¬ ((j : Int) < W) := by have := HWN.out; omega
              have HOe : Hid (OwnP wr w7.heap.size u7 (l1.take ((k + 1) * j))) := Lib.hid (by rw [Nat.add_mul, Nat.one_mul]; exact hown)
              clear hown
              go_wp2_with fail
              go_roundw
              case rel => exact ⟨k + 1, by omega, by go_num, HOe.out, hbel⟩
              case measure => simp [intOf]; omega
        · obtain rfl : k = hn := by omega
          have hkH : ¬ ((k : Int) < H) := by have := HHN.out; omega
          rw [List.take_of_length_le (Nat.le_of_eq HLN.out)] at hown
          obtain ⟨A9, c9, hv9, -, h9⟩ := hown.has
          subst hv9
          have hhr := HH7.out.carry hbel (Nat.le_refl _) hbel.size
          have CEr := Lib.hid (CE.out A9 A1 c9 c1 wr h9 hhr)
          have HBr := Lib.hid (HB7.out.trans (hbel.mono HB7.out.size))
          clear hXr hown h9 hhr hbel
          go_wp2_with fail
          refine CEr.out.mono ?_
          rintro e wz ⟨rfl, bz⟩
          have Bz := HBr.out.trans (bz.mono HBr.out.size)
          clear bz
          go_wp2_with fail
          go_ret
          exact ⟨rfl, Bz⟩
theorem fnRasAt_walk (A : Option Addr) (c : Nat) (l : List UInt8) (w : World) (h : Has w w.heap.size A l) (hc : l.length ≤ c) :
    Calls Try.prog 4 #[.slice A l.length c] w fun e w' => e = .returned (.bool true) ∧ Below w.heap.size w w' := by
  by_cases hbig : l.length ≤ 1048576
  · exact fnRasAt_small A c l w h hc hbig
  · have hb : (1048576 : Int) < (l.length : Int) := by omega
    clear h hbig
    go_enter Try.func4, Try.ntmps4
    go_wp2_with fail
    go_ret
    exact ⟨rfl, Below.refl _ _⟩
end Go.Proofs.Ytdipihdpfkoddab
