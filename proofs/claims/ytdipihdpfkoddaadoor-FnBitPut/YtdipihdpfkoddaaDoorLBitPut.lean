/-
  The law FnBitPut returns true for every list of bytes. Condition: the four errors are not nil.
-/
import Derived.Test.YtdipihdpfkoddaaDoorDrawPut
import Derived.Test.YtdipihdpfkoddaaDoorBitQ
import Derived.Test.YtdipihdpfkoddaaDoorBitPS
import Derived.Test.YtdipihdpfkoddaaDoorBitPR
import Derived.Test.YtdipihdpfkoddaaDoorBitGR
import Derived.Test.YtdipihdpfkoddaaDoorEaB
import Derived.Test.YtdipihdpfkoddaaDoorEaOk
namespace Go.Proofs.YtdipihdpfkoddaaDoor
open Go.RowKit

/-- The four errors are not nil. -/
def Errs4 (w : World) : Prop := Errs w ∧ ErrsW w
theorem Errs4.below {w w' : World} {B : Nat} (h : Errs4 w) (hb : Below B w w') (hB : w.heap.size ≤ B) : Errs4 w' := ⟨h.1.below hb hB, h.2.below hb hB⟩

set_option maxHeartbeats 4000000 in
theorem fnBitPut_small (A : Option Addr) (c : Nat) (l : List UInt8) (w : World) (hT : Errs4 w) (h : Has w w.heap.size A l) (hc : l.length ≤ c) (hs : l.length ≤ 1048576) :
    Calls Tryd.prog 3 #[.slice A l.length c] w fun e w' => e = .returned (.bool true) ∧ Below w.heap.size w w' := by
  have hb : (l.length : Int) ≤ 1048576 := by omega
  have HT : Hid (∀ W, Below w.heap.size w W → Errs4 W) := Lib.hid fun W hb => hT.below hb (Nat.le_refl _)
  have HW4 : Hid (4 ≤ w.heap.size) := Lib.hid hT.1.2.2.lt
  have CD := Lib.hid (drawBitPut_any A c l w (by omega) hc h)
  clear hT h hc hs
  go_enter Tryd.func3, Tryd.ntmps3
  go_wp2_with fail
  refine CD.out.mono ?_
  rintro e w1 ⟨v1, base, ns, p, rfl, hd, hnl⟩
  have HB1 := Lib.hid hd.2.2.2.2
  obtain ⟨A1, c1, hv1, -, h1⟩ := hd.2.2.2.1.has
  subst hv1
  have HNL := Lib.hid hnl
  have HN1 := Lib.hid h1
  have CP := Lib.hid (implBitPut_any A1 c1 ns w1 (by omega) h1 (HT.out _ HB1.out).2)
  clear hd h1 hnl CD
  go_wp2_with fail
  refine CP.out.mono ?_
  rintro e w2 ⟨v2, rfl, ho2, b2⟩
  obtain ⟨A2, c2, hv2, -, h2⟩ := ho2.has
  subst hv2
  have HB2 := Lib.hid (HB1.out.trans (b2.mono HB1.out.size))
  have HN2 := Lib.hid (HN1.out.carry b2 (Nat.le_refl _) b2.size)
  have HH2 := Lib.hid h2
  have CS := Lib.hid (specBitPut_any A1 c1 ns w2 (by have := HNL.out; omega) HN2.out)
  clear ho2 b2 h2 CP HN1 HB1
  go_wp2_with fail
  refine CS.out.mono ?_
  rintro e w3 ⟨v3, rfl, ho3, b3⟩
  obtain ⟨A3, c3, hv3, -, h3⟩ := ho3.has
  subst hv3
  have HB3 := Lib.hid (HB2.out.trans (b3.mono HB2.out.size))
  have HN3 := Lib.hid (HN2.out.carry b3 (Nat.le_refl _) b3.size)
  have HH3 := Lib.hid (HH2.out.carry b3 (Nat.le_refl _) b3.size)
  have CE := Lib.hid (eaBytes_same A2 A3 c2 c3 _ _ (bitPutB ns) w3 HH3.out h3)
  clear ho3 b3 h3 CS HN2 HB2 HH2
  have hrl := bitPutB_le ns
  obtain ⟨rl, hrr⟩ : ∃ rl, (bitPutB ns).length = rl := ⟨_, rfl⟩
  rw [hrr] at CE
  have hrl2 : (rl : Int) ≤ 400 := by omega
  have HRL := Lib.hid hrr
  clear hrl
  rw [hrr]
  clear hrr
  go_wp2_with fail
  refine CE.out.mono ?_
  rintro e w' ⟨rfl, rfl⟩
  clear CE
  go_wp2_with fail
  go_loopw [5, 6] (fun t i wr => ∃ k a : Nat, k ≤ ns.length ∧ i = .int .i64 k ∧ t = .int .i64 a ∧ a ≤ 12 * k ∧ (packed (ns.take k)).2 = a ∧ okAll (ns.take k) = true ∧ Below w3.heap.size w3 wr) (fun _ i _ => ns.length - (intOf i).toNat)
  case atStart => exact ⟨0, 0, Nat.zero_le _, rfl, rfl, by omega, rfl, rfl, Below.refl _ _⟩
  case round =>
    obtain ⟨k, a, hk, rfl, rfl, ha, hpk, hok, hbel⟩ := hrel
    by_cases hlt : k < ns.length
    · obtain ⟨b, o, q, rfl, hbB, hp, hc0, hc1⟩ := HN3.out.spot hlt
      have d0 := (hbel.cell (p := ⟨b, o + k * 2, none⟩) hbB).trans hc0
      have d1 := (hbel.cell (p := ⟨b, o + k * 2 + 1, none⟩) hbB).trans hc1
      have CO := Lib.hid (specBitOk_any q.1 q.2)
      unfold bnum at CO
      have HB := Lib.hid hbel
      have HP := Lib.hid hp
      have HK := Lib.hid hpk
      have HO := Lib.hid hok
      clear hbel hp hpk hok hc0 hc1
      go_wp2_with fail
      refine (CO.out _).mono ?_
      rintro e w4 ⟨rfl, b4⟩
      have e1 := (b4.cell (p := ⟨b, o + k * 2 + 1, none⟩) (by have := HB.out.size; simp; omega)).trans d1
      have HB4 := Lib.hid (HB.out.trans (b4.mono HB.out.size))
      clear b4 HB CO d0 d1
      by_cases hbo : bitOkB q.1 q.2 = true
      · obtain ⟨m, qq, hm, hq, hq1, hq2, hm4⟩ := bitOk_form hbo
        have HPK : Hid ((packed (ns.take (k + 1))).2 = a + qq) := Lib.hid (by rw [packed_take ns k q HP.out, pushTo_snd, HK.out, hq]; simp)
        have HOK : Hid (okAll (ns.take (k + 1)) = true) := Lib.hid (by rw [okAll_take ns k q HP.out, HO.out, hbo]; rfl)
        rw [hbo]
        rw [hq] at e1
        have hnl3 : ns.length ≤ 300 := HNL.out
        have ha3 : (a : Int) ≤ 3600 := by omega
        have hk3 : (k : Int) < 300 := by omega
        clear hm hq hbo hnl3
        go_wp2_with fail
        go_roundw
        case rel => exact ⟨k + 1, a + qq, by omega, by go_num, by go_num, by omega, HPK.out, HOK.out, HB4.out⟩
        case measure => simp [intOf]; omega
      · have hbo' : bitOkB q.1 q.2 = false := by simpa using hbo
        have hr0 : rl = 0 := by rw [← HRL.out, put_bad (okAll_at HP.out hbo')]; rfl
        rw [hbo']
        subst hr0
        clear hbo hbo' e1
        go_wp2_with fail
        refine (eaOk_any _).mono ?_
        rintro e w5 ⟨rfl, b5⟩
        have HB5 := Lib.hid (HB4.out.trans (b5.mono HB4.out.size))
        clear b5
        go_wp2_with fail
        go_ret
        exact ⟨rfl, HB3.out.trans (HB5.out.mono HB3.out.size)⟩
    · obtain rfl : k = ns.length := by omega
      rw [List.take_of_length_le (Nat.le_refl _)] at hpk hok
      have hnl3 : ns.length ≤ 300 := HNL.out
      have ha3 : (a : Int) ≤ 3600 := by omega
      by_cases hbig : 3200 < a
      · have hbl : (400 : Int) < ((a : Int) + 7) / 8 := by omega
        have hr0 : rl = 0 := by rw [← HRL.out, put_big ns.length (by rw [List.take_of_length_le (Nat.le_refl _), hpk]; exact hbig)]; rfl
        subst hr0
        have HB4 := Lib.hid hbel
        clear hpk hok hbel hnl3
        go_wp2_with fail
        refine (eaOk_any _).mono ?_
        rintro e w5 ⟨rfl, b5⟩
        have HB5 := Lib.hid (HB4.out.trans (b5.mono HB4.out.size))
        clear b5
        go_wp2_with fail
        go_ret
        exact ⟨rfl, HB3.out.trans (HB5.out.mono HB3.out.size)⟩
      · have hbl : ¬ ((400 : Int) < ((a : Int) + 7) / 8) := by omega
        have hpr : bitPutB ns = (packed ns).1 := put_good hok (by omega)
        have hrg : ((a : Int) + 7) / 8 = (rl : Int) := by have h1 := HRL.out; have h2 := (packed_good ns).1; rw [hpr] at h1; omega
        have HB4 := Lib.hid hbel
        have HOK := Lib.hid hok
        have HPR := Lib.hid hpr
        have HPA := Lib.hid hpk
        clear hpk hok hbel hnl3 hpr
        have CG := Lib.hid fun (x y : Int) W (hW : Below w3.heap.size w3 W) (hx : x < 9223372036854775808) => implBitGet_any A2 c2 (bitPutB ns) x y W (by rw [HRL.out]; omega) hx (HH3.out.carry hW (Nat.le_refl _) hW.size) (HT.out _ (HB3.out.trans (hW.mono HB3.out.size))).1 (by have h1 := HW4.out; have h2 := HB3.out.size; have h3 := hW.size; omega)
        rw [HRL.out] at CG
        go_wp2_with fail
        go_loopw [7, 8] (fun t i wr => ∃ k x : Nat, k ≤ ns.length ∧ i = .int .i64 k ∧ t = .int .i64 x ∧ (packed (ns.take k)).2 = x ∧ x ≤ 3200 ∧ Below w3.heap.size w3 wr) (fun _ i _ => ns.length - (intOf i).toNat)
        case atStart => exact ⟨0, 0, Nat.zero_le _, rfl, rfl, rfl, by omega, HB4.out⟩
        case round =>
          clear HB4
          obtain ⟨k, x, hk2, rfl, rfl, hpk, hx32, hbel⟩ := hrel
          by_cases hlt : k < ns.length
          · obtain ⟨b, o, q, rfl, hbB, hp, hc0, hc1⟩ := HN3.out.spot hlt
            have hbo : bitOkB q.1 q.2 = true := by
              by_cases hbo : bitOkB q.1 q.2 = true
              · exact hbo
              · have := okAll_at hp (by simpa using hbo)
                rw [HOK.out] at this
                cases this
            obtain ⟨m, qq, hm, hq, hq1, hq2, hm4⟩ := bitOk_form hbo
            have hqe : q = ((m : Int), (qq : Int)) := by rw [← hm, ← hq]
            rw [hqe] at hp
            rw [hm, hq] at hbo
            have hpg := put_get ns k m qq hp ⟨hq1, hq2⟩ (bitOk_pow hbo)
            have hpe := packed_end ns k m qq hp
            rw [hpk] at hpg hpe
            rw [HPA.out] at hpe
            have CG1 := CG.out (x : Int) (qq : Int) wr hbel (by omega)
            rw [HPR.out, hpg.1, hpg.2] at CG1
            have HG1 := Lib.hid CG1
            rw [hm] at hc0
            rw [hq] at hc1
            have HC : Hid (∀ W, Below w3.heap.size w3 W → W.cell? ⟨b, o + k * 2, none⟩ = some (.int .i64 (m : Int)) ∧ W.cell? ⟨b, o + k * 2 + 1, none⟩ = some (.int .i64 (qq : Int))) := Lib.hid fun W hW => ⟨(hW.cell (p := ⟨b, o + k * 2, none⟩) hbB).trans hc0, (hW.cell (p := ⟨b, o + k * 2 + 1, none⟩) hbB).trans hc1⟩
            obtain ⟨d0, d1⟩ := HC.out _ hbel
            have HPK : Hid ((packed (ns.take (k + 1))).2 = x + qq) := Lib.hid (by rw [packed_take ns k _ hp, pushTo_snd, hpk]; simp)
            have HB := Lib.hid hbel
            have hnl3 : ns.length ≤ 300 := HNL.out
            have hk3 : (k : Int) < 300 := by omega
            have hx3 : (x : Int) ≤ 3200 := by omega
            clear hbel hp hpk hpg CG1 hc0 hc1 hbo hm hq hqe hnl3
            go_wp2_with fail
            refine HG1.out.mono ?_
            rintro e w5 ⟨rfl, b5⟩
            have HB5 := Lib.hid (HB.out.trans (b5.mono HB.out.size))
            obtain ⟨f0, f1⟩ := HC.out _ HB5.out
            clear b5 HB HG1 d0 d1
            go_wp2_with fail
            go_roundw
            case rel => exact ⟨k + 1, x + qq, by omega, by go_num, by go_num, HPK.out, by omega, HB5.out⟩
            case measure => simp [intOf]; omega
          · have CG2 := CG.out (8 * (rl : Int)) 1 wr hbel (by omega)
            have hgp := get_past (bitPutB ns)
            rw [HRL.out] at hgp
            rw [bitGetN_no hgp, hgp] at CG2
            have HG2 := Lib.hid CG2
            have HB := Lib.hid hbel
            clear hbel hpk CG2 hgp
            go_wp2_with fail
            refine HG2.out.mono ?_
            rintro e w5 ⟨rfl, b5⟩
            have HB5 := Lib.hid (HB.out.trans (b5.mono HB.out.size))
            have hee : ((rl : Int) == (rl : Int)) = true := beq_iff_eq.2 rfl
            clear b5 HB HG2
            go_wp2_with fail
            refine (eaOk_any _).mono ?_
            rintro e w6 ⟨rfl, b6⟩
            have HB6 := Lib.hid (HB5.out.trans (b6.mono HB5.out.size))
            clear b6 HB5
            go_wp2_with fail
            go_ret
            exact ⟨rfl, HB3.out.trans (HB6.out.mono HB3.out.size)⟩

theorem fnBitPut_walk (A : Option Addr) (c : Nat) (l : List UInt8) (w : World) (hT : ErrV w 0 ∧ ErrV w 2 ∧ ErrV w 1 ∧ ErrV w 3) (h : Has w w.heap.size A l) (hc : l.length ≤ c) :
    Calls Tryd.prog 3 #[.slice A l.length c] w fun e w' => e = .returned (.bool true) ∧ Below w.heap.size w w' := by
  by_cases hbig : 1048576 < l.length
  · have hb : (1048576 : Int) < (l.length : Int) := by omega
    go_enter Tryd.func3, Tryd.ntmps3
    go_wp2
    go_ret
    exact ⟨rfl, Below.refl _ _⟩
  · exact fnBitPut_small A c l w ⟨⟨hT.1, hT.2.2.1, hT.2.2.2⟩, hT.1, hT.2.1⟩ h hc (by omega)
end Go.Proofs.YtdipihdpfkoddaaDoor
