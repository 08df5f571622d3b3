/-
  The reference's BitPut writes numbers, bit by bit, into a slice of its own. Condition: at most 2^30 numbers.
-/
import Derived.Test.YtnnpjcbdcjdojaaBitP
import Derived.Test.YtnnpjcbdcjdojaaNumsO
import Derived.Test.YtnnpjcbdcjdojaaOwnSet
import Derived.StillTailTactics
namespace Go.Proofs.Ytnnpjcbdcjdojaa
set_option maxRecDepth 4000
open Go.RowKit

/-- What BitPut answers in memory: a new row. -/
def PutOut (w : World) (ns : List (Int × Int)) (e : Ending) (w' : World) : Prop := ∃ v, e = .returned v ∧ Own w' w.heap.size v (bitPutB ns) ∧ Below w.heap.size w w'

theorem put_step (x m i s : Nat) (hx : x < 2 ^ s) (hs : s < 8) : ((x : Int) + wrap64 (((m : Int) / 2 ^ i).tmod 2 * 2 ^ min s 64)) % 256 = ((x + m / 2 ^ i % 2 * 2 ^ s : Nat) : Int) := by
  have e1 : (m : Int) / 2 ^ i = ((m / 2 ^ i : Nat) : Int) := by simp
  have e2 : ((m / 2 ^ i : Nat) : Int).tmod 2 = ((m / 2 ^ i % 2 : Nat) : Int) := tmod_cast2 _ 2
  have h3 := step_lt hx (Nat.mod_lt (m / 2 ^ i) (show 0 < 2 by omega)) hs
  rw [e1, e2, Nat.min_eq_left (by omega)]
  generalize m / 2 ^ i % 2 = bt at *
  have e3 : (bt : Int) * 2 ^ s = ((bt * 2 ^ s : Nat) : Int) := by simp
  rw [e3]
  generalize bt * 2 ^ s = y at *
  generalize 2 ^ s = z at *
  rw [w64 y (by omega)]
  omega

set_option maxHeartbeats 2000000 in
theorem specBitPut_any (A : Option Addr) (c : Nat) (ns : List (Int × Int)) (w : World) (hs : ns.length ≤ 1073741824) (h : HasN w w.heap.size A ns) :
    Calls Try.prog 83 #[.slice A ns.length c] w (PutOut w ns) := by
  have hb0 : Below w.heap.size w (w.alloc (.cells #[] 5)) := (Below.refl _ w).alloc (Nat.le_refl _) _
  have ho0 := own_empty (Nat.le_refl w.heap.size)
  go_enter Try.func83, Try.ntmps83
  go_wp2
  generalize w.alloc (.cells #[] 5) = w0 at *
  go_loopw [3, 4, 5] (fun v t i wr => ∃ (k a : Nat) (l : List UInt8), k ≤ ns.length ∧ i = .int .i64 k ∧ t = .int .i64 a ∧ a ≤ 3212 ∧ Own wr w.heap.size v l ∧ packed (ns.take k) = (l, a) ∧ okAll (ns.take k) = true ∧ Below w.heap.size w wr)
    (fun _ _ i _ => ns.length - (intOf i).toNat)
  case atStart => exact ⟨0, 0, [], Nat.zero_le _, rfl, rfl, by omega, ho0, rfl, rfl, hb0⟩
  case round =>
    clear ho0 hb0
    obtain ⟨k, a, l, hk, rfl, rfl, ha, hown, hpk, hok, hbel⟩ := hrel
    have hgood : Good l a := by have := packed_good (ns.take k); rw [hpk] at this; exact this
    obtain ⟨A3, c3, hv3, -, -⟩ := hown.has
    subst hv3
    by_cases hlt : k < ns.length
    · obtain ⟨b, o, p, rfl, hbB, hp, hc0, hc1⟩ := h.spot hlt
      have d0 := (hbel.cell (p := ⟨b, o + k * 2, none⟩) hbB).trans hc0
      have d1 := (hbel.cell (p := ⟨b, o + k * 2 + 1, none⟩) hbB).trans hc1
      have CO := Lib.hid (specBitOk_any p.1 p.2)
      unfold bnum at CO
      have hll : (l.length : Int) = ((a : Int) + 7) / 8 := by have := hgood.1; omega
      have HH := Lib.hid h
      have HO := Lib.hid hown
      have HB := Lib.hid hbel
      have HG := Lib.hid hgood
      have HP := Lib.hid hp
      have HK := Lib.hid hpk
      have HOK := Lib.hid hok
      clear h hown hbel hgood hp hpk hok hc0 hc1
      go_wp2_with fail
      refine (CO.out _).mono ?_
      rintro e w1 ⟨rfl, hb1⟩
      have HO1 := Lib.hid (HO.out.below hb1 (Nat.le_refl _))
      have HB1 := Lib.hid (HB.out.trans (hb1.mono HB.out.size))
      clear hb1 HO HB CO d0 d1
      by_cases hbo : bitOkB p.1 p.2 = true
      · rw [hbo]
        by_cases hbig : 3200 < a
        · have hbl : (400 : Int) < (l.length : Int) := by omega
          have HR : Hid (Own (w1.alloc (.cells #[] 5)) w.heap.size (.slice (some ⟨w1.heap.size, 0, none⟩) 0 0) (bitPutB ns)) := Lib.hid (by rw [put_big k (by rw [HK.out]; exact hbig)]; exact own_empty HB1.out.size)
          have HB2 := Lib.hid (HB1.out.alloc HB1.out.size (.cells #[] 5))
          clear hll
          go_wp2_with fail
          go_ret
          exact ⟨_, rfl, HR.out, HB2.out⟩
        · have hbl : ¬ ((400 : Int) < (l.length : Int)) := by omega
          obtain ⟨m, q, hm, hq, hq1, hq12, hm4⟩ := bitOk_form hbo
          have HC : Hid (∀ W, Below w.heap.size w W → W.cell? ⟨b, o + k * 2, none⟩ = some (.int .i64 (m : Int)) ∧ W.cell? ⟨b, o + k * 2 + 1, none⟩ = some (.int .i64 (q : Int))) := Lib.hid fun W hW => by
            have := HH.out.below hW
            obtain ⟨b', o', p', e, -, hp', e0, e1⟩ := this.spot hlt
            injection e with e
            injection e with e1' e2'
            subst e1' e2'
            have : p = p' := Option.some.inj (HP.out.symm.trans hp')
            subst this
            rw [hm] at e0
            rw [hq] at e1
            exact ⟨e0, e1⟩
          have HPK : Hid (packed (ns.take (k + 1)) = pushTo (l, a) m q) := Lib.hid (by rw [packed_take ns k p HP.out, HK.out, hm, hq]; rfl)
          have HOK2 : Hid (okAll (ns.take (k + 1)) = true) := Lib.hid (by rw [okAll_take ns k p HP.out, HOK.out, hbo]; rfl)
          have hpk : 0 ≤ (k : Int) ∧ (k : Int) < (ns.length : Int) := by omega
          clear hm hq hbo HH HP HK HOK hll
          go_wp2_with fail
          go_loopw [3, 4, 6] (fun v t j W => ∃ (i a' : Nat) (l' : List UInt8), i ≤ q ∧ j = .int .i64 i ∧ t = .int .i64 a' ∧ a' = a + i ∧ Own W w.heap.size v l' ∧ pushTo (l, a) m i = (l', a') ∧ Below w.heap.size w W)
            (fun _ _ j _ => q - (intOf j).toNat)
          case atStart => exact ⟨0, a, l, Nat.zero_le _, rfl, rfl, rfl, HO1.out, rfl, HB1.out⟩
          case round =>
            clear HO1 HB1
            obtain ⟨i, a', l', hi, rfl, rfl, ha', hown, hpt, hbel⟩ := hrel
            have hab : (a' : Int) ≤ 3212 := by omega
            have HA := Lib.hid ha'
            clear ha'
            obtain ⟨A4, c4, hv4, -, -⟩ := hown.has
            subst hv4
            obtain ⟨e0, e1⟩ := HC.out _ hbel
            have HO := Lib.hid hown
            have HB := Lib.hid hbel
            have HT := Lib.hid hpt
            clear hown hbel hpt
            by_cases hlt2 : i < q
            · have HG : Hid (Good l' a') := Lib.hid (by have := pushTo_good (s := (l, a)) m i HG.out; rw [HT.out] at this; exact this)
              by_cases h8 : a' % 8 = 0
              · have h8' : ((a' : Int) % 8 == 0) = true := beq_iff_eq.2 (by omega)
                have HL : Hid (l'.length ≤ 1000) := Lib.hid (by have := HG.out.1; omega)
                have HGR : Hid (l' ++ [0] = grow l' a') := Lib.hid (by unfold grow; rw [if_pos h8])
                have hln : (l' ++ [0]).length = l'.length + 1 := by simp
                go_wp2_with (at_builtin; refine wpList_push1 rfl (.tmp 38) (.tmp 39) rfl w.heap.size _ l' rfl HO.out 0 wr.heap.size rfl rfl (by have := HL.out; omega) HB.out.size ?_; intro g5 c5 w5 ho5 hg5)
                have hB5 : Below w.heap.size w w5 := (HB.out.alloc HB.out.size _).grown hg5 (by have := HB.out.size; simp; omega) (fun q hq => (World.ownsRow.lt HO.out q hq).1)
                rw [← hln] at ho5
                rw [HGR.out] at ho5 hln
                clear hg5 HO HB HL HGR
                obtain ⟨n5, hn5⟩ : ∃ n5, (grow l' a').length = n5 := ⟨_, rfl⟩
                rw [hn5] at hln
                rw [← hln]
                clear hln
                have HB5 := Lib.hid hB5
                obtain ⟨d0, d1⟩ := HC.out _ hB5
                have d0 : w5.drew.cell? ⟨b, o + k * 2, none⟩ = _ := d0
                obtain ⟨ix, hix⟩ : ∃ ix, a' / 8 = ix := ⟨_, rfl⟩
                obtain ⟨s, hs8⟩ : ∃ s, a' % 8 = s := ⟨_, rfl⟩
                obtain ⟨x, hx, hx2⟩ := grow_at HG.out
                have hgl := grow_length HG.out
                rw [hn5] at hgl
                have hpv := put_step x.toNat m i (a' % 8) hx2 (Nat.mod_lt a' (by omega))
                have ho6 : Own w5.drew w.heap.size (.slice (some ⟨g5, 0, none⟩) (grow l' a').length c5) (grow l' a') := by rw [hn5]; rw [hn5] at ho5; exact ho5
                have hst := (ho6.set (a' / 8) (UInt8.ofNat (x.toNat + m / 2 ^ i % 2 * 2 ^ (a' % 8)))).1
                have hpb := pushBit_of (bit := m / 2 ^ i % 2) hx
                have hlt3 := step_lt hx2 (Nat.mod_lt (m / 2 ^ i) (show 0 < 2 by omega)) (Nat.mod_lt a' (by omega))
                rw [byte_nat hlt3.1, ← hpv, ← hpb, hn5, hix, hs8] at hst
                have HST := Lib.hid hst
                have HBS : Hid (Below w.heap.size w (w5.drew.setCell ⟨g5, ix, none⟩ (.int .u8 (((x.toNat : Int) + wrap64 (((m : Int) / 2 ^ i).tmod 2 * 2 ^ min s 64)) % 256)))) := Lib.hid ((show Below w.heap.size w w5.drew from ⟨hB5.os, hB5.tape, hB5.output, hB5.size, hB5.block⟩).setCell (World.ownsRow.lt ho5 g5 rfl).1 _)
                have HTN : Hid (pushTo (l, a) m (i + 1) = (pushBit l' a' (m / 2 ^ i % 2), a' + 1)) := Lib.hid (by rw [pushTo, HT.out])
                rw [hix] at hx
                have cg : w5.drew.cell? ⟨g5, ix, none⟩ = some (.int .u8 (x.toNat : Int)) := by
                  have := World.ownsRow.cellAt ho5 ix (by omega)
                  show w5.cell? _ = _
                  rw [this]
                  simp [hx, bv]
                have fg : w5.drew.frozen? ⟨g5, ix, none⟩ = false := World.ownsRow.frozenAt ho5 ix
                have t1 : (a' : Int) / 8 = (ix : Int) := by omega
                have t2 : (a' : Int).tmod 8 = (s : Int) := by rw [← hs8]; exact tmod_cast2 a' 8
                have px : 0 ≤ (ix : Int) ∧ (ix : Int) < (n5 : Int) := by omega
                have u1 := IntWalk.i64_in (ix : Int) (by omega)
                clear hst hpb hx hgl hlt3 hx2 ho5 hB5 h8 h8' hix hs8 e0 e1 d1 ho6 hpv
                refine wp_region_still_tail 21 (by kernel_rfl) (by kernel_rfl) ?_
                simp only [List.take_succ_cons, List.take_zero, List.drop_succ_cons, List.drop_zero]
                change wpStill _ _ w5.drew _ _ _
                repeat still_step
                refine wpStill_nil ?_
                change wpList _ _ _ _ _ w5.drew
                generalize w5.drew = w6 at *
                go_wp2_with fail
                go_roundw
                case rel => exact ⟨i + 1, a' + 1, _, by omega, by go_num, by go_num, by have := HA.out; omega, HST.out, HTN.out, HBS.out⟩
                case measure => simp [intOf]; omega
              · have h8' : ((a' : Int) % 8 == 0) = false := beq_eq_false_iff_ne.2 (by omega)
                have hgr : grow l' a' = l' := by unfold grow; rw [if_neg h8]
                have ho5 := HO.out
                have hB5 := HB.out
                obtain ⟨g5, rfl, -, -⟩ := ho5.nonnil (by have := HG.out.1; omega)
                rw [← hgr] at ho5
                obtain ⟨n5, hn5⟩ : ∃ n5, (grow l' a').length = n5 := ⟨_, rfl⟩
                have hln : l'.length = n5 := by rw [← hn5, hgr]
                clear HO HB hgr
                go_wp2_with fail
                rw [hln]
                clear hln
                generalize wr = w5 at *
                generalize c4 = c5 at *
                have HB5 := Lib.hid hB5
                obtain ⟨d0, d1⟩ := HC.out _ hB5
                have d0 : w5.drew.cell? ⟨b, o + k * 2, none⟩ = _ := d0
                obtain ⟨ix, hix⟩ : ∃ ix, a' / 8 = ix := ⟨_, rfl⟩
                obtain ⟨s, hs8⟩ : ∃ s, a' % 8 = s := ⟨_, rfl⟩
                obtain ⟨x, hx, hx2⟩ := grow_at HG.out
                have hgl := grow_length HG.out
                rw [hn5] at hgl
                have hpv := put_step x.toNat m i (a' % 8) hx2 (Nat.mod_lt a' (by omega))
                have ho6 : Own w5.drew w.heap.size (.slice (some ⟨g5, 0, none⟩) (grow l' a').length c5) (grow l' a') := by rw [hn5]; rw [hn5] at ho5; exact ho5
                have hst := (ho6.set (a' / 8) (UInt8.ofNat (x.toNat + m / 2 ^ i % 2 * 2 ^ (a' % 8)))).1
                have hpb := pushBit_of (bit := m / 2 ^ i % 2) hx
                have hlt3 := step_lt hx2 (Nat.mod_lt (m / 2 ^ i) (show 0 < 2 by omega)) (Nat.mod_lt a' (by omega))
                rw [byte_nat hlt3.1, ← hpv, ← hpb, hn5, hix, hs8] at hst
                have HST := Lib.hid hst
                have HBS : Hid (Below w.heap.size w (w5.drew.setCell ⟨g5, ix, none⟩ (.int .u8 (((x.toNat : Int) + wrap64 (((m : Int) / 2 ^ i).tmod 2 * 2 ^ min s 64)) % 256)))) := Lib.hid ((show Below w.heap.size w w5.drew from ⟨hB5.os, hB5.tape, hB5.output, hB5.size, hB5.block⟩).setCell (World.ownsRow.lt ho5 g5 rfl).1 _)
                have HTN : Hid (pushTo (l, a) m (i + 1) = (pushBit l' a' (m / 2 ^ i % 2), a' + 1)) := Lib.hid (by rw [pushTo, HT.out])
                rw [hix] at hx
                have cg : w5.drew.cell? ⟨g5, ix, none⟩ = some (.int .u8 (x.toNat : Int)) := by
                  have := World.ownsRow.cellAt ho5 ix (by omega)
                  show w5.cell? _ = _
                  rw [this]
                  simp [hx, bv]
                have fg : w5.drew.frozen? ⟨g5, ix, none⟩ = false := World.ownsRow.frozenAt ho5 ix
                have t1 : (a' : Int) / 8 = (ix : Int) := by omega
                have t2 : (a' : Int).tmod 8 = (s : Int) := by rw [← hs8]; exact tmod_cast2 a' 8
                have px : 0 ≤ (ix : Int) ∧ (ix : Int) < (n5 : Int) := by omega
                have u1 := IntWalk.i64_in (ix : Int) (by omega)
                clear hst hpb hx hgl hlt3 hx2 ho5 hB5 h8 h8' hix hs8 e0 e1 d1 ho6 hpv
                refine wp_region_still_tail 21 (by kernel_rfl) (by kernel_rfl) ?_
                simp only [List.take_succ_cons, List.take_zero, List.drop_succ_cons, List.drop_zero]
                change wpStill _ _ w5.drew _ _ _
                repeat still_step
                refine wpStill_nil ?_
                change wpList _ _ _ _ _ w5.drew
                generalize w5.drew = w6 at *
                go_wp2_with fail
                go_roundw
                case rel => exact ⟨i + 1, a' + 1, _, by omega, by go_num, by go_num, by have := HA.out; omega, HST.out, HTN.out, HBS.out⟩
                case measure => simp [intOf]; omega
            · obtain rfl : i = q := by omega
              have HPE : Hid (packed (ns.take (k + 1)) = (l', a')) := Lib.hid (by rw [HPK.out, HT.out])
              go_wp2_with fail
              go_roundw
              case rel => exact ⟨k + 1, a', l', by omega, by go_num, rfl, by omega, HO.out, HPE.out, HOK2.out, HB.out⟩
              case measure => simp [intOf]; omega
      · have hbo' : bitOkB p.1 p.2 = false := by simpa using hbo
        have HR : Hid (Own (w1.alloc (.cells #[] 5)) w.heap.size (.slice (some ⟨w1.heap.size, 0, none⟩) 0 0) (bitPutB ns)) := Lib.hid (by rw [put_bad (okAll_at HP.out hbo')]; exact own_empty HB1.out.size)
        have HB2 := Lib.hid (HB1.out.alloc HB1.out.size (.cells #[] 5))
        rw [hbo']
        clear hbo hbo' hll
        go_wp2_with fail
        go_ret
        exact ⟨_, rfl, HR.out, HB2.out⟩
    · obtain rfl : k = ns.length := by omega
      rw [List.take_of_length_le (Nat.le_refl _)] at hpk hok
      by_cases hbig : 3200 < a
      · have hbl : (400 : Int) < (l.length : Int) := by have := hgood.1; omega
        have HR : Hid (Own (wr.alloc (.cells #[] 5)) w.heap.size (.slice (some ⟨wr.heap.size, 0, none⟩) 0 0) (bitPutB ns)) := Lib.hid (by rw [put_big ns.length (by rw [List.take_of_length_le (Nat.le_refl _), hpk]; exact hbig)]; exact own_empty hbel.size)
        have HB2 := Lib.hid (hbel.alloc hbel.size (.cells #[] 5))
        clear hown hpk hok hgood hbel h
        go_wp2_with fail
        go_ret
        exact ⟨_, rfl, HR.out, HB2.out⟩
      · have hbl : ¬ ((400 : Int) < (l.length : Int)) := by have := hgood.1; omega
        have HR : Hid (Own wr w.heap.size (.slice A3 l.length c3) (bitPutB ns)) := Lib.hid (by rw [put_good hok (by rw [hpk]; show a ≤ 3200; omega), hpk]; exact hown)
        have HB2 := Lib.hid hbel
        clear hown hpk hok hgood hbel h
        go_wp2_with fail
        go_ret
        exact ⟨_, rfl, HR.out, HB2.out⟩
end Go.Proofs.Ytnnpjcbdcjdojaa
