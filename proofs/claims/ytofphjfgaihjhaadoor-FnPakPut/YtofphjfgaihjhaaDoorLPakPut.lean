/-
  The law FnPakPut returns true for every list of bytes to draw from. Condition: the four errors are not nil.
-/
import Derived.Test.YtofphjfgaihjhaaDoorPakC
import Derived.Test.YtofphjfgaihjhaaDoorPakSame
import Derived.Test.YtofphjfgaihjhaaDoorDrawPak
import Derived.Test.YtofphjfgaihjhaaDoorEaB
import Derived.Test.YtofphjfgaihjhaaDoorEaOk
namespace Go.Proofs.YtofphjfgaihjhaaDoor
open Go.RowKit

theorem pakPut_two {l : List UInt8} (h : l.length ≤ 200) : 2 ≤ (pakPutB l).length := by
  rw [(pakPut_form h).2]
  omega
set_option maxRecDepth 100000 in
set_option maxHeartbeats 1000000 in
theorem fnPakPut_small (A : Option Addr) (c : Nat) (l : List UInt8) (w : World) (he : ErrsA w) (h : Has w w.heap.size A l) (hc : l.length ≤ c) (hs : l.length ≤ 1048576) :
    Calls Tryd.prog 3 #[.slice A l.length c] w fun e w' => e = .returned (.bool true) ∧ Below w.heap.size w w' := by
  have C1 := Lib.hid (drawPakPut_any A c l w (by omega) hc h)
  have HE : Hid (∀ W, Below w.heap.size w W → ErrsA W) := Lib.hid fun W hb => he.below hb
  have hl0 : ¬ ((1048576 : Int) < (l.length : Int)) := by omega
  obtain ⟨i0, hi, hz0, hz1, hz2⟩ := info_parts info8
  clear h hs hc he
  go_enter Tryd.func3, Tryd.ntmps3
  go_wp2_with fail
  refine C1.out.mono ?_
  rintro e w1 ⟨A1, c1, l1, rfl, h1, hc1, hl1, B1⟩
  have CI := Lib.hid (putI A1 c1 l1 w1 hl1 hc1 h1 (HE.out _ B1))
  have CS := Lib.hid fun W hh => putS A1 c1 l1 W hl1 hc1 hh
  have HPL := Lib.hid (pakPutB_le4 l1)
  have HPB := Lib.hid (fun h => pakPutB_big (l := l1) h)
  have HIN := Lib.hid (fun h => pak_inv (l := l1) h)
  have HLS := Lib.hid (fun h => pakGet_less (l := l1) h)
  have HTW := Lib.hid (fun h => pakPut_two (l := l1) h)
  have HLE := Lib.hid (fun h => pakPut_le (l := l1) h)
  unfold Packed at CI CS
  obtain ⟨p, hp⟩ : ∃ p, pakPutB l1 = p := ⟨_, rfl⟩
  rw [hp] at CI CS HPL HIN HPB HLS HTW HLE
  have HL1 := Lib.hid hl1
  clear C1 hp hl1
  go_wp2_with fail
  refine CI.out.mono ?_
  rintro e w2 ⟨A2, c2, rfl, hc2, h2, b2⟩
  have h12 := h1.carry b2 (Nat.le_refl _) b2.size
  have B2 := B1.trans (b2.mono B1.size)
  clear CI h1 B1 b2
  go_wp2_with fail
  refine (CS.out _ h12).mono ?_
  rintro e w3 ⟨A3, c3, rfl, -, h3, b3⟩
  have h13 := h12.carry b3 (Nat.le_refl _) b3.size
  have h23 := h2.carry b3 (Nat.le_refl _) b3.size
  have B3 := B2.trans (b3.mono B2.size)
  clear CS h12 h2 B2 b3
  go_wp2_with fail
  refine (eaBytes_same _ _ _ _ _ _ p _ h23 h3).mono ?_
  rintro e w' ⟨rfl, rfl⟩
  clear h3
  by_cases hbig : l1.length ≤ 200
  · have hb1 : ¬ (200 : Int) < (l1.length : Int) := by omega
    have htw := HTW.out hbig
    obtain ⟨b, o, -, hA2, -, -, -⟩ := h23.spot (k := 0) (by omega)
    subst hA2
    obtain ⟨ol, hol⟩ : ∃ ol, p.length - 1 = ol := ⟨_, rfl⟩
    have hdl : (p.take (p.length - 1)).length = ol := by rw [List.length_take]; omega
    have CG := Lib.hid (getI (some ⟨b, o, none⟩) c2 p w3 (by have := HPL.out; omega) h23 (HE.out _ B3))
    have CL := Lib.hid fun W hh he => getI (some ⟨b, o, none⟩) c2 (p.take (p.length - 1)) W (by have := HPL.out; omega) hh he
    rw [HIN.out hbig] at CG
    rw [HLS.out hbig, hdl] at CL
    unfold Unpacked at CG CL
    simp only [Option.getD_some, Option.isSome_some, Option.getD_none, Option.isSome_none, List.length_nil] at CG CL
    have HTK := Lib.hid fun W (hh : Has W W.heap.size (some ⟨b, o, none⟩) p) => hh.take (p.length - 1)
    have hsub : (p.length : Int) - 1 = (ol : Int) := by omega
    have hpI : 2 ≤ (p.length : Int) ∧ (p.length : Int) ≤ 400 := by have := HPL.out; omega
    have hple : (p.length : Int) ≤ (c2 : Int) := by omega
    have hole : (ol : Int) ≤ (p.length : Int) := by omega
    have HLE1 := Lib.hid (HLE.out hbig)
    have HBG := Lib.hid hbig
    have HPP : Hid (2 ≤ (p.length : Int) ∧ (p.length : Int) ≤ 400) := Lib.hid (by have := HPL.out; omega)
    clear hbig HIN HLS HTW HLE HPB hdl hol htw
    go_wp2_with fail
    refine CG.out.mono ?_
    rintro e w4 ⟨A4, c4, rfl, -, h4, b4⟩
    have h14 := h13.carry b4 (Nat.le_refl _) b4.size
    have h24 := h23.carry b4 (Nat.le_refl _) b4.size
    have B4 := B3.trans (b4.mono B3.size)
    clear CG h13 h23 B3 b4
    go_wp2_with fail
    refine (CL.out _ (HTK.out _ h24) (HE.out _ B4)).mono ?_
    rintro e w5 ⟨A5, c5, rfl, -, -, b5⟩
    have h15 := h14.carry b5 (Nat.le_refl _) b5.size
    have h45 := h4.carry b5 (Nat.le_refl _) b5.size
    have B5 := B4.trans (b5.mono B4.size)
    clear CL HTK h14 h24 h4 B4 b5
    go_wp2_with fail
    refine (eaBytes_same _ _ _ _ _ _ l1 _ h45 h15).mono ?_
    rintro e w' ⟨rfl, rfl⟩
    clear h45 h15 hsub hpI hple hole
    obtain ⟨n, hn⟩ : ∃ n, 60 + l.length % 100 = n := ⟨_, rfl⟩
    have hn1 : 60 + (l.length : Int) % 100 = (n : Int) := by omega
    have hn2 : 60 + (l.length : Int).tmod 100 = (n : Int) := by rw [show (l.length : Int).tmod 100 = (l.length : Int) % 100 from Int.tmod_eq_emod_of_nonneg (by omega)]; omega
    have HN : Hid (60 ≤ n ∧ n < 160) := Lib.hid (by omega)
    have hnI : 60 ≤ (n : Int) ∧ (n : Int) < 160 := by have := HN.out; omega
    clear hn
    have HB5 := Lib.hid B5
    clear B5
    go_wp2_with (at_make; refine wpList_make_full _ rfl _ _ 22 rfl w5.heap.size 5 i0 (.int .u8 0) 1 Tryd.underlying22 hi hz0 hz1 _ _ _ _ n rfl rfl rfl rfl (by rw [hz2]; have := HN.out; omega) (by have := HN.out; unfold maxLen; omega) (Nat.le_refl _) ?_; intro w6 hown hgrow)
    have ho6 := own_made2 hown
    have hb6 := HB5.out.grown hgrow HB5.out.size (fun _ e => by cases e)
    have CN := Lib.hid (putI (some ⟨w5.heap.size, 0, none⟩) n (List.replicate n 0) w6 (by have := HN.out; rw [List.length_replicate]; omega) (by rw [List.length_replicate]; exact Nat.le_refl _) ho6.reads (HE.out _ hb6))
    have hsm := same_small n HN.out.1 HN.out.2
    rw [List.length_replicate] at CN
    unfold Packed at CN
    generalize pakPutB (List.replicate n 0) = pz at *
    have hzI : 3 * (pz.length : Int) < (n : Int) := by omega
    obtain ⟨zz, hzz⟩ : ∃ zz : Nat, (9 * (l1.length + 1) + 7) / 8 = zz := ⟨_, rfl⟩
    have hqI : (9 * ((l1.length : Int) + 1) + 7) / 8 = (zz : Int) := by omega
    have hpz : (p.length : Int) ≤ (zz : Int) := by have := HLE1.out; omega
    have hlI : (l1.length : Int) ≤ 200 := by have := HBG.out; omega
    have HB6 := Lib.hid hb6
    clear hown hgrow ho6 hb6 hsm hzz hn1 hn2
    refine CN.out.mono ?_
    rintro e w7 ⟨A7, c7, rfl, -, -, b7⟩
    have HB7 := Lib.hid (HB6.out.trans (b7.mono HB6.out.size))
    clear CN b7
    go_wp2_with fail
    go_ret
    exact ⟨rfl, HB7.out⟩
  · have hb1 : (200 : Int) < (l1.length : Int) := by omega
    obtain rfl : p = [] := HPB.out hbig
    clear HIN HLS HTW HLE HPB h13 h23 hbig
    go_wp2_with fail
    refine (eaOk_any _).mono ?_
    rintro e w5 ⟨rfl, b5⟩
    have HB5 := Lib.hid (B3.trans (b5.mono B3.size))
    clear b5
    go_wp2_with fail
    go_ret
    exact ⟨rfl, HB5.out⟩

set_option maxHeartbeats 400000 in
theorem fnPakPut_walk (A : Option Addr) (c : Nat) (l : List UInt8) (w : World) (he : ErrsA w) (h : Has w w.heap.size A l) (hc : l.length ≤ c) :
    Calls Tryd.prog 3 #[.slice A l.length c] w fun e w' => e = .returned (.bool true) ∧ Below w.heap.size w w' := by
  by_cases hbig : 1048576 < l.length
  · have hb : (1048576 : Int) < (l.length : Int) := by omega
    clear hbig h he
    go_enter Tryd.func3, Tryd.ntmps3
    go_wp2
    go_ret
    exact ⟨rfl, Below.refl _ _⟩
  · exact fnPakPut_small A c l w he h hc (by omega)
end Go.Proofs.YtofphjfgaihjhaaDoor
