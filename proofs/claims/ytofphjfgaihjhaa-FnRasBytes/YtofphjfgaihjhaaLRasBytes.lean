/-
  The law FnRasBytes returns true for every two lists of bytes to draw from. No condition.
-/
import Derived.Test.YtofphjfgaihjhaaDrawRasB
import Derived.Test.YtofphjfgaihjhaaDrawRasR
import Derived.Test.YtofphjfgaihjhaaRasByI
import Derived.Test.YtofphjfgaihjhaaRasRdS
import Derived.Test.YtofphjfgaihjhaaRasRdI
import Derived.Test.YtofphjfgaihjhaaRasLaw
import Derived.Test.YtofphjfgaihjhaaEaRas
import Derived.Test.YtofphjfgaihjhaaEaOk
import Derived.Test.YtofphjfgaihjhaaEaB
import Derived.Deep.CutRange
namespace Go.Proofs.Ytofphjfgaihjhaa
open Go.RowKit

set_option maxHeartbeats 8000000 in
theorem fnRasBytes_small (A : Option Addr) (c : Nat) (l : List UInt8) (A' : Option Addr) (c' : Nat) (l' : List UInt8) (w : World) (h : Has w w.heap.size A l) (hc : l.length ≤ c) (h' : Has w w.heap.size A' l') (hc' : l'.length ≤ c') (hs : l.length ≤ 1048576) (hs' : l'.length ≤ 1048576) :
    Calls Try.prog 3 #[.slice A l.length c, .slice A' l'.length c'] w fun e w' => e = .returned (.bool true) ∧ Below w.heap.size w w' := by
  have HA : Hid (∀ W, Below w.heap.size w W → Has W W.heap.size A' l') := Lib.hid fun W hb => h'.carry hb (Nat.le_refl _) hb.size
  have C1 := Lib.hid (drawRasBytes_any A c l w (by omega) hc h)
  have C2 := Lib.hid fun W hh => drawRasRead_any A' c' l' W (by omega) hc' hh
  have hl0 : ¬ ((1048576 : Int) < (l.length : Int)) := by omega
  have hl0' : ¬ ((1048576 : Int) < (l'.length : Int)) := by omega
  clear h hs hc h' hs' hc'
  go_enter Try.func3, Try.ntmps3
  go_wp2_with fail
  refine C1.out.mono ?_
  rintro e w1 ⟨W, H, A1, c1, l1, rfl, hh1, hc1, hl1, B1⟩
  have CI := Lib.hid fun W0 hh => implRasBytes_any W H A1 c1 l1 W0 (by omega) hh
  have CS := Lib.hid fun W0 hh => specRasBytes_any W H A1 c1 l1 W0 (by omega) hh
  have CO := Lib.hid fun W0 hh => specRasOk_any W H A1 c1 l1 W0 (by omega) hh
  obtain ⟨ob, hob⟩ : ∃ ob, rasOut W H l1 = ob := ⟨_, rfl⟩
  have hobl := rasOut_leD W H l1
  rw [hob] at CI CS hobl
  have HOB := Lib.hid hob
  unfold rasV at *
  clear hob C1
  go_wp2_with fail
  have hX2 : RasAtB (w1.alloc (.cells #[.int .i64 W, .int .i64 H, .slice A1 l1.length c1] 25)) w1.heap.size W H A1 l1.length c1 25 := heap_alloc_new w1 _
  have b2 : Below w1.heap.size w1 (w1.alloc (.cells #[.int .i64 W, .int .i64 H, .slice A1 l1.length c1] 25)) := (Below.refl _ w1).alloc (Nat.le_refl _) _
  generalize w1.alloc (.cells #[.int .i64 W, .int .i64 H, .slice A1 l1.length c1] 25) = w2 at *
  have hh2 := hh1.carry b2 (Nat.le_refl _) b2.size
  have B2 := B1.trans (b2.mono B1.size)
  clear hh1 b2 B1
  refine (C2.out _ (HA.out _ B2)).mono ?_
  rintro e w3 ⟨Ac, cc, lc, rfl, hk3, hcc, hlc, b3⟩
  have hX3 := hX2.below b3 hX2.lt
  have hh3 := hh2.carry b3 (Nat.le_refl _) b3.size
  have B3 := B2.trans (b3.mono B2.size)
  clear hX2 hh2 B2 b3
  have x30 := hX3.c0
  have x31 := hX3.c1
  have x32 := hX3.c2
  have CR := Lib.hid fun W0 hh => implRasRead_any Ac cc lc W0 (by omega) hcc hh
  have CT := Lib.hid fun W0 hh => specRasRead_any Ac cc lc W0 (by omega) hh
  unfold ReadOut at CR CT
  have HBR := Lib.hid (by_read (l := lc))
  have hrp := rdP_leD lc
  obtain ⟨q, hq⟩ : ∃ q, rdB lc = q := ⟨_, rfl⟩
  rw [hq] at CR CT HBR
  generalize rdP lc = ps at *
  generalize rdW lc = PW at *
  generalize rdH lc = PH at *
  have CE := Lib.hid fun A A' c c' W0 hh hh' => eaRas_same PW PH A A' c c' ps W0 (by omega) hh hh'
  have CXO := Lib.hid fun A c W0 hh => implRasOk_any PW PH A c ps W0 (by omega) hh
  have CXB := Lib.hid fun A c W0 hh => implRasBytes_any PW PH A c ps W0 (by omega) hh
  unfold rasV at *
  clear hq C2 HA
  go_wp2_with fail
  refine (CI.out _ hh3).mono ?_
  rintro e w4 ⟨v4, rfl, ho4, b4⟩
  obtain ⟨Ab, cb, rfl, hcb, hb4⟩ := ho4.has
  have hX4 := hX3.below b4 hX3.lt
  have hh4 := hh3.carry b4 (Nat.le_refl _) b4.size
  have B4 := B3.trans (b4.mono B3.size)
  have hk4 := hk3.carry b4 (Nat.le_refl _) b4.size
  clear hX3 hh3 B3 hk3 b4
  clear x30 x31 x32 ho4
  go_wp2_with fail
  refine (CR.out _ hk4).mono ?_
  rintro e w5 ⟨Ax, cx, rfl, o5, b5⟩
  have hx5 := o5.reads
  have hX5 := hX4.below b5 hX4.lt
  have hh5 := hh4.carry b5 (Nat.le_refl _) b5.size
  have B5 := B4.trans (b5.mono B4.size)
  have hk5 := hk4.carry b5 (Nat.le_refl _) b5.size
  have hb5 := hb4.carry b5 (Nat.le_refl _) b5.size
  clear hX4 hh4 B4 hk4 hb4 b5
  go_wp2_with fail
  have hY6 : RasAtB (w5.alloc (.cells #[.int .i64 PW, .int .i64 PH, .slice Ax ps.length cx] 25)) w5.heap.size PW PH Ax ps.length cx 25 := heap_alloc_new w5 _
  have b6 : Below w5.heap.size w5 (w5.alloc (.cells #[.int .i64 PW, .int .i64 PH, .slice Ax ps.length cx] 25)) := (Below.refl _ w5).alloc (Nat.le_refl _) _
  generalize w5.alloc (.cells #[.int .i64 PW, .int .i64 PH, .slice Ax ps.length cx] 25) = w6 at *
  have hX6 := hX5.below b6 hX5.lt
  have hh6 := hh5.carry b6 (Nat.le_refl _) b6.size
  have B6 := B5.trans (b6.mono B5.size)
  have hk6 := hk5.carry b6 (Nat.le_refl _) b6.size
  have hb6 := hb5.carry b6 (Nat.le_refl _) b6.size
  have hx6 := hx5.carry b6 (Nat.le_refl _) b6.size
  clear hX5 hh5 B5 hk5 hb5 hx5 b6
  clear o5
  refine (CT.out _ hk6).mono ?_
  rintro e w7 ⟨Ay, cy, rfl, o7, b7⟩
  have hy7 := o7.reads
  have hX7 := hX6.below b7 hX6.lt
  have hh7 := hh6.carry b7 (Nat.le_refl _) b7.size
  have B7 := B6.trans (b7.mono B6.size)
  have hk7 := hk6.carry b7 (Nat.le_refl _) b7.size
  have hb7 := hb6.carry b7 (Nat.le_refl _) b7.size
  have hx7 := hx6.carry b7 (Nat.le_refl _) b7.size
  have hY7 := hY6.below b7 hY6.lt
  clear hX6 hh6 B6 hk6 hb6 hx6 hY6 b7
  have x70 := hX7.c0
  have x71 := hX7.c1
  have x72 := hX7.c2
  have z7 := hX7.lt
  go_wp2_with fail
  have hZ8 : RasAtB (w7.alloc (.cells #[.int .i64 PW, .int .i64 PH, .slice Ay ps.length cy] 25)) w7.heap.size PW PH Ay ps.length cy 25 := heap_alloc_new w7 _
  have b8 : Below w7.heap.size w7 (w7.alloc (.cells #[.int .i64 PW, .int .i64 PH, .slice Ay ps.length cy] 25)) := (Below.refl _ w7).alloc (Nat.le_refl _) _
  generalize w7.alloc (.cells #[.int .i64 PW, .int .i64 PH, .slice Ay ps.length cy] 25) = w8 at *
  have hX8 := hX7.below b8 hX7.lt
  have hh8 := hh7.carry b8 (Nat.le_refl _) b8.size
  have B8 := B7.trans (b8.mono B7.size)
  have hk8 := hk7.carry b8 (Nat.le_refl _) b8.size
  have hb8 := hb7.carry b8 (Nat.le_refl _) b8.size
  have hx8 := hx7.carry b8 (Nat.le_refl _) b8.size
  have hY8 := hY7.below b8 hY7.lt
  have hy8 := hy7.carry b8 (Nat.le_refl _) b8.size
  clear hX7 hh7 B7 hk7 hb7 hx7 hY7 hy7 b8
  clear x70 x71 x72 o7 z7
  refine (CS.out _ hh8).mono ?_
  rintro e w9 ⟨v9, rfl, ho9, b9⟩
  obtain ⟨A9, c9, rfl, -, h9⟩ := ho9.has
  have hX9 := hX8.below b9 hX8.lt
  have hh9 := hh8.carry b9 (Nat.le_refl _) b9.size
  have B9 := B8.trans (b9.mono B8.size)
  have hk9 := hk8.carry b9 (Nat.le_refl _) b9.size
  have hb9 := hb8.carry b9 (Nat.le_refl _) b9.size
  have hx9 := hx8.carry b9 (Nat.le_refl _) b9.size
  have hY9 := hY8.below b9 hY8.lt
  have hy9 := hy8.carry b9 (Nat.le_refl _) b9.size
  have hZ9 := hZ8.below b9 hZ8.lt
  clear hX8 hh8 B8 hk8 hb8 hx8 hY8 hy8 hZ8 b9
  clear ho9
  have CEb := Lib.hid (eaBytes_same Ab A9 cb c9 _ _ ob w9 hb9 h9)
  have y90 := hY9.c0
  have y91 := hY9.c1
  have y92 := hY9.c2
  have z90 := hZ9.c0
  have z91 := hZ9.c1
  have z92 := hZ9.c2
  clear h9
  go_wp2_with fail
  refine CEb.out.mono ?_
  rintro e w' ⟨rfl, rfl⟩
  go_wp2_with fail
  refine (CE.out _ _ _ _ _ hx9 hy9).mono ?_
  rintro e w10 ⟨rfl, b10⟩
  have hX10 := hX9.below b10 hX9.lt
  have hh10 := hh9.carry b10 (Nat.le_refl _) b10.size
  have B10 := B9.trans (b10.mono B9.size)
  have hk10 := hk9.carry b10 (Nat.le_refl _) b10.size
  have hb10 := hb9.carry b10 (Nat.le_refl _) b10.size
  have hx10 := hx9.carry b10 (Nat.le_refl _) b10.size
  have hY10 := hY9.below b10 hY9.lt
  have hy10 := hy9.carry b10 (Nat.le_refl _) b10.size
  have hZ10 := hZ9.below b10 hZ9.lt
  clear hX9 hh9 B9 hk9 hb9 hx9 hY9 hy9 hZ9 b10
  clear y90 y91 y92 z90 z91 z92 CEb hZ10 hy10
  go_upto_region 10 with fail
  go_cut [70] from 58 to 70 (fun s wx => s = .bool false ∧ Below w10.heap.size w10 wx)
  case first =>
    have y0 := hY10.c0
    have y1 := hY10.c1
    have y2 := hY10.c2
    cases q
    · go_wp2_with fail
      go_meet
      exact ⟨rfl, Below.refl _ _⟩
    · obtain ⟨hro, hby⟩ := HBR.out rfl
      have CX1 := Lib.hid (CXO.out Ax cx w10 hx10)
      rw [hro] at CX1
      go_wp2_with fail
      refine CX1.out.mono ?_
      rintro e w11 ⟨rfl, b11⟩
      have hY11 := hY10.below b11 hY10.lt
      have hx11 := hx10.carry b11 (Nat.le_refl _) b11.size
      have hk11 := hk10.carry b11 (Nat.le_refl _) b11.size
      have y110 := hY11.c0
      have y111 := hY11.c1
      have y112 := hY11.c2
      have CX2 := Lib.hid (CXB.out Ax cx w11 hx11)
      rw [show rasOut PW PH ps = lc from by unfold rasOut; rw [hro]; exact hby] at CX2
      have HB11 := Lib.hid b11
      clear b11 hY10 hx10 hk10 y0 y1 y2 CX1
      go_wp2_with fail
      refine CX2.out.mono ?_
      rintro e w12 ⟨v12, rfl, ho12, b12⟩
      obtain ⟨A12, c12, rfl, -, h12⟩ := ho12.has
      have hk12 := hk11.carry b12 (Nat.le_refl _) b12.size
      have CE2 := Lib.hid (eaBytes_same A12 Ac c12 cc _ _ lc w12 h12 hk12)
      have HB12 := Lib.hid (HB11.out.trans (b12.mono HB11.out.size))
      clear b12 ho12 h12 hk11 hk12 CX2
      go_wp2_with fail
      refine CE2.out.mono ?_
      rintro e w' ⟨rfl, rfl⟩
      go_wp2_with fail
      go_meet
      exact ⟨rfl, HB12.out⟩
  case rest =>
    obtain ⟨rfl, b11⟩ := hcut
    have hX11 := hX10.below b11 hX10.lt
    have hh11 := hh10.carry b11 (Nat.le_refl _) b11.size
    have hb11 := hb10.carry b11 (Nat.le_refl _) b11.size
    have B11 := B10.trans (b11.mono B10.size)
    clear hX10 hh10 hb10 hk10 hx10 hY10 B10 b11 CS CI CT CR CE CXO CXB HBR hrp
    have x0 := hX11.c0
    have x1 := hX11.c1
    have x2 := hX11.c2
    have CO1 := Lib.hid (CO.out wc hh11)
    have CER := Lib.hid fun A A' c c' W0 hh hh' => eaRas_same W H A A' c c' l1 W0 (by omega) hh hh'
    unfold rasV at CER
    clear CO
    cases hro : rasB W H l1
    · have hob0 : ob = [] := by rw [← HOB.out]; unfold rasOut; rw [hro]; rfl
      subst hob0
      rw [hro] at CO1
      clear HOB hro
      go_wp2_with fail
      refine CO1.out.mono ?_
      rintro e w12 ⟨rfl, b12⟩
      have HB12 := Lib.hid (B11.trans (b12.mono B11.size))
      clear b12
      go_wp2_with fail
      refine (eaOk_any _).mono ?_
      rintro e w13 ⟨rfl, b13⟩
      have HB13 := Lib.hid (HB12.out.trans (b13.mono HB12.out.size))
      clear b13
      go_wp2_with fail
      go_ret
      exact ⟨rfl, HB13.out⟩
    · have hob0 : rasBy W H l1 = ob := by rw [← HOB.out]; unfold rasOut; rw [hro]; rfl
      rw [hro] at CO1
      have hob1 : 2 ≤ ob.length := by rw [← hob0, rasBy_length]; omega
      obtain ⟨bb, bo, -, hAb, -, -, -⟩ := hb11.spot (k := 0) (by omega)
      subst hAb
      obtain ⟨r1, r2, r3, r4⟩ := read_by hro
      have r5 := read_less hro
      have r6 := read_more W H l1
      rw [hob0] at r1 r2 r3 r4 r5 r6
      have hdl : (ob.take (ob.length - 1)).length = ob.length - 1 := by simp
      have CB := Lib.hid fun W0 hh => implRasRead_any (some ⟨bb, bo, none⟩) cb ob W0 (by omega) hcb hh
      have CL := Lib.hid fun W0 hh => implRasRead_any (some ⟨bb, bo, none⟩) cb (ob.take (ob.length - 1)) W0 (by omega) (by omega) hh
      have CM := Lib.hid fun A c W0 hc hh => implRasRead_any A c (ob ++ [0]) W0 (by simp; omega) hc hh
      have hp5 := rdP_leD (ob.take (ob.length - 1))
      have hp6 := rdP_leD (ob ++ [0])
      unfold ReadOut rasV at CB CL CM
      rw [r1, r2, r3, r4] at CB
      rw [r5, hdl] at CL
      rw [r6] at CM
      generalize rdP (ob.take (ob.length - 1)) = p5 at *
      generalize rdW (ob.take (ob.length - 1)) = W5 at *
      generalize rdH (ob.take (ob.length - 1)) = H5 at *
      generalize rdP (ob ++ [0]) = p6 at *
      generalize rdW (ob ++ [0]) = W6 at *
      generalize rdH (ob ++ [0]) = H6 at *
      have HTK := Lib.hid fun w0 (hh : Has w0 w0.heap.size (some ⟨bb, bo, none⟩) ob) => hh.take (ob.length - 1)
      have hobI : 2 ≤ (ob.length : Int) ∧ (ob.length : Int) ≤ 146 := by omega
      obtain ⟨ol, hol⟩ : ∃ ol, ob.length - 1 = ol := ⟨_, rfl⟩
      rw [hol] at CL HTK
      have holI : (ol : Int) = (ob.length : Int) - 1 := by omega
      have HOI := Lib.hid holI
      have hsub : (ob.length : Int) - 1 = (ol : Int) := by omega
      have HLX := Lib.hid hob0
      have hcbI : (ob.length : Int) ≤ (cb : Int) := by omega
      clear HOB hro hob0 r1 r2 r3 r4 r5 r6 hdl holI hob1 hobl
      go_wp2_with fail
      refine CO1.out.mono ?_
      rintro e w12 ⟨rfl, b12⟩
      have hX12 := hX11.below b12 hX11.lt
      have hh12 := hh11.carry b12 (Nat.le_refl _) b12.size
      have hb12 := hb11.carry b12 (Nat.le_refl _) b12.size
      have B12 := B11.trans (b12.mono B11.size)
      clear hX11 hh11 hb11 B11 b12 x0 x1 x2 CO1
      go_wp2_with fail
      refine (CB.out _ hb12).mono ?_
      rintro e w13 ⟨Af, cf, rfl, of13, b13⟩
      have hf13 := of13.reads
      have hX13 := hX12.below b13 hX12.lt
      have hh13 := hh12.carry b13 (Nat.le_refl _) b13.size
      have hb13 := hb12.carry b13 (Nat.le_refl _) b13.size
      have B13 := B12.trans (b13.mono B12.size)
      clear hX12 hh12 hb12 B12 b13 of13
      go_wp2_with fail
      have hF14 : RasAtB (w13.alloc (.cells #[.int .i64 W, .int .i64 H, .slice Af l1.length cf] 25)) w13.heap.size W H Af l1.length cf 25 := heap_alloc_new w13 _
      have b14 : Below w13.heap.size w13 (w13.alloc (.cells #[.int .i64 W, .int .i64 H, .slice Af l1.length cf] 25)) := (Below.refl _ w13).alloc (Nat.le_refl _) _
      generalize w13.alloc (.cells #[.int .i64 W, .int .i64 H, .slice Af l1.length cf] 25) = w14 at *
      have hf14 := hf13.carry b14 (Nat.le_refl _) b14.size
      have hX14 := hX13.below b14 hX13.lt
      have hh14 := hh13.carry b14 (Nat.le_refl _) b14.size
      have hb14 := hb13.carry b14 (Nat.le_refl _) b14.size
      have B14 := B13.trans (b14.mono B13.size)
      clear hf13 hX13 hh13 hb13 B13 b14
      refine (CL.out _ (HTK.out _ hb14)).mono ?_
      rintro e w15 ⟨A5, c5, rfl, -, b15⟩
      have hF15 := hF14.below b15 hF14.lt
      have hf15 := hf14.carry b15 (Nat.le_refl _) b15.size
      have hX15 := hX14.below b15 hX14.lt
      have hh15 := hh14.carry b15 (Nat.le_refl _) b15.size
      have hb15 := hb14.carry b15 (Nat.le_refl _) b15.size
      have B15 := B14.trans (b15.mono B14.size)
      clear hF14 hf14 hX14 hh14 hb14 B14 b15
      go_upto_region 16 with fail
      have b16 : Below w15.heap.size w15 (w15.alloc (.cells #[.int .i64 W5, .int .i64 H5, .slice A5 p5.length c5] 25)) := (Below.refl _ w15).alloc (Nat.le_refl _) _
      generalize w15.alloc (.cells #[.int .i64 W5, .int .i64 H5, .slice A5 p5.length c5] 25) = w16 at *
      have hF16 := hF15.below b16 hF15.lt
      have hf16 := hf15.carry b16 (Nat.le_refl _) b16.size
      have hX16 := hX15.below b16 hX15.lt
      have hh16 := hh15.carry b16 (Nat.le_refl _) b16.size
      have hb16 := hb15.carry b16 (Nat.le_refl _) b16.size
      have B16 := B15.trans (b16.mono B15.size)
      clear hF15 hf15 hX15 hh15 hb15 B15 b16
      have ho16 : Own (w16.alloc (.cells #[] 5)) w16.heap.size (.slice (some ⟨w16.heap.size, 0, none⟩) 0 0) [] := own_empty (Nat.le_refl _)
      have HO16 := Lib.hid ho16
      have HBB := Lib.hid (hb16.below ((Below.refl _ w16).alloc (Nat.le_refl _) (.cells #[] 5)))
      have HGA : Hid (Below w16.heap.size w16 (w16.alloc (.cells #[] 5))) := Lib.hid ((Below.refl _ w16).alloc (Nat.le_refl _) _)
      clear ho16
      go_wp2_with (first | (at_builtin; refine wpList_pushAll rfl (.tmp 95) (.tmp 96) rfl w16.heap.size _ [] rfl HO16.out w16.heap.size (some ⟨bb, bo, none⟩) cb ob rfl HBB.out (by simp; omega) (by simp) ?_; intro v17 w17 ho17 hg17; rw [List.nil_append] at ho17) | (at_builtin; refine wpList_push1 rfl (.tmp 97) (.tmp 98) rfl w16.heap.size v17 ob rfl ho17 0 w17.heap.size rfl rfl (by omega) (Nat.le_trans (by simp) hg17.size) ?_; intro g18 c18 w18 ho18 hg18))
      have hq17 := World.ownsRow.lt ho17
      have hB17 := HGA.out.grown hg17 (by simp) (fun q hq => by cases hq; exact Nat.le_refl _)
      have hB18 := (hB17.alloc hB17.size (.cells #[.int .u8 0] 5)).grown hg18 (by have := hB17.size; simp; omega) (fun q hq => (hq17 q hq).1)
      obtain ⟨A18, c18', hv18, hc18, hm18⟩ := ho18.has
      injection hv18 with e1 e2 e3
      subst e1 e3
      have hF18 := hF16.below hB18 hF16.lt
      have hf18 := hf16.carry hB18 (Nat.le_refl _) hB18.size
      have hX18 := hX16.below hB18 hX16.lt
      have hh18 := hh16.carry hB18 (Nat.le_refl _) hB18.size
      have B18 := B16.trans (hB18.mono B16.size)
      have CM1 := Lib.hid (CM.out _ _ w18 hc18 hm18)
      rw [show (ob ++ [(0 : UInt8)]).length = ob.length + 1 from by simp] at CM1
      clear ho17 hg17 HGA HO16 HBB hq17 hB17 hB18 ho18 hg18 hc18 hm18 hF16 hf16 hX16 hh16 hb16 B16 e2 CM CB CL HTK
      refine CM1.out.mono ?_
      rintro e w19 ⟨A6, c6, rfl, -, b19⟩
      have hF19 := hF18.below b19 hF18.lt
      have hf19 := hf18.carry b19 (Nat.le_refl _) b19.size
      have hX19 := hX18.below b19 hX18.lt
      have hh19 := hh18.carry b19 (Nat.le_refl _) b19.size
      have B19 := B18.trans (b19.mono B18.size)
      clear hF18 hf18 hX18 hh18 B18 b19 CM1
      go_upto_region 17 with fail
      have b20 : Below w19.heap.size w19 (w19.alloc (.cells #[.int .i64 W6, .int .i64 H6, .slice A6 p6.length c6] 25)) := (Below.refl _ w19).alloc (Nat.le_refl _) _
      generalize w19.alloc (.cells #[.int .i64 W6, .int .i64 H6, .slice A6 p6.length c6] 25) = w20 at *
      have hF20 := hF19.below b20 hF19.lt
      have hf20 := hf19.carry b20 (Nat.le_refl _) b20.size
      have hX20 := hX19.below b20 hX19.lt
      have hh20 := hh19.carry b20 (Nat.le_refl _) b20.size
      have HB20 := Lib.hid (B19.trans (b20.mono B19.size))
      have x0 := hX20.c0
      have x1 := hX20.c1
      have x2 := hX20.c2
      have y0 := hF20.c0
      have y1 := hF20.c1
      have y2 := hF20.c2
      have CER1 := Lib.hid (CER.out _ _ cf c1 _ hf20 hh20)
      clear hF19 hf19 hX19 hh19 B19 b20 CER hF20 hX20 hf20 hh20
      go_wp2_with fail
      refine CER1.out.mono ?_
      rintro e w21 ⟨rfl, b21⟩
      have HB21 := Lib.hid (HB20.out.trans (b21.mono HB20.out.size))
      clear b21
      go_wp2_with fail
      go_ret
      exact ⟨rfl, HB21.out⟩

set_option maxHeartbeats 400000 in
theorem fnRasBytes_walk (A : Option Addr) (c : Nat) (l : List UInt8) (A' : Option Addr) (c' : Nat) (l' : List UInt8) (w : World) (h : Has w w.heap.size A l) (hc : l.length ≤ c) (h' : Has w w.heap.size A' l') (hc' : l'.length ≤ c') :
    Calls Try.prog 3 #[.slice A l.length c, .slice A' l'.length c'] w fun e w' => e = .returned (.bool true) ∧ Below w.heap.size w w' := by
  by_cases hs : l.length ≤ 1048576
  · by_cases hs' : l'.length ≤ 1048576
    · exact fnRasBytes_small A c l A' c' l' w h hc h' hc' hs hs'
    · have hl : ¬ ((1048576 : Int) < (l.length : Int)) := by omega
      have hl' : (1048576 : Int) < (l'.length : Int) := by omega
      clear h hs h' hs'
      go_enter Try.func3, Try.ntmps3
      go_wp2
      go_ret
      exact ⟨rfl, Below.refl _ _⟩
  · have hl : (1048576 : Int) < (l.length : Int) := by omega
    clear h hs h'
    go_enter Try.func3, Try.ntmps3
    go_wp2
    go_ret
    exact ⟨rfl, Below.refl _ _⟩
end Go.Proofs.Ytofphjfgaihjhaa
