/-
  The four codecs' write of the program, FormWrite and FormPut. Conditions: the pixels and the note are read from memory that was there.
-/
import Derived.Test.YtnnpjcbdcjdojaaFormF
import Derived.Test.YtnnpjcbdcjdojaaFormCd
import Derived.Test.YtnnpjcbdcjdojaaPakIP
import Derived.Handy
namespace Go.Proofs.Ytnnpjcbdcjdojaa
set_option maxRecDepth 4000
open Go.RowKit

theorem implRasBytes_ok (W H : Int) (A : Option Addr) (c : Nat) (l : List Px) (w : World) (hok : rasB W H l = true) (h : HasP w w.heap.size A l) :
    Calls Try.prog 27 #[rasV W H A l.length c] w (Bodied (rasBy W H l) w) := by
  obtain ⟨hW, hH, hl, ha⟩ := rasB_parts hok
  have h36 := mul36 hW hH
  have := implRasBytes_any W H A c l w (by omega) h
  unfold rasOut at this
  rw [hok] at this
  exact this
set_option maxHeartbeats 400000 in
theorem downWrite_any (W H : Int) (A : Option Addr) (c : Nat) (l : List Px) (w : World) (hok : rasB W H l = true) (h : HasP w w.heap.size A l) :
    Calls Try.prog 102 #[.agg #[], rasV W H A l.length c] w (Bodied (rasBy W H l) w) := by
  have hb0 : Below w.heap.size w ((w.alloc (.cells #[] 79)).alloc (.cells #[.int .i64 W, .int .i64 H, .slice A l.length c] 25)) := ((Below.refl _ w).alloc (Nat.le_refl _) _).alloc (by simp) _
  have C := Lib.hid (implRasBytes_ok W H A c l _ hok ((h.below hb0).wider hb0.size))
  have HB0 := Lib.hid hb0
  unfold rasV at *
  clear h hb0 hok
  go_enter Try.func102, Try.ntmps102
  go_wp2_with fail
  refine C.out.mono ?_
  rintro e w2 h2
  obtain ⟨v, rfl, ho, b2⟩ := bodied_below HB0.out h2
  have HF : Hid (Bodied (rasBy W H l) w (.returned v) w2) := Lib.hid ⟨v, rfl, ho, b2⟩
  clear h2 ho b2
  go_wp2_with fail
  go_ret
  exact HF.out
set_option maxHeartbeats 400000 in
theorem upWrite_any (W H : Int) (A : Option Addr) (c : Nat) (l : List Px) (w : World) (hok : rasB W H l = true) (hc : l.length ≤ c) (h : HasP w w.heap.size A l) :
    Calls Try.prog 106 #[.agg #[], rasV W H A l.length c] w (Bodied (rasBy W H (flipR W H l)) w) := by
  have hb0 : Below w.heap.size w ((w.alloc (.cells #[] 80)).alloc (.cells #[.int .i64 W, .int .i64 H, .slice A l.length c] 25)) := ((Below.refl _ w).alloc (Nat.le_refl _) _).alloc (by simp) _
  have CF := Lib.hid (rowsReversed_any W H A c l _ hok hc ((h.below hb0).wider hb0.size))
  have C := Lib.hid fun A c W0 hh => implRasBytes_ok W H A c (flipR W H l) W0 (flipR_ok hok) hh
  have HB0 := Lib.hid hb0
  unfold rasV at *
  clear h hb0 hok hc
  go_enter Try.func106, Try.ntmps106
  go_wp2_with fail
  refine CF.out.mono ?_
  rintro e w2 ⟨A2, c2, rfl, hc2, ho2, b2⟩
  have HB2 := Lib.hid (HB0.out.trans (b2.mono HB0.out.size))
  have C2 := Lib.hid (C.out A2 c2 w2 ho2.reads)
  unfold rasV
  clear ho2 b2 CF C hc2
  generalize rasBy W H (flipR W H l) = r at *
  go_wp2_with fail
  refine C2.out.mono ?_
  rintro e w3 h3
  obtain ⟨v, rfl, ho, b3⟩ := bodied_below HB2.out h3
  have HF : Hid (Bodied r w (.returned v) w3) := Lib.hid ⟨v, rfl, ho, b3⟩
  clear h3 ho b3
  go_wp2_with fail
  go_ret
  exact HF.out
set_option maxHeartbeats 400000 in
theorem packWrite_any (W H : Int) (A : Option Addr) (c : Nat) (l : List Px) (w : World) (hok : rasB W H l = true) (h : HasP w w.heap.size A l) :
    Calls Try.prog 120 #[.agg #[], rasV W H A l.length c] w (Bodied (pakPutB (rasBy W H l)) w) := by
  have hb0 : Below w.heap.size w ((w.alloc (.cells #[] 82)).alloc (.cells #[.int .i64 W, .int .i64 H, .slice A l.length c] 25)) := ((Below.refl _ w).alloc (Nat.le_refl _) _).alloc (by simp) _
  have C := Lib.hid (implRasBytes_ok W H A c l _ hok ((h.below hb0).wider hb0.size))
  have HB0 := Lib.hid hb0
  have HLE := Lib.hid (rasBy_le hok)
  unfold rasV at *
  generalize rasBy W H l = r at *
  clear h hb0 hok
  go_enter Try.func120, Try.ntmps120
  go_wp2_with fail
  refine C.out.mono ?_
  rintro e w2 ⟨v, rfl, ho, b2⟩
  obtain ⟨A2, c2, rfl, hc2, h2⟩ := ho.has
  have HB2 := Lib.hid (HB0.out.trans (b2.mono HB0.out.size))
  have CP := Lib.hid (implPakPut_if A2 c2 r w2 (by have := HLE.out; omega) hc2 h2)
  unfold PakOut at CP
  clear ho b2 h2 C hc2
  go_wp2_with fail
  refine CP.out.mono ?_
  rintro e w3 ⟨v, rfl, ho, b3⟩
  have HF := Lib.hid (bodied_own HB2.out ho b3)
  clear ho b3
  go_wp2_with fail
  go_ret
  exact HF.out
/-- Each kind's codec writes the body of its kind. -/
theorem codec_write (k : UInt8) (W H : Int) (A : Option Addr) (c : Nat) (l : List Px) (hk : kindB k = true) (hok : rasB W H l = true) (hc : l.length ≤ c) :
    (codecV k = .iface 79 (.agg #[]) ∧ ∀ W0 : World, HasP W0 W0.heap.size A l → Calls Try.prog 102 #[.agg #[], .agg #[.int .i64 W, .int .i64 H, .slice A l.length c]] W0 (Bodied (bodyB k W H l) W0)) ∨
      (codecV k = .iface 80 (.agg #[]) ∧ ∀ W0 : World, HasP W0 W0.heap.size A l → Calls Try.prog 106 #[.agg #[], .agg #[.int .i64 W, .int .i64 H, .slice A l.length c]] W0 (Bodied (bodyB k W H l) W0)) ∨
      (codecV k = .iface 81 (.agg #[]) ∧ ∀ W0 : World, HasP W0 W0.heap.size A l → Calls Try.prog 110 #[.agg #[], .agg #[.int .i64 W, .int .i64 H, .slice A l.length c]] W0 (Bodied (bodyB k W H l) W0)) ∨
      (codecV k = .iface 82 (.agg #[]) ∧ ∀ W0 : World, HasP W0 W0.heap.size A l → Calls Try.prog 120 #[.agg #[], .agg #[.int .i64 W, .int .i64 H, .slice A l.length c]] W0 (Bodied (bodyB k W H l) W0)) := by
  unfold kindB at hk
  simp only [Bool.or_eq_true, beq_iff_eq] at hk
  rcases hk with rfl | rfl | rfl | rfl
  · exact .inl ⟨rfl, fun W0 hh => downWrite_any W H A c l W0 hok hh⟩
  · exact .inr (.inl ⟨rfl, fun W0 hh => upWrite_any W H A c l W0 hok hc hh⟩)
  · exact .inr (.inr (.inl ⟨rfl, fun W0 hh => runsWrite_any W H A c l W0 hok hc hh⟩))
  · exact .inr (.inr (.inr ⟨rfl, fun W0 hh => packWrite_any W H A c l W0 hok hh⟩))
set_option maxHeartbeats 2000000 in
theorem implFormWrite_any (k : UInt8) (An : Option Addr) (cn : Nat) (note : List UInt8) (W H : Int) (A : Option Addr) (c : Nat) (l : List Px) (w : World) (hn : note.length ≤ 1073741824) (hs : l.length ≤ 1073741824) (hc : l.length ≤ c) (hnh : Has w w.heap.size An note) (h : HasP w w.heap.size A l) :
    Calls Try.prog 13 #[.int .u8 (k.toNat : Int), .slice An note.length cn, rasV W H A l.length c] w (Bodied (formB k note W H l) w) := by
  have hb0 : Below w.heap.size w (w.alloc (.cells #[.int .i64 W, .int .i64 H, .slice A l.length c] 25)) := (Below.refl _ w).alloc (Nat.le_refl _) _
  have hx0 : RasAtB (w.alloc (.cells #[.int .i64 W, .int .i64 H, .slice A l.length c] 25)) w.heap.size W H A l.length c 25 := heap_alloc_new w _
  have HNH := Lib.hid hnh
  have HH := Lib.hid h
  have CK := Lib.hid (formCodecOf_any k)
  have CR := Lib.hid fun W0 hh => implRasOk_any W H A c l W0 hs hh
  have CW := Lib.hid fun h1 h2 => codec_write k W H A c l h1 h2 hc
  have HB0 := Lib.hid hb0
  have HX0 := Lib.hid hx0
  have HOF := Lib.hid fun h1 h2 h3 => formB_of (k := k) (note := note) (W := W) (H := H) (l := l) h1 h2 h3
  have HNO := Lib.hid fun h1 => formB_no (k := k) (note := note) (W := W) (H := H) (l := l) h1
  have HBL := Lib.hid fun h => bodyB_le (k := k) (W := W) (H := H) (l := l) h
  unfold fileB at HOF
  generalize formB k note W H l = f at *
  generalize bodyB k W H l = body at *
  unfold rasV at *
  have hnI : (note.length : Int) ≤ 1073741824 := by omega
  clear h hb0 hx0 hc hs hnh hn
  go_enter Try.func13, Try.ntmps13
  go_wp2_with fail
  generalize w.alloc (.cells #[.int .i64 W, .int .i64 H, .slice A l.length c] 25) = w0 at *
  have hz0 := HX0.out.lt
  refine (CK.out _).mono ?_
  rintro e w1 ⟨rfl, b1⟩
  have HX1 := Lib.hid (HX0.out.below b1 hz0)
  have HB1 := Lib.hid (HB0.out.trans (b1.mono HB0.out.size))
  have hz1 := HX1.out.lt
  have x0 := HX1.out.c0
  have x1 := HX1.out.c1
  have x2 := HX1.out.c2
  clear b1 CK HX0 HB0
  cases hk : kindB k
  · have HFF := Lib.hid (bodied_nil (HNO.out (fun e => by rw [hk] at e; cases e.1)) HB1.out)
    clear hk HNO HOF CR CW
    go_wp2_with fail
    go_ret
    exact HFF.out
  by_cases hn : note.length ≤ 9
  · have hn9 : ¬ (9 : Int) < (note.length : Int) := by omega
    have hn9' : (note.length : Int) ≤ 9 := by omega
    have CR0 := Lib.hid (CR.out _ ((HH.out.below HB1.out).wider HB1.out.size))
    have HN := Lib.hid hn
    have HK := Lib.hid hk
    clear CR hk hn
    go_wp2_with fail
    refine CR0.out.mono ?_
    rintro e w2 ⟨rfl, b2⟩
    have HB2 := Lib.hid (HB1.out.trans (b2.mono HB1.out.size))
    have hx2 := HX1.out.below b2 hz1
    have x0 := hx2.c0
    have x1 := hx2.c1
    have x2 := hx2.c2
    clear b2 CR0 hx2 HX1
    cases hok : rasB W H l
    · have HFF := Lib.hid (bodied_nil (HNO.out (fun e => by rw [hok] at e; cases e.2.2)) HB2.out)
      clear hok HNO HOF CW
      go_wp2_with fail
      go_ret
      exact HFF.out
    · have HF := Lib.hid (HOF.out HK.out HN.out hok)
      have HBN := Lib.hid (HBL.out hok)
      have HD := Lib.hid (CW.out HK.out hok)
      have HP2 := Lib.hid ((HH.out.below HB2.out).wider HB2.out.size)
      have HL2 : Hid (∀ W0 : World, Own (W0.alloc (.cells #[.int .u8 (k.toNat : Int), .int .u8 (note.length : Int)] 5)) W0.heap.size (.slice (some ⟨W0.heap.size, 0, none⟩) 2 2) [k, UInt8.ofNat note.length]) := Lib.hid fun W0 => by
        have := own_lit2 W0 k (UInt8.ofNat note.length)
        rw [by_of _ (by omega)] at this
        exact this
      clear hok HNO HOF CW HBL
      rcases HD.out with ⟨hcv, CW⟩ | ⟨hcv, CW⟩ | ⟨hcv, CW⟩ | ⟨hcv, CW⟩
      all_goals
        have CW2 := Lib.hid (CW w2 HP2.out)
        clear CW HD
        go_wp2_with fail
        refine CW2.out.mono ?_
        rintro e w3 ⟨v3, rfl, ho3, b3⟩
        obtain ⟨A3, c3, rfl, -, h3⟩ := ho3.has
        have B3 := HB2.out.trans (b3.mono HB2.out.size)
        have HB3 := Lib.hid B3
        have HH3 := Lib.hid h3
        have HO4 := Lib.hid (HL2.out w3)
        have HB4 : Hid (Below w3.heap.size w3 (w3.alloc (.cells #[.int .u8 (k.toNat : Int), .int .u8 (note.length : Int)] 5))) := Lib.hid ((Below.refl _ w3).alloc (Nat.le_refl _) _)
        have HN4 := Lib.hid ((HNH.out.below B3).below (HB4.out.mono HB3.out.size))
        clear ho3 b3 h3 B3 CW2 x0 x1 x2
        go_wp2_with (first
          | (at_builtin; refine wpList_pushAll rfl (.tmp 35) (.tmp 36) rfl w3.heap.size (.slice (some ⟨w3.heap.size, 0, none⟩) 2 2) [k, UInt8.ofNat note.length] rfl HO4.out w.heap.size An cn note rfl HN4.out (by have := HN.out; simp; omega) HB4.out.size ?_; intro v5 w5 ho5 hg5; have HO5 := Lib.hid ho5; have HB5 := Lib.hid (HB4.out.trans (below_own HO4.out hg5 HB4.out.size)); have HH5 := Lib.hid (HH3.out.below HB5.out); clear ho5 hg5)
          | (at_builtin; refine wpList_pushAll rfl (.tmp 38) (.tmp 39) rfl w3.heap.size v5 ([k, UInt8.ofNat note.length] ++ note) rfl HO5.out w3.heap.size A3 c3 body rfl HH5.out (by have := HN.out; have := HBN.out; simp; omega) HB5.out.size ?_; intro v6 w6 ho6 hg6; have HO6 := Lib.hid ho6; have HB6 := Lib.hid (HB5.out.trans (below_own HO5.out hg6 HB5.out.size)); have HH6 := Lib.hid (HH3.out.carry HB6.out (Nat.le_refl _) HB6.out.size); clear ho6 hg6))
        have CS := Lib.hid (sumBytes_any A3 c3 body w6 (by have := HBN.out; omega) HH6.out)
        unfold Summed at CS
        refine CS.out.mono ?_
        rintro e w7 ⟨A7, c7, rfl, ho7, b7⟩
        have HO7 := Lib.hid (HO6.out.below b7 (Nat.le_refl _))
        have HB7 := Lib.hid (HB6.out.trans (b7.mono HB6.out.size))
        have HH7 := Lib.hid ho7.reads
        clear ho7 b7 CS
        have hsm := sum4_length (sumN body)
        generalize sum4 (sumN body) = sm at *
        have HSM := Lib.hid hsm
        clear hsm
        go_wp2_with (at_builtin; refine wpList_pushAll rfl (.tmp 41) (.tmp 43) rfl w3.heap.size v6 ([k, UInt8.ofNat note.length] ++ note ++ body) rfl HO7.out w7.heap.size A7 c7 sm (by rw [HSM.out]; rfl) HH7.out (by have := HN.out; have := HBN.out; have := HSM.out; simp; omega) HB7.out.size ?_; intro v8 w8 ho8 hg8; have HB8 := Lib.hid (HB7.out.trans (below_own HO7.out hg8 HB7.out.size)); have HO8 := Lib.hid ho8; clear ho8 hg8)
        go_ret
        exact ⟨_, rfl, by rw [HF.out]; exact HO8.out.lower HB3.out.size, HB3.out.trans (HB8.out.mono HB3.out.size)⟩
  · have hn9 : (9 : Int) < (note.length : Int) := by omega
    have HFF := Lib.hid (bodied_nil (HNO.out (fun e => hn e.2.1)) HB1.out)
    clear hk hn HNO HOF CR CW
    go_wp2_with fail
    go_ret
    exact HFF.out
set_option maxHeartbeats 400000 in
theorem implFormPut_any (W H : Int) (A : Option Addr) (c : Nat) (l : List Px) (w : World) (hs : l.length ≤ 1073741824) (hc : l.length ≤ c) (h : HasP w w.heap.size A l) :
    Calls Try.prog 16 #[rasV W H A l.length c] w (Bodied (formB 80 [] W H l) w) := by
  have hb0 : Below w.heap.size w (w.alloc (.cells #[.int .i64 W, .int .i64 H, .slice A l.length c] 25)) := (Below.refl _ w).alloc (Nat.le_refl _) _
  have CF := Lib.hid (implFormWrite_any 80 none 0 [] W H A c l _ (by simp) hs hc (.inl rfl) ((h.below hb0).wider hb0.size))
  have HB0 := Lib.hid hb0
  unfold rasV at *
  change Hid (Calls _ _ #[.int .u8 80, .slice none 0 0, _] _ _) at CF
  generalize formB 80 [] W H l = f at *
  clear h hb0 hc hs
  go_enter Try.func16, Try.ntmps16
  go_wp2_with fail
  refine CF.out.mono ?_
  rintro e w3 h3
  obtain ⟨v, rfl, ho, b3⟩ := bodied_below HB0.out h3
  have HFF : Hid (Bodied f w (.returned v) w3) := Lib.hid ⟨v, rfl, ho, b3⟩
  clear h3 ho b3
  go_wp2_with fail
  go_ret
  exact HFF.out
end Go.Proofs.Ytnnpjcbdcjdojaa
