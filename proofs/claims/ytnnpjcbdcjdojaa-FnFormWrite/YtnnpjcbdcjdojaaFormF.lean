/-
  l5File, FormWrite and FormPut of the reference: a file. Conditions: the pixels and the note are read from memory that was there.
-/
import Derived.Test.YtnnpjcbdcjdojaaFormS
namespace Go.Proofs.Ytnnpjcbdcjdojaa
set_option maxRecDepth 4000
open Go.RowKit

/-- A row that is the call's own lies above what was there. -/
theorem below_own {w w' : World} {base : Nat} {v : Value} {l : List UInt8} (ho : Own w base v l) (hg : w.grownBy w' v.ownBlock) (hb : base ≤ w.heap.size) : Below base w w' := (Below.refl _ w).grown hg hb (fun q hq => (World.ownsRow.lt ho q hq).1)
set_option maxHeartbeats 1000000 in
theorem l5File_any (k : UInt8) (An : Option Addr) (cn : Nat) (note : List UInt8) (W H : Int) (A : Option Addr) (c : Nat) (l : List Px) (w : World) (hn : note.length ≤ 9) (hok : rasB W H l = true) (hc : l.length ≤ c) (hnh : Has w w.heap.size An note) (h : HasP w w.heap.size A l) :
    Calls Try.prog 47 #[.int .u8 (k.toNat : Int), .slice An note.length cn, rasV W H A l.length c] w (Bodied (fileB k note W H l) w) := by
  have hb0 : Below w.heap.size w (w.alloc (.cells #[.int .i64 W, .int .i64 H, .slice A l.length c] 25)) := (Below.refl _ w).alloc (Nat.le_refl _) _
  have CB := Lib.hid (l5Body_any k W H A c l _ hok hc ((h.below hb0).wider hb0.size))
  have HB0 := Lib.hid hb0
  have HNH := Lib.hid hnh
  have HBL := Lib.hid (bodyB_le (k := k) hok)
  obtain ⟨f, hf⟩ : ∃ f, fileB k note W H l = f := ⟨_, rfl⟩
  have HF : Hid ([k, UInt8.ofNat note.length] ++ note ++ bodyB k W H l ++ sum4 (sumN (bodyB k W H l)) = f) := Lib.hid hf
  rw [hf]
  clear hf
  unfold rasV at *
  generalize bodyB k W H l = body at *
  have hnI : (note.length : Int) ≤ 9 := by omega
  have HNN := Lib.hid hn
  have HL2 : Hid (∀ W0 : World, Own (W0.alloc (.cells #[.int .u8 (k.toNat : Int), .int .u8 (note.length : Int)] 5)) W0.heap.size (.slice (some ⟨W0.heap.size, 0, none⟩) 2 2) [k, UInt8.ofNat note.length]) := Lib.hid fun W0 => by
    have := own_lit2 W0 k (UInt8.ofNat note.length)
    rw [by_of _ (by omega)] at this
    exact this
  clear h hb0 hc hok hn hnh
  go_enter Try.func47, Try.ntmps47
  go_wp2_with fail
  refine CB.out.mono ?_
  rintro e w2 ⟨v2, rfl, ho2, b2⟩
  obtain ⟨A2, c2, rfl, -, h2⟩ := ho2.has
  have B2 := HB0.out.trans (b2.mono HB0.out.size)
  have HB2 := Lib.hid B2
  have HH2 := Lib.hid h2
  have HN2 := Lib.hid (HNH.out.below B2)
  have HO3 := Lib.hid (HL2.out w2)
  have HB3 : Hid (Below w2.heap.size w2 (w2.alloc (.cells #[.int .u8 (k.toNat : Int), .int .u8 (note.length : Int)] 5))) := Lib.hid ((Below.refl _ w2).alloc (Nat.le_refl _) _)
  have HN3 := Lib.hid (HN2.out.below (HB3.out.mono HB2.out.size))
  clear ho2 b2 h2 B2 CB
  have HBN : Hid (body.length ≤ 1000) := Lib.hid (by have := HBL.out; omega)
  go_wp2_with (first
    | (at_builtin; refine wpList_pushAll rfl (.tmp 16) (.tmp 17) rfl w2.heap.size (.slice (some ⟨w2.heap.size, 0, none⟩) 2 2) [k, UInt8.ofNat note.length] rfl HO3.out w.heap.size An cn note rfl HN3.out (by have := HNN.out; simp; omega) HB3.out.size ?_; intro v4 w4 ho4 hg4; have HO4 := Lib.hid ho4; have HB4 := Lib.hid (HB3.out.trans (below_own HO3.out hg4 HB3.out.size)); have HH4 := Lib.hid (HH2.out.below HB4.out); clear ho4 hg4)
    | (at_builtin; refine wpList_pushAll rfl (.tmp 19) (.tmp 20) rfl w2.heap.size v4 ([k, UInt8.ofNat note.length] ++ note) rfl HO4.out w2.heap.size A2 c2 body rfl HH4.out (by have := HNN.out; have := HBN.out; simp; omega) HB4.out.size ?_; intro v5 w5 ho5 hg5; have HO5 := Lib.hid ho5; have HB5 := Lib.hid (HB4.out.trans (below_own HO4.out hg5 HB4.out.size)); have HH5 := Lib.hid (HH2.out.carry HB5.out (Nat.le_refl _) HB5.out.size); clear ho5 hg5))
  have CS := Lib.hid (l5Sum_any A2 c2 body w5 (by have := HBN.out; omega) HH5.out)
  unfold Summed at CS
  refine CS.out.mono ?_
  rintro e w6 ⟨A6, c6, rfl, ho6, b6⟩
  have HO6 := Lib.hid (HO5.out.below b6 (Nat.le_refl _))
  have HB6 := Lib.hid (HB5.out.trans (b6.mono HB5.out.size))
  have HH6 := Lib.hid ho6.reads
  clear ho6 b6 CS
  have hsm := sum4_length (sumN body)
  generalize sum4 (sumN body) = sm at *
  have HSM := Lib.hid hsm
  clear hsm
  go_wp2_with (at_builtin; refine wpList_pushAll rfl (.tmp 21) (.tmp 23) rfl w2.heap.size v5 ([k, UInt8.ofNat note.length] ++ note ++ body) rfl HO6.out w6.heap.size A6 c6 sm (by rw [HSM.out]; rfl) HH6.out (by have := HNN.out; have := HBN.out; have := HSM.out; simp; omega) HB6.out.size ?_; intro v7 w7 ho7 hg7; have HB7 := Lib.hid (HB6.out.trans (below_own HO6.out hg7 HB6.out.size)); have HO7 := Lib.hid ho7; clear ho7 hg7)
  go_ret
  exact ⟨_, rfl, by rw [← HF.out]; exact HO7.out.lower HB2.out.size, HB2.out.trans (HB7.out.mono HB2.out.size)⟩
theorem formB_of {k : UInt8} {note : List UInt8} {W H : Int} {l : List Px} (h1 : kindB k = true) (h2 : note.length ≤ 9) (h3 : rasB W H l = true) : formB k note W H l = fileB k note W H l := by
  unfold formB
  rw [h1, decide_eq_true h2, h3]
  rfl
theorem formB_no {k : UInt8} {note : List UInt8} {W H : Int} {l : List Px} (h : ¬ (kindB k = true ∧ note.length ≤ 9 ∧ rasB W H l = true)) : formB k note W H l = [] := by
  unfold formB
  rw [if_neg]
  intro e
  simp only [Bool.and_eq_true, decide_eq_true_eq] at e
  exact h ⟨e.1.1, e.1.2, e.2⟩
theorem bodied_empty {w w1 : World} {r : List UInt8} (h : r = []) (hb : Below w.heap.size w w1) : Bodied r w (.returned (.slice (some ⟨w1.heap.size, 0, none⟩) 0 0)) (w1.alloc (.cells #[] 5)) := ⟨_, rfl, by rw [h]; exact own_empty hb.size, hb.alloc hb.size _⟩
theorem bodied_nil {w w1 : World} {r : List UInt8} (h : r = []) (hb : Below w.heap.size w w1) : Bodied r w (.returned (.slice none 0 0)) w1 := ⟨_, rfl, by rw [h]; exact own_nil _ _, hb⟩
set_option maxHeartbeats 1000000 in
theorem specFormWrite_any (k : UInt8) (An : Option Addr) (cn : Nat) (note : List UInt8) (W H : Int) (A : Option Addr) (c : Nat) (l : List Px) (w : World) (hn : note.length ≤ 1073741824) (hs : l.length ≤ 1073741824) (hc : l.length ≤ c) (hnh : Has w w.heap.size An note) (h : HasP w w.heap.size A l) :
    Calls Try.prog 15 #[.int .u8 (k.toNat : Int), .slice An note.length cn, rasV W H A l.length c] w (Bodied (formB k note W H l) w) := by
  have hb0 : Below w.heap.size w (w.alloc (.cells #[.int .i64 W, .int .i64 H, .slice A l.length c] 25)) := (Below.refl _ w).alloc (Nat.le_refl _) _
  have hx0 : RasAtB (w.alloc (.cells #[.int .i64 W, .int .i64 H, .slice A l.length c] 25)) w.heap.size W H A l.length c 25 := heap_alloc_new w _
  have HNH := Lib.hid hnh
  have HH := Lib.hid h
  have CK := Lib.hid (l5Kind_any k)
  have CR := Lib.hid fun W0 hh => specRasOk_any W H A c l W0 hs hh
  have CF := Lib.hid fun W0 h1 h2 h3 h4 => l5File_any k An cn note W H A c l W0 h1 h2 hc h3 h4
  have HB0 := Lib.hid hb0
  have HX0 := Lib.hid hx0
  have HOF := Lib.hid fun h1 h2 h3 => formB_of (k := k) (note := note) (W := W) (H := H) (l := l) h1 h2 h3
  have HNO := Lib.hid fun h1 => formB_no (k := k) (note := note) (W := W) (H := H) (l := l) h1
  generalize formB k note W H l = f at *
  unfold rasV at *
  have hnI : (note.length : Int) ≤ 1073741824 := by omega
  clear h hb0 hx0 hc hs hnh hn
  go_enter Try.func15, Try.ntmps15
  go_wp2_with fail
  generalize w.alloc (.cells #[.int .i64 W, .int .i64 H, .slice A l.length c] 25) = w0 at *
  have hz0 := HX0.out.lt
  refine (CK.out _).mono ?_
  rintro e w' ⟨rfl, rfl⟩
  have x0 := HX0.out.c0
  have x1 := HX0.out.c1
  have x2 := HX0.out.c2
  cases hk : kindB k
  · have HFF := Lib.hid (bodied_empty (HNO.out (fun e => by rw [hk] at e; cases e.1)) HB0.out)
    clear hk HNO HOF CF CR CK
    go_wp2_with fail
    go_ret
    exact HFF.out
  by_cases hn : note.length ≤ 9
  · have hn9 : ¬ (9 : Int) < (note.length : Int) := by omega
    have CR0 := Lib.hid (CR.out _ ((HH.out.below HB0.out).wider HB0.out.size))
    have HN := Lib.hid hn
    have HK := Lib.hid hk
    clear CR hk hn CK
    go_wp2_with fail
    refine CR0.out.mono ?_
    rintro e w2 ⟨rfl, b2⟩
    have HB2 := Lib.hid (HB0.out.trans (b2.mono HB0.out.size))
    have hx2 := HX0.out.below b2 hz0
    have x0 := hx2.c0
    have x1 := hx2.c1
    have x2 := hx2.c2
    clear b2 CR0 hx2
    cases hok : rasB W H l
    · have HFF := Lib.hid (bodied_empty (HNO.out (fun e => by rw [hok] at e; cases e.2.2)) HB2.out)
      clear hok HNO HOF CF
      go_wp2_with fail
      go_ret
      exact HFF.out
    · have CF2 := Lib.hid (CF.out w2 HN.out hok ((HNH.out.below HB2.out).wider HB2.out.size) ((HH.out.below HB2.out).wider HB2.out.size))
      rw [← HOF.out HK.out HN.out hok] at CF2
      clear hok HNO HOF CF
      go_wp2_with fail
      refine CF2.out.mono ?_
      rintro e w3 h3
      obtain ⟨v, rfl, ho, b3⟩ := bodied_below HB2.out h3
      have HFF : Hid (Bodied f w (.returned v) w3) := Lib.hid ⟨v, rfl, ho, b3⟩
      clear h3 ho b3
      go_wp2_with fail
      go_ret
      exact HFF.out
  · have hn9 : (9 : Int) < (note.length : Int) := by omega
    have HFF := Lib.hid (bodied_empty (HNO.out (fun e => hn e.2.1)) HB0.out)
    clear hk hn HNO HOF CF CR CK
    go_wp2_with fail
    go_ret
    exact HFF.out
set_option maxHeartbeats 1000000 in
theorem specFormPut_any (W H : Int) (A : Option Addr) (c : Nat) (l : List Px) (w : World) (hs : l.length ≤ 1073741824) (hc : l.length ≤ c) (h : HasP w w.heap.size A l) :
    Calls Try.prog 17 #[rasV W H A l.length c] w (Bodied (formB 80 [] W H l) w) := by
  have hb0 : Below w.heap.size w (w.alloc (.cells #[.int .i64 W, .int .i64 H, .slice A l.length c] 25)) := (Below.refl _ w).alloc (Nat.le_refl _) _
  have hx0 : RasAtB (w.alloc (.cells #[.int .i64 W, .int .i64 H, .slice A l.length c] 25)) w.heap.size W H A l.length c 25 := heap_alloc_new w _
  have HH := Lib.hid h
  have CR := Lib.hid (specRasOk_any W H A c l _ hs ((h.below hb0).wider hb0.size))
  have CF := Lib.hid fun An W0 h2 h3 h4 => l5File_any 80 An 0 [] W H A c l W0 (by simp) h2 hc h3 h4
  have HB0 := Lib.hid hb0
  have HX0 := Lib.hid hx0
  have HOF := Lib.hid fun h3 => formB_of (k := 80) (note := []) (W := W) (H := H) (l := l) rfl (by simp) h3
  have HNO := Lib.hid fun h1 => formB_no (k := 80) (note := []) (W := W) (H := H) (l := l) h1
  generalize formB 80 [] W H l = f at *
  unfold rasV at *
  clear h hb0 hx0 hc hs
  go_enter Try.func17, Try.ntmps17
  go_wp2_with fail
  generalize w.alloc (.cells #[.int .i64 W, .int .i64 H, .slice A l.length c] 25) = w0 at *
  have hz0 := HX0.out.lt
  refine CR.out.mono ?_
  rintro e w2 ⟨rfl, b2⟩
  have HB2 := Lib.hid (HB0.out.trans (b2.mono HB0.out.size))
  have HX2 := Lib.hid (HX0.out.below b2 hz0)
  clear b2 CR
  cases hok : rasB W H l
  · have HFF := Lib.hid (bodied_empty (HNO.out (fun e => by rw [hok] at e; cases e.2.2)) HB2.out)
    clear hok HNO HOF CF
    go_wp2_with fail
    go_ret
    exact HFF.out
  · have HB3 := Lib.hid (HB2.out.alloc HB2.out.size (.cells #[] 5))
    have hx3 : RasAtB (w2.alloc (.cells #[] 5)) w.heap.size W H A l.length c 25 := (Below.heap_alloc w2 _ _ HX2.out.lt).trans HX2.out
    have x0 := hx3.c0
    have x1 := hx3.c1
    have x2 := hx3.c2
    have CF2 := Lib.hid (CF.out (some ⟨w2.heap.size, 0, none⟩) (w2.alloc (.cells #[] 5)) hok (.inl rfl) ((HH.out.below HB3.out).wider HB3.out.size))
    rw [← HOF.out hok] at CF2
    change Hid (Calls _ _ #[.int .u8 80, .slice (some ⟨w2.heap.size, 0, none⟩) 0 0, _] _ _) at CF2
    clear hok HNO HOF CF hx3
    go_wp2_with fail
    refine CF2.out.mono ?_
    rintro e w3 h3
    obtain ⟨v, rfl, ho, b3⟩ := bodied_below HB3.out h3
    have HFF : Hid (Bodied f w (.returned v) w3) := Lib.hid ⟨v, rfl, ho, b3⟩
    clear h3 ho b3
    go_wp2_with fail
    go_ret
    exact HFF.out
end Go.Proofs.Ytnnpjcbdcjdojaa
