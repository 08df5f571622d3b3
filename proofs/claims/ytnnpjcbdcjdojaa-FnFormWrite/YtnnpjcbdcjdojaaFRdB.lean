/-
  FormGet of what FormWrite answers: the raster and good where there is a file; nothing and unknown where there is none. Conditions: the file is read from memory that was there and its slice has room for it; the raster is one, the kind is one of the four.
-/
import Derived.Test.YtnnpjcbdcjdojaaRep
import Derived.Test.YtnnpjcbdcjdojaaFRdA
import Derived.Test.YtnnpjcbdcjdojaaFormI
import Derived.WalkSpells
import Derived.Test.YtnnpjcbdcjdojaaRegT
namespace Go.Proofs.Ytnnpjcbdcjdojaa
set_option maxRecDepth 4000
open Go.RowKit

/-- What a reader answers that finds a raster. -/
def GotR (W H : Int) (l : List Px) (w : World) (e : Ending) (w' : World) : Prop := ∃ A c, e = .returned (.tuple #[.agg #[.int .i64 W, .int .i64 H, .slice A l.length c], .bool true]) ∧ l.length ≤ c ∧ OwnP w' w.heap.size (.slice A l.length c) l ∧ Below w.heap.size w w'
theorem rasRead_ok (W H : Int) (l : List Px) (A : Option Addr) (c : Nat) (w : World) (hok : rasB W H l = true) (hc : (rasBy W H l).length ≤ c) (h : Has w w.heap.size A (rasBy W H l)) :
    Calls Try.prog 103 #[.slice A (rasBy W H l).length c] w (GotR W H l w) := by
  have hle := rasBy_le hok
  refine (implRasRead_any A c (rasBy W H l) w (by omega) hc h).mono fun e w' hr => ?_
  obtain ⟨A', c', rfl, ho, hb⟩ := hr
  obtain ⟨e1, e2, e3, e4⟩ := read_by hok
  rw [e1, e2, e3, e4]
  rw [e4] at ho
  obtain ⟨A2, c2, e5, hc2, -⟩ := ho.has
  injection e5 with _ _ e6
  exact ⟨A', c', rfl, by rw [e6]; exact hc2, ho, hb⟩
theorem gotR_fin {W H : Int} {l : List Px} {w w0 w2 : World} {g : Nat} {A : Option Addr} {c : Nat} (hx : RasAtB w2 g 0 0 none 0 0 25) (hg : g < w0.heap.size) (hwg : w.heap.size ≤ g) (hc : l.length ≤ c) (ho : OwnP w2 w0.heap.size (.slice A l.length c) l) (hb : Below w.heap.size w w2) (hw : w.heap.size ≤ w0.heap.size) :
    RasAtB (((w2.setCell ⟨g, 0, none⟩ (.int .i64 W)).setCell ⟨g, 1, none⟩ (.int .i64 H)).setCell ⟨g, 2, none⟩ (.slice A l.length c)) g W H A l.length c 25 ∧ GotR W H l w (.returned (.tuple #[.agg #[.int .i64 W, .int .i64 H, .slice A l.length c], .bool true])) (((w2.setCell ⟨g, 0, none⟩ (.int .i64 W)).setCell ⟨g, 1, none⟩ (.int .i64 H)).setCell ⟨g, 2, none⟩ (.slice A l.length c)) :=
  ⟨fin_ras hx _ _ _, A, c, rfl, hc, OwnP.lower (OwnP.set_low (OwnP.set_low (OwnP.set_low ho (b := g) hg 0 _) (b := g) hg 1 _) (b := g) hg 2 _) hw, ((hb.setCell hwg _).setCell hwg _).setCell hwg _⟩
set_option maxHeartbeats 1000000 in
theorem downRead_ok (W H : Int) (l : List Px) (A : Option Addr) (c : Nat) (w : World) (hok : rasB W H l = true) (hc : (rasBy W H l).length ≤ c) (h : Has w w.heap.size A (rasBy W H l)) :
    Calls Try.prog 101 #[.agg #[], .slice A (rasBy W H l).length c] w (GotR W H l w) := by
  have hb0 : Below w.heap.size w ((w.alloc (.cells #[] 79)).alloc (.cells #[.int .i64 0, .int .i64 0, .slice none 0 0] 25)) := ((Below.refl _ w).alloc (Nat.le_refl _) _).alloc (by simp) _
  have hx0 : RasAtB ((w.alloc (.cells #[] 79)).alloc (.cells #[.int .i64 0, .int .i64 0, .slice none 0 0] 25)) (w.heap.size + 1) 0 0 none 0 0 25 := by
    have := heap_alloc_new (w.alloc (.cells #[] 79)) (.cells #[.int .i64 0, .int .i64 0, .slice none 0 0] 25)
    rw [show (w.alloc (.cells #[] 79)).heap.size = w.heap.size + 1 from by simp] at this
    exact this
  have C := Lib.hid (rasRead_ok W H l A c _ hok hc ((h.below hb0).wider hb0.size))
  have HB0 := Lib.hid hb0
  have HX0 := Lib.hid hx0
  generalize rasBy W H l = r at *
  clear h hb0 hok hc hx0
  go_enter Try.func101, Try.ntmps101
  go_wp2_with fail
  generalize (w.alloc (.cells #[] 79)).alloc (.cells #[.int .i64 0, .int .i64 0, .slice none 0 0] 25) = w0 at *
  refine C.out.mono ?_
  rintro e w2 ⟨A2, c2, rfl, hc2, ho2, b2⟩
  have hx2 := HX0.out.below b2 HX0.out.lt
  have HF := Lib.hid (gotR_fin (W := W) (H := H) (w := w) (w0 := w0) hx2 HX0.out.lt (by omega) hc2 ho2 (HB0.out.trans (b2.mono HB0.out.size)) HB0.out.size)
  have r0 := hx2.c0
  have r1 := hx2.c1
  have r2 := hx2.c2
  have q0 : w2.frozen? ⟨w.heap.size + 1, 0, none⟩ = false := hx2.free 0
  have q1 : w2.frozen? ⟨w.heap.size + 1, 1, none⟩ = false := hx2.free 1
  have q2 : w2.frozen? ⟨w.heap.size + 1, 2, none⟩ = false := hx2.free 2
  clear ho2 b2 hx2 C HB0 HX0
  go_wp2_with fail
  (try simp only [Exit.inBlock, Exit.then])
  exact bodyPost_ret (results_row_tmp rfl _ _ (w.heap.size + 1) 25 #[.int .i64 W, .int .i64 H, .slice A2 l.length c2] (0, 0) _ (.bool true) rfl rfl HF.out.1 Try.underlying25 rfl (by kernel_rfl)) rfl HF.out.2
set_option maxHeartbeats 1000000 in
theorem upRead_ok (W H : Int) (l : List Px) (A : Option Addr) (c : Nat) (w : World) (hok : rasB W H l = true) (hc : (rasBy W H (flipR W H l)).length ≤ c) (h : Has w w.heap.size A (rasBy W H (flipR W H l))) :
    Calls Try.prog 105 #[.agg #[], .slice A (rasBy W H (flipR W H l)).length c] w (GotR W H l w) := by
  have hb0 : Below w.heap.size w ((w.alloc (.cells #[] 80)).alloc (.cells #[.int .i64 0, .int .i64 0, .slice none 0 0] 25)) := ((Below.refl _ w).alloc (Nat.le_refl _) _).alloc (by simp) _
  have hx0 : RasAtB ((w.alloc (.cells #[] 80)).alloc (.cells #[.int .i64 0, .int .i64 0, .slice none 0 0] 25)) (w.heap.size + 1) 0 0 none 0 0 25 := by
    have := heap_alloc_new (w.alloc (.cells #[] 80)) (.cells #[.int .i64 0, .int .i64 0, .slice none 0 0] 25)
    rw [show (w.alloc (.cells #[] 80)).heap.size = w.heap.size + 1 from by simp] at this
    exact this
  have C := Lib.hid (rasRead_ok W H (flipR W H l) A c _ (flipR_ok hok) hc ((h.below hb0).wider hb0.size))
  have CF := Lib.hid fun A c W0 hc hh => rowsReversed_any W H A c (flipR W H l) W0 (flipR_ok hok) hc hh
  rw [flipR_flip hok] at CF
  have HB0 := Lib.hid hb0
  have HX0 := Lib.hid hx0
  generalize flipR W H l = fl at *
  generalize rasBy W H fl = r at *
  unfold rasV at CF
  clear h hb0 hok hc hx0
  go_enter Try.func105, Try.ntmps105
  go_wp2_with fail
  generalize (w.alloc (.cells #[] 80)).alloc (.cells #[.int .i64 0, .int .i64 0, .slice none 0 0] 25) = w0 at *
  refine C.out.mono ?_
  rintro e w2 ⟨A2, c2, rfl, hc2, ho2, b2⟩
  have b3 : Below w2.heap.size w2 (w2.alloc (.cells #[.int .i64 W, .int .i64 H, .slice A2 fl.length c2] 25)) := (Below.refl _ w2).alloc (Nat.le_refl _) _
  have hy3 : RasAtB (w2.alloc (.cells #[.int .i64 W, .int .i64 H, .slice A2 fl.length c2] 25)) w2.heap.size W H A2 fl.length c2 25 := heap_alloc_new w2 _
  have C3 := Lib.hid (CF.out A2 c2 _ hc2 (ho2.below b3 (Nat.le_refl _)).reads)
  have b03 := b2.trans (b3.mono b2.size)
  have HX3 := Lib.hid (HX0.out.below b03 HX0.out.lt)
  have HB3 := Lib.hid b03
  clear C CF ho2 b2 b3 hc2 b03
  go_wp2_with fail
  generalize w2.alloc (.cells #[.int .i64 W, .int .i64 H, .slice A2 fl.length c2] 25) = w3 at *
  refine C3.out.mono ?_
  rintro e w4 ⟨A4, c4, rfl, hc4, ho4, b4⟩
  unfold rasV
  have hx4 := HX3.out.below b4 HX3.out.lt
  have HF := Lib.hid (gotR_fin (W := W) (H := H) (w := w) (w0 := w3) hx4 HX3.out.lt (by omega) hc4 ho4 ((HB0.out.trans (HB3.out.mono HB0.out.size)).trans (b4.mono (Nat.le_trans HB0.out.size HB3.out.size))) (Nat.le_trans HB0.out.size HB3.out.size))
  have r0 := hx4.c0
  have r1 := hx4.c1
  have r2 := hx4.c2
  have q0 : w4.frozen? ⟨w.heap.size + 1, 0, none⟩ = false := hx4.free 0
  have q1 : w4.frozen? ⟨w.heap.size + 1, 1, none⟩ = false := hx4.free 1
  have q2 : w4.frozen? ⟨w.heap.size + 1, 2, none⟩ = false := hx4.free 2
  clear ho4 b4 hx4 C3 HB0 HX0 HX3 HB3 hy3
  go_wp2_with fail
  (try simp only [Exit.inBlock, Exit.then])
  exact bodyPost_ret (results_row_tmp rfl _ _ (w.heap.size + 1) 25 #[.int .i64 W, .int .i64 H, .slice A4 l.length c4] (0, 0) _ (.bool true) rfl rfl HF.out.1 Try.underlying25 rfl (by kernel_rfl)) rfl HF.out.2
set_option maxHeartbeats 1000000 in
theorem packRead_ok (W H : Int) (l : List Px) (A : Option Addr) (c : Nat) (w : World) (hok : rasB W H l = true) (h : Has w w.heap.size A (pakPutB (rasBy W H l))) :
    Calls Try.prog 119 #[.agg #[], .slice A (pakPutB (rasBy W H l)).length c] w (GotR W H l w) := by
  have hle := rasBy_le hok
  have hle2 := bodyB_le (k := 80) hok
  have hinv := pak_inv (l := rasBy W H l) (by omega)
  have hb0 : Below w.heap.size w ((w.alloc (.cells #[] 82)).alloc (.cells #[.int .i64 0, .int .i64 0, .slice none 0 0] 25)) := ((Below.refl _ w).alloc (Nat.le_refl _) _).alloc (by simp) _
  have hx0 : RasAtB ((w.alloc (.cells #[] 82)).alloc (.cells #[.int .i64 0, .int .i64 0, .slice none 0 0] 25)) (w.heap.size + 1) 0 0 none 0 0 25 := by
    have := heap_alloc_new (w.alloc (.cells #[] 82)) (.cells #[.int .i64 0, .int .i64 0, .slice none 0 0] 25)
    rw [show (w.alloc (.cells #[] 82)).heap.size = w.heap.size + 1 from by simp] at this
    exact this
  have hl2 : (pakPutB (rasBy W H l)).length ≤ 1073741824 := by
    have : (pakPutB (rasBy W H l)).length ≤ 182 := hle2
    omega
  have CP := Lib.hid (implPakGet_if A c (pakPutB (rasBy W H l)) _ hl2 ((h.below hb0).wider hb0.size) (fun e => by rw [hinv] at e; cases e))
  unfold PakGOut at CP
  rw [hinv] at CP
  simp only [Option.getD_some, Option.isSome_some] at CP
  have C := Lib.hid fun A c W0 hc hh => rasRead_ok W H l A c W0 hok hc hh
  have HB0 := Lib.hid hb0
  have HX0 := Lib.hid hx0
  generalize rasBy W H l = r at *
  generalize pakPutB r = pr at *
  clear h hb0 hok hx0 hle hle2 hinv hl2
  go_enter Try.func119, Try.ntmps119
  go_wp2_with fail
  generalize (w.alloc (.cells #[] 82)).alloc (.cells #[.int .i64 0, .int .i64 0, .slice none 0 0] 25) = w0 at *
  refine CP.out.mono ?_
  rintro e w1 ⟨v1, rfl, ho1, b1⟩
  obtain ⟨A1, c1, rfl, hc1, h1⟩ := ho1.has
  have C1 := Lib.hid (C.out A1 c1 w1 hc1 h1)
  have HX1 := Lib.hid (HX0.out.below b1 HX0.out.lt)
  have HB1 := Lib.hid b1
  clear C CP ho1 b1 hc1 h1
  go_wp2_with fail
  refine C1.out.mono ?_
  rintro e w2 ⟨A2, c2, rfl, hc2, ho2, b2⟩
  have hx2 := HX1.out.below b2 HX1.out.lt
  have HF := Lib.hid (gotR_fin (W := W) (H := H) (w := w) (w0 := w1) hx2 HX1.out.lt (by omega) hc2 ho2 ((HB0.out.trans (HB1.out.mono HB0.out.size)).trans (b2.mono (Nat.le_trans HB0.out.size HB1.out.size))) (Nat.le_trans HB0.out.size HB1.out.size))
  have r0 := hx2.c0
  have r1 := hx2.c1
  have r2 := hx2.c2
  have q0 : w2.frozen? ⟨w.heap.size + 1, 0, none⟩ = false := hx2.free 0
  have q1 : w2.frozen? ⟨w.heap.size + 1, 1, none⟩ = false := hx2.free 1
  have q2 : w2.frozen? ⟨w.heap.size + 1, 2, none⟩ = false := hx2.free 2
  clear ho2 b2 hx2 C1 HB0 HX0 HX1 HB1
  go_wp2_with fail
  (try simp only [Exit.inBlock, Exit.then])
  exact bodyPost_ret (results_row_tmp rfl _ _ (w.heap.size + 1) 25 #[.int .i64 W, .int .i64 H, .slice A2 l.length c2] (0, 0) _ (.bool true) rfl rfl HF.out.1 Try.underlying25 rfl (by kernel_rfl)) rfl HF.out.2
end Go.Proofs.Ytnnpjcbdcjdojaa
namespace Go.Proofs.Ytnnpjcbdcjdojaa
open Go.RowKit

theorem flat_rep (p : Px) : ∀ m, (List.replicate m p).flatMap pxB = Lib.repeatL (pxB p) m
  | 0 => rfl
  | m + 1 => by rw [List.replicate_succ, List.flatMap_cons, flat_rep p m]; rfl
theorem run_flat (p : Px) (r : List Px) : ((p :: r).take (1 + sameN p r)).flatMap pxB = Lib.repeatL (pxB p) (1 + sameN p r) := by
  rw [Nat.add_comm, List.take_succ_cons, sameN_take, ← List.replicate_succ, flat_rep]
theorem runsFit_ok (A : Option Addr) (c n R : Nat) (w : World) (hn : n = 2 + 5 * R) (hR : R ≤ 36) :
    Calls Try.prog 111 #[.slice A n c] w fun e w' => e = .returned (.bool true) ∧ w = w' := by
  have h1 : (n : Int) - 2 = ((5 * R : Nat) : Int) := by omega
  have h2 : ((5 * R : Nat) : Int) % 5 = 0 := by omega
  have h2t : ((5 * R : Nat) : Int).tmod 5 = 0 := by rw [Int.tmod_eq_emod_of_nonneg (by omega)]; exact h2
  have h3 : ((5 * R : Nat) : Int) / 5 = (R : Int) := by omega
  have h3t : ((5 * R : Nat) : Int).tdiv 5 = (R : Int) := by rw [Int.tdiv_eq_ediv_of_nonneg (by omega)]; exact h3
  have h4 : (R : Int) ≤ 36 := by omega
  have h5 : 0 ≤ ((5 * R : Nat) : Int) := by omega
  have h6 : ((5 * R : Nat) : Int) ≤ 180 := by omega
  generalize 5 * R = q at *
  clear hn hR
  go_enter Try.func111, Try.ntmps111
  go_wp2_with fail
  go_ret
  exact ⟨rfl, rfl⟩
set_option maxHeartbeats 1000000 in
theorem clone_any (b o c n : Nat) (m : List UInt8) (w : World) (hn : m.length = n) (hs : m.length ≤ 1000) (h : Has w w.heap.size (some ⟨b, o, none⟩) m) :
    Calls Try.prog 112 #[.slice (some ⟨b, o, none⟩) n c] w (Bodied m w) := by
  have hb0 : Below w.heap.size w (w.alloc (.cells #[] 5)) := (Below.refl _ w).alloc (Nat.le_refl _) _
  have HH := Lib.hid (h.below hb0)
  have HB0 := Lib.hid hb0
  have HS := Lib.hid hs
  have HN := Lib.hid hn
  have HO0 : Hid (Own (w.alloc (.cells #[] 5)) w.heap.size (.slice (some ⟨w.heap.size, 0, none⟩) 0 0) []) := Lib.hid ⟨rfl, .inr ⟨w.heap.size, 0, _, rfl, Nat.le_refl _, heap_alloc_new w _, Nat.le_refl _, by unfold maxLen; omega, rfl, rfl⟩⟩
  have q22 : ∀ (w : World) (a : Option Addr) (n c n' c' : Nat), (binOp .eql 22 (.slice a n c) (.slice none n' c')).run Try.prog w = .ok (.bool a.isNone) w := fun w a n c n' c' => Lib.run_eql_slice_nil w _ _ a n c n' c' Try.underlying22
  clear h hb0 hs hn
  go_enter Try.func112, Try.ntmps112
  go_wp2_with (at_builtin; refine wpList_pushAll rfl (.tmp 5) (.tmp 6) rfl w.heap.size (.slice (some ⟨w.heap.size, 0, none⟩) 0 0) [] rfl HO0.out w.heap.size (some ⟨b, o, none⟩) c m (by rw [HN.out]; rfl) HH.out (by have := HS.out; simp; omega) HB0.out.size ?_; intro v1 w1 ho1 hg1)
  have HF : Hid (Bodied m w (.returned v1) w1) := Lib.hid ⟨v1, rfl, by simpa using ho1, HB0.out.grown hg1 HB0.out.size (fun q hq => (World.ownsRow.lt HO0.out q hq).1)⟩
  clear ho1 hg1 HO0 HH
  go_wp2_with fail
  go_ret
  exact HF.out
set_option maxHeartbeats 2000000 in
theorem runsRead_ok (W H : Int) (l : List Px) (A : Option Addr) (c : Nat) (w : World) (hok : rasB W H l = true) (hc : (runsB W H l).length ≤ c) (h : Has w w.heap.size A (runsB W H l)) :
    Calls Try.prog 109 #[.agg #[], .slice A (runsB W H l).length c] w (GotR W H l w) := by
  obtain ⟨hW, hH, hl, ha⟩ := rasB_parts hok
  have h36 := mul36 hW hH
  obtain ⟨p0, l0, rfl⟩ : ∃ p r, l = p :: r := by
    cases l with
    | nil => simp at hl; omega
    | cons p r => exact ⟨p, r, rfl⟩
  have hrl := runsP_length l0.length p0 l0 (Nat.le_refl _)
  have hcg := chg_le p0 l0
  have hlen : (runsB W H (p0 :: l0)).length = 2 + 5 * (1 + chg p0 l0) := by unfold runsB; rw [List.length_append, hrl]; rfl
  have hL36 : (p0 :: l0).length ≤ 36 := by omega
  have hR36 : 1 + chg p0 l0 ≤ 36 := by simp at hL36; omega
  obtain ⟨b, o, x0, rfl, -, -, -⟩ := h.spot (k := 0) (by omega)
  have hb0 : Below w.heap.size w ((w.alloc (.cells #[] 81)).alloc (.cells #[.int .i64 0, .int .i64 0, .slice none 0 0] 25)) := ((Below.refl _ w).alloc (Nat.le_refl _) _).alloc (by simp) _
  have hx0 : RasAtB ((w.alloc (.cells #[] 81)).alloc (.cells #[.int .i64 0, .int .i64 0, .slice none 0 0] 25)) (w.heap.size + 1) 0 0 none 0 0 25 := by
    have := heap_alloc_new (w.alloc (.cells #[] 81)) (.cells #[.int .i64 0, .int .i64 0, .slice none 0 0] 25)
    rw [show (w.alloc (.cells #[] 81)).heap.size = w.heap.size + 1 from by simp] at this
    exact this
  generalize hL : p0 :: l0 = l at *
  obtain ⟨n, hn⟩ : ∃ n, (runsB W H l).length = n := ⟨_, rfl⟩
  have hnv : n = 2 + 5 * (1 + chg p0 l0) := by rw [← hn]; exact hlen
  have hh0 := (h.below hb0).wider hb0.size
  have HD : Hid (Has ((w.alloc (.cells #[] 81)).alloc (.cells #[.int .i64 0, .int .i64 0, .slice none 0 0] 25)) w.heap.size (some ⟨b, o + 2, none⟩) (runsP l)) := Lib.hid ((h.below hb0).dropAt 2)
  have CF := Lib.hid fun w => runsFit_ok (some ⟨b, o, none⟩) c n (1 + chg p0 l0) w hnv hR36
  have CC := Lib.hid (clone_any b o c 2 [pb W, pb H] _ rfl (by simp) (hh0.take 2))
  have C := Lib.hid fun A c W0 hc hh => rasRead_ok W H l A c W0 hok hc hh
  have HB0 := Lib.hid hb0
  have HX0 := Lib.hid hx0
  have HL36 := Lib.hid hL36
  rw [hn] at hc ⊢
  have HNL : Hid ((runsP l).length = n - 2) := Lib.hid (by
    have := hn
    unfold runsB at this
    rw [List.length_append] at this
    simp at this
    omega)
  have hn7 : 7 ≤ (n : Int) := by omega
  have hcI : (n : Int) ≤ (c : Int) := by omega
  have hc2 : 2 < (c : Int) := by omega
  have hn182 : (n : Int) ≤ 1000 := by have := bodyB_le (k := 82) hok; have e : (bodyB 82 W H l).length = n := hn; omega
  have HCN : Hid (n ≤ c) := Lib.hid hc
  clear h hb0 hok hc hx0 hh0 hlen hL hrl hcg ha hl h36 hnv hn hL36 hR36
  go_enter Try.func109, Try.ntmps109
  go_wp2_with fail
  generalize (w.alloc (.cells #[] 81)).alloc (.cells #[.int .i64 0, .int .i64 0, .slice none 0 0] 25) = w0 at *
  refine (CF.out _).mono ?_
  rintro e w' ⟨rfl, rfl⟩
  go_wp2_with fail
  refine CC.out.mono ?_
  rintro e w1 ⟨v1, rfl, ho1, b1⟩
  have HO1 := Lib.hid ho1
  have HB1 := Lib.hid b1
  clear ho1 b1 CC CF
  go_wp2_with fail
  go_loopw [6, 7, 8] (fun v6 v7 _ wr => ∃ (k : Nat) (cur : List UInt8) (A' : Option Addr) (c' : Nat), k ≤ l.length ∧ v7 = .slice A' (runsP (l.drop k)).length c' ∧ (runsP (l.drop k)).length ≤ c' ∧ Has w0 w.heap.size A' (runsP (l.drop k)) ∧ Own wr w0.heap.size v6 cur ∧ cur = rasBy W H (l.take k) ∧ Below w0.heap.size w0 wr) (fun _ v7 _ _ => lenR v7)
  case atStart => exact ⟨0, [pb W, pb H], some ⟨b, o + 2, none⟩, c - 2, Nat.zero_le _, by rw [List.drop_zero, HNL.out], by rw [List.drop_zero, HNL.out]; have := HCN.out; omega, HD.out, HO1.out, rfl, HB1.out⟩
  case round =>
    clear HO1 HB1 HD HNL HCN hn7 hcI hc2 hn182
    obtain ⟨k, cur, A', c', hk, rfl, hrc, hrd, hown, hcur, hbel⟩ := hrel
    have hx := HX0.out.below hbel HX0.out.lt
    cases hr : l.drop k with
    | nil =>
      have hkN : l.take k = l := List.take_of_length_le (by have := congrArg List.length hr; rw [List.length_drop] at this; simp at this; omega)
      rw [hkN] at hcur
      obtain ⟨A1, c1, rfl, hc1, h1⟩ := hown.has
      subst hcur
      have C1 := Lib.hid (C.out A1 c1 wr hc1 h1)
      have HX1 := Lib.hid hx
      have HB1 := Lib.hid hbel
      rw [runsP_nil]
      generalize rasBy W H l = rb at *
      clear C hrc hrd hown hbel hx h1 hc1 hr hkN
      go_wp2_with fail
      refine C1.out.mono ?_
      rintro e w2 ⟨A2, c2, rfl, hc2, ho2, b2⟩
      have hx2 := HX1.out.below b2 HX1.out.lt
      have HF := Lib.hid (gotR_fin (W := W) (H := H) (w := w) (w0 := wr) hx2 HX1.out.lt (by omega) hc2 ho2 ((HB0.out.trans (HB1.out.mono HB0.out.size)).trans (b2.mono (Nat.le_trans HB0.out.size HB1.out.size))) (Nat.le_trans HB0.out.size HB1.out.size))
      have r0 := hx2.c0
      have r1 := hx2.c1
      have r2 := hx2.c2
      have q0 : w2.frozen? ⟨w.heap.size + 1, 0, none⟩ = false := hx2.free 0
      have q1 : w2.frozen? ⟨w.heap.size + 1, 1, none⟩ = false := hx2.free 1
      have q2 : w2.frozen? ⟨w.heap.size + 1, 2, none⟩ = false := hx2.free 2
      clear ho2 b2 hx2 C1 HB0 HX0 HX1 HB1
      go_wp2_with fail
      (try simp only [Exit.inBlock, Exit.then])
      exact bodyPost_ret (results_row_tmp rfl _ _ (w.heap.size + 1) 25 #[.int .i64 W, .int .i64 H, .slice A2 l.length c2] (0, 0) _ (.bool true) rfl rfl HF.out.1 Try.underlying25 rfl (by kernel_rfl)) rfl HF.out.2
    | cons p r =>
      rw [hr] at hrc hrd
      have hRC := runsP_cons p r
      have hsl := sameN_le p r
      obtain ⟨m, hm⟩ : ∃ m, 1 + sameN p r = m := ⟨_, rfl⟩
      have hrl : r.length + 1 + k = l.length := by
        have := congrArg List.length hr
        rw [List.length_drop] at this
        simp at this
        omega
      have hm36 : m ≤ 36 := by have := HL36.out; omega
      have hm1 : 1 ≤ m := by omega
      have hdr : r.drop (sameN p r) = l.drop (k + m) := by
        rw [← List.drop_drop, hr, ← hm, Nat.add_comm 1, List.drop_succ_cons]
      rw [hdr, hm] at hRC
      obtain ⟨q, hq⟩ : ∃ q, (runsP (l.drop (k + m))).length = q := ⟨_, rfl⟩
      have hNl : (runsP (p :: r)).length = 5 + q := by rw [hRC]; simp [pxB, hq]; omega
      rw [hNl] at hrc ⊢
      obtain ⟨b', o', x', rfl, hbB, hx1, hc1⟩ := hrd.spot (k := 0) (by rw [hNl]; omega)
      have hxe : x' = UInt8.ofNat m := by rw [hRC] at hx1; simpa using hx1.symm
      rw [hxe, by_of m (by omega), Nat.add_zero] at hc1
      have hcw : wr.cell? ⟨b', o', none⟩ = some (.int .u8 (m : Int)) := by
        rw [← hc1]
        exact hbel.cell (Nat.lt_of_lt_of_le hbB HB0.out.size)
      have hpx : Has w0 w.heap.size (some ⟨b', o' + 1, none⟩) (pxB p) := by
        have := (hrd.dropAt 1).take 4
        rw [hRC] at this
        simpa [pxB] using this
      have hpw := (hpx.kept (w' := wr) fun a ha => hbel.cell (Nat.lt_of_lt_of_le ha HB0.out.size)).wider (Nat.le_trans HB0.out.size hbel.size)
      have CR := Lib.hid (repeat_four b' (o' + 1) (c' - 1) m (pxB p) wr rfl hm1 hm36 hpw)
      have HRL : Hid ((Lib.repeatL (pxB p) m).length = 4 * m) := Lib.hid (by rw [Lib.repeatL_length]; simp [pxB]; omega)
      have HNX : Hid (rasBy W H (l.take k) ++ Lib.repeatL (pxB p) m = rasBy W H (l.take (k + m))) := Lib.hid (by
        have e1 : l.take (k + m) = l.take k ++ (p :: r).take m := by rw [List.take_add, hr]
        rw [e1]
        unfold rasBy
        rw [List.flatMap_append, ← hm, run_flat, List.append_assoc])
      have HDD : Hid (Has w0 w.heap.size (some ⟨b', o' + 5, none⟩) (runsP (l.drop (k + m)))) := Lib.hid (by
        have := hrd.dropAt 5
        rw [hRC] at this
        simpa [pxB] using this)
      have HOW := Lib.hid hown
      have HCUR := Lib.hid hcur
      have HB := Lib.hid hbel
      have HQ := Lib.hid hq
      have HK : Hid (k + m ≤ l.length) := Lib.hid (by omega)
      have hcl : cur.length ≤ 146 := by rw [hcur, rasBy_length, List.length_take]; have := HL36.out; omega
      have HCL := Lib.hid hcl
      have hmI : 1 ≤ (m : Int) ∧ (m : Int) ≤ 36 := by omega
      have hm0 : ((m : Int) == 0) = false := beq_eq_false_iff_ne.2 (by omega)
      have hqI : (5 : Int) + (q : Int) ≤ (c' : Int) := by omega
      have hqc : ((5 + q : Nat) : Int) = 5 + (q : Int) := by omega
      have hc5 : (5 : Int) ≤ (c' : Int) := by omega
      generalize Lib.repeatL (pxB p) m = rp at *
      clear hrd hown hcur hbel hx hr hRC hsl hm hrl hdr hq hNl hx1 hxe hc1 hpx hpw hcl C hm36 hm1
      go_wp2_with fail
      refine CR.out.mono ?_
      rintro e w3 ⟨rfl, h3, b3⟩
      have HO3 := Lib.hid (HOW.out.below b3 (Nat.le_refl _))
      have HB3 := Lib.hid (HB.out.trans (b3.mono HB.out.size))
      have HH3 := Lib.hid h3
      have HZ := Lib.hid HB3.out.size
      clear h3 b3 CR HOW HB
      go_wp2_with (at_builtin; refine wpList_pushAll rfl (.tmp 30) (.tmp 34) rfl w0.heap.size u6 cur rfl HO3.out w3.heap.size (some ⟨wr.heap.size, 0, none⟩) (4 * m) rp (by rw [HRL.out]; rfl) HH3.out (by have := HCL.out; have := HRL.out; omega) HZ.out ?_; intro v4 w4 ho4 hg4)
      have HB4 := Lib.hid (HB3.out.grown hg4 HZ.out (fun q hq => (World.ownsRow.lt HO3.out q hq).1))
      have HO4 := Lib.hid ho4
      clear ho4 hg4 HO3 HB3 HH3
      have HNC : Hid (cur ++ rp = rasBy W H (l.take (k + m))) := Lib.hid (by rw [HCUR.out]; exact HNX.out)
      by_cases hcm : c' = 5
      · have hq0 : q = 0 := by omega
        subst hcm hq0
        clear hqI hqc
        go_wp2_with fail
        go_roundw
        case rel => exact ⟨k + m, HK.out, cur ++ rp, some ⟨b', o', none⟩, 0, by rw [HQ.out]; simp, by rw [HQ.out]; omega, .inl (List.eq_nil_of_length_eq_zero HQ.out), HO4.out, HNC.out, HB4.out⟩
        case measure => simp [lenR]
      · have hcmI : (5 : Int) < (c' : Int) := by omega
        go_wp2_with fail
        go_roundw
        case rel => exact ⟨k + m, HK.out, cur ++ rp, some ⟨b', o' + 5, none⟩, c' - 5, by rw [HQ.out]; simp, by rw [HQ.out]; omega, HDD.out, HO4.out, HNC.out, HB4.out⟩
        case measure => simp [lenR]
end Go.Proofs.Ytnnpjcbdcjdojaa
namespace Go.Proofs.Ytnnpjcbdcjdojaa
open Go.RowKit

section
variable {P : Program} {ops : Array Oper} {Q : Exit → Act → World → Prop} {md : Region.Mode} {S : World → Prop}
/-- Number i first: its slot told apart. -/
theorem wpAnyH_takeD {i d : Nat} {oi : Oper} {v : Value} {fuel : Nat} {listed : Array Bool} {a : Act} {w : World} (hi : ops[i]? = some oi) (hd : oi.dst = some d)
    (hs : Region.noSelect ops = true) (hf : Region.free md ops listed i = true) (hr : (Region.ready md ops listed).contains i = true)
    (hQ : ∀ c a w, Q (.panic c) (a.put (some d) v) w → Q (.panic c) a w) (hS : S w) (hy : YieldsIf P ops S oi v a)
    (h : wpAnyH P md ops Q S fuel (listed.setIfInBounds i true) (a.put (some d) v) w) : wpAnyH P md ops Q S (fuel + 1) listed a w :=
  wpAnyH_take hi hs hf hr (by rw [hd]; exact hQ) hy hS (by rw [hd]; exact h)
/-- One alone may come up. -/
theorem wpAnyH_one {i : Nat} {o : Oper} {fuel : Nat} {listed : Array Bool} {a : Act} {w : World} (hr : Region.ready md ops listed = [i]) (ho : ops[i]? = some o)
    (h : ∀ K : Act → World → Prop, Hid (∀ a' w', S w' → wpAnyH P md ops Q S fuel (listed.setIfInBounds i true) a' w' → K a' w') → if Region.wanted o (yielded ops a.tmps) = true then o.wp P a w K Q else K (a.put o.dst undef) w) : wpAnyH P md ops Q S (fuel + 1) listed a w := by
  refine ⟨fun h0 => (by rw [hr] at h0; cases h0), fun j hj => ?_⟩
  rw [hr, List.mem_singleton] at hj
  subst hj
  have := h (fun a' w' => S w' ∧ wpAnyH P md ops Q S fuel (listed.setIfInBounds j true) a' w') (Lib.hid fun a' w' h1 h2 => ⟨h1, h2⟩)
  unfold wpOp
  rw [ho]
  dsimp only
  split
  · rename_i hw
    rw [if_pos hw] at this
    exact .inl this
  · rename_i hw
    rw [if_neg hw] at this
    exact this
/-- Two may come up. -/
theorem wpAnyH_two {i j : Nat} {o o2 : Oper} {fuel : Nat} {listed : Array Bool} {a : Act} {w : World} (hr : Region.ready md ops listed = [i, j]) (ho : ops[i]? = some o) (ho2 : ops[j]? = some o2)
    (h : ∀ K : Act → World → Prop, Hid (∀ a' w', S w' → wpAnyH P md ops Q S fuel (listed.setIfInBounds i true) a' w' → K a' w') → if Region.wanted o (yielded ops a.tmps) = true then o.wp P a w K Q else K (a.put o.dst undef) w)
    (h2 : ∀ K : Act → World → Prop, Hid (∀ a' w', S w' → wpAnyH P md ops Q S fuel (listed.setIfInBounds j true) a' w' → K a' w') → if Region.wanted o2 (yielded ops a.tmps) = true then o2.wp P a w K Q else K (a.put o2.dst undef) w) : wpAnyH P md ops Q S (fuel + 1) listed a w := by
  refine ⟨fun h0 => (by rw [hr] at h0; cases h0), fun k hk => ?_⟩
  rw [hr] at hk
  have hk2 : k = i ∨ k = j := by simpa using hk
  rcases hk2 with rfl | rfl
  · have := h (fun a' w' => S w' ∧ wpAnyH P md ops Q S fuel (listed.setIfInBounds k true) a' w') (Lib.hid fun a' w' h1 h2 => ⟨h1, h2⟩)
    unfold wpOp
    rw [ho]
    dsimp only
    split
    · rename_i hw
      rw [if_pos hw] at this
      exact .inl this
    · rename_i hw
      rw [if_neg hw] at this
      exact this
  · have := h2 (fun a' w' => S w' ∧ wpAnyH P md ops Q S fuel (listed.setIfInBounds k true) a' w') (Lib.hid fun a' w' h1 h2 => ⟨h1, h2⟩)
    unfold wpOp
    rw [ho2]
    dsimp only
    split
    · rename_i hw
      rw [if_pos hw] at this
      exact .inl this
    · rename_i hw
      rw [if_neg hw] at this
      exact this
end
end Go.Proofs.Ytnnpjcbdcjdojaa
namespace Go.Proofs.Ytnnpjcbdcjdojaa
open Go.RowKit

theorem bytesEqual_same (A A' : Option Addr) (n c c' B B' : Nat) (l : List UInt8) (w : World) (hn : l.length = n) (h : Has w B A l) (h' : Has w B' A' l) :
    Calls Try.prog 68 #[.slice A n c, .slice A' n c'] w fun e w' => e = .returned (.bool true) ∧ w = w' := by
  subst hn
  have t1 := text_of_has h c
  have t2 := text_of_has h' c'
  clear h h'
  go_enter Try.func68, Try.ntmps68
  go_wp2
  go_ret
  exact ⟨rfl, rfl⟩
/-- What formBody finds. -/
def BodyAt (body : List UInt8) (w : World) (e : Ending) (w' : World) : Prop := ∃ A c, e = .returned (.tuple #[.slice A body.length c, .bool true]) ∧ body.length ≤ c ∧ Has w' w'.heap.size A body ∧ Below w.heap.size w w'
set_option maxHeartbeats 400000 in
theorem formBody_walk (b o c n S E N B : Nat) (body sm : List UInt8) (w : World) (hS : 2 + (n : Int) = (S : Int)) (hE : (N : Int) - 4 = (E : Int)) (hB : E - S = B) (hn9 : (n : Int) ≤ 9) (hSE : (S : Int) ≤ (E : Int)) (hEN : (E : Int) ≤ (N : Int)) (hNc : (N : Int) ≤ (c : Int)) (hN : (N : Int) ≤ 1000) (hN2 : 2 ≤ (N : Int)) (hN4 : N - E = 4)
    (hc1 : w.cell? ⟨b, o + 1, none⟩ = some (.int .u8 (n : Int)))
    (CS : Hid (Calls Try.prog 45 #[.slice (some ⟨b, o + S, none⟩) B (c - S)] w.drew fun e w' => ∃ A c, e = .returned (.slice A 4 c) ∧ Own w' w.drew.heap.size (.slice A 4 c) sm ∧ Below w.drew.heap.size w.drew w'))
    (CE : Hid (∀ A c' W0, Has W0 w.heap.size (some ⟨b, o + E, none⟩) sm → Has W0 W0.heap.size A sm → Calls Try.prog 68 #[.slice (some ⟨b, o + E, none⟩) 4 (c - E), .slice A 4 c'] W0 fun e w' => e = .returned (.bool true) ∧ W0 = w'))
    (HSM : Hid (Has w w.heap.size (some ⟨b, o + E, none⟩) sm))
    (HFB : Hid (∀ W0 : World, Below w.heap.size w W0 → BodyAt body w (.returned (.tuple #[.slice (some ⟨b, o + S, none⟩) B (c - S), .bool true])) W0)) :
    Calls Try.prog 51 #[.slice (some ⟨b, o, none⟩) N c] w (BodyAt body w) := by
  have hgd : decide (E < S) = false := decide_eq_false (by omega)
  have hSc : (S : Int) < (c : Int) := by omega
  have hEc : (E : Int) < (c : Int) := by omega
  have hEc' : (E : Int) ≤ (c : Int) := by omega
  go_enter Try.func51, Try.ntmps51
  go_wp2_with fail
  refine wp_region_held_drew (S := fun _ => True) (by kernel_rfl) trivial fun _ => ?_
  generalize hwd : w.drew = wd at *
  refine wpAnyH_takeD (i := 0) (d := 23) (v := .int .i64 (S : Int)) rfl rfl (by kernel_rfl) (by kernel_rfl) (by kernel_rfl) (fun _ _ _ h => h) trivial (Or.inl ⟨by rfl, fun w' hS' => ?_⟩) ?_
  · go_simp
  simp only [Act.put, List.setIfInBounds_toArray, List.set_cons_zero, List.set_cons_succ]
  refine wpAnyH_takeD (i := 1) (d := 24) (v := .int .i64 (E : Int)) rfl rfl (by kernel_rfl) (by kernel_rfl) (by kernel_rfl) (fun _ _ _ h => h) trivial (Or.inl ⟨by rfl, fun w' hS' => ?_⟩) ?_
  · go_simp
  simp only [Act.put, List.setIfInBounds_toArray, List.set_cons_zero, List.set_cons_succ]
  refine wpAnyH_takeD (i := 2) (d := 25) (v := .bool false) rfl rfl (by kernel_rfl) (by kernel_rfl) (by kernel_rfl) (fun _ _ _ h => h) trivial (Or.inl ⟨by rfl, fun w' hS' => ?_⟩) ?_
  · go_simp
  simp only [Act.put, List.setIfInBounds_toArray, List.set_cons_zero, List.set_cons_succ]
  refine wpAnyH_takeD (i := 3) (d := 26) (v := .bool false) rfl rfl (by kernel_rfl) (by kernel_rfl) (by kernel_rfl) (fun _ _ _ h => h) trivial (Or.inl ⟨by rfl, fun w' hS' => ?_⟩) ?_
  · go_simp
  simp only [Act.put, List.setIfInBounds_toArray, List.set_cons_zero, List.set_cons_succ]
  refine wpAnyH_takeD (i := 4) (d := 27) (v := .slice (some ⟨b, o, none⟩) N c) rfl rfl (by kernel_rfl) (by kernel_rfl) (by kernel_rfl) (fun _ _ _ h => h) trivial (Or.inl ⟨by rfl, fun w' hS' => ?_⟩) ?_
  · go_simp
  simp only [Act.put, List.setIfInBounds_toArray, List.set_cons_zero, List.set_cons_succ]
  refine wpAnyH_takeD (i := 5) (d := 28) (v := .int .i64 (E : Int)) rfl rfl (by kernel_rfl) (by kernel_rfl) (by kernel_rfl) (fun _ _ _ h => h) trivial (Or.inl ⟨by rfl, fun w' hS' => ?_⟩) ?_
  · go_simp
  simp only [Act.put, List.setIfInBounds_toArray, List.set_cons_zero, List.set_cons_succ]
  refine wpAnyH_takeD (i := 6) (d := 29) (v := .slice (some ⟨b, o + E, none⟩) 4 (c - E)) rfl rfl (by kernel_rfl) (by kernel_rfl) (by kernel_rfl) (fun _ _ _ h => h) trivial (Or.inl ⟨by rfl, fun w' hS' => ?_⟩) ?_
  · go_simp
    omega
  simp only [Act.put, List.setIfInBounds_toArray, List.set_cons_zero, List.set_cons_succ]
  refine wpAnyH_takeD (i := 7) (d := 30) (v := .slice (some ⟨b, o, none⟩) N c) rfl rfl (by kernel_rfl) (by kernel_rfl) (by kernel_rfl) (fun _ _ _ h => h) trivial (Or.inl ⟨by rfl, fun w' hS' => ?_⟩) ?_
  · go_simp
  simp only [Act.put, List.setIfInBounds_toArray, List.set_cons_zero, List.set_cons_succ]
  refine wpAnyH_takeD (i := 8) (d := 31) (v := .int .i64 (S : Int)) rfl rfl (by kernel_rfl) (by kernel_rfl) (by kernel_rfl) (fun _ _ _ h => h) trivial (Or.inl ⟨by rfl, fun w' hS' => ?_⟩) ?_
  · go_simp
  simp only [Act.put, List.setIfInBounds_toArray, List.set_cons_zero, List.set_cons_succ]
  refine wpAnyH_takeD (i := 9) (d := 32) (v := .int .i64 (E : Int)) rfl rfl (by kernel_rfl) (by kernel_rfl) (by kernel_rfl) (fun _ _ _ h => h) trivial (Or.inl ⟨by rfl, fun w' hS' => ?_⟩) ?_
  · go_simp
  simp only [Act.put, List.setIfInBounds_toArray, List.set_cons_zero, List.set_cons_succ]
  refine wpAnyH_takeD (i := 10) (d := 33) (v := .slice (some ⟨b, o + S, none⟩) B (c - S)) rfl rfl (by kernel_rfl) (by kernel_rfl) (by kernel_rfl) (fun _ _ _ h => h) trivial (Or.inl ⟨by rfl, fun w' hS' => ?_⟩) ?_
  · go_simp
    omega
  simp only [Act.put, List.setIfInBounds_toArray, List.set_cons_zero, List.set_cons_succ]
  refine wpAnyH_one (i := 11) (by kernel_rfl) rfl (fun K hK => ?_)
  go_simp
  refine CS.out.mono ?_
  rintro e w2 ⟨A2, c2, rfl, ho2, b2⟩
  subst hwd
  have HB2 := Lib.hid (show Below w.heap.size w w2 from (below_drew1 (Below.refl _ w)).trans b2)
  have CE2 := Lib.hid (CE.out A2 c2 w2 (HSM.out.below HB2.out) ho2.reads)
  refine hK.out _ _ trivial ?_
  clear hK b2 CS CE ho2
  refine wpAnyH_one (i := 12) (by kernel_rfl) rfl (fun K hK => ?_)
  go_simp
  refine CE2.out.mono ?_
  rintro e w3 ⟨rfl, rfl⟩
  refine hK.out _ _ trivial ?_
  clear hK CE2
  refine wpAnyH_one (i := 13) (by kernel_rfl) rfl (fun K hK => ?_)
  go_simp
  refine hK.out _ _ trivial ?_
  clear hK
  refine wpAnyH_one (i := 14) (by kernel_rfl) rfl (fun K hK => ?_)
  go_simp
  refine hK.out _ _ trivial ?_
  clear hK
  refine wpAnyH_done (by kernel_rfl) ?_ _
  go_wp2_with fail
  go_ret2
  exact HFB.out _ HB2.out
theorem formBody_ok (b o c n N : Nat) (k : UInt8) (note body : List UInt8) (w : World) (hn : note.length = n) (hn9 : n ≤ 9) (hbl : body.length ≤ 182) (hN : (([k, UInt8.ofNat n] ++ note) ++ body ++ sum4 (sumN body)).length = N) (hc : N ≤ c)
    (h : Has w w.heap.size (some ⟨b, o, none⟩) (([k, UInt8.ofNat n] ++ note) ++ body ++ sum4 (sumN body))) :
    Calls Try.prog 51 #[.slice (some ⟨b, o, none⟩) N c] w (BodyAt body w) := by
  have hNv : N = 6 + n + body.length := by rw [← hN]; simp [sum4, hn]; omega
  obtain ⟨b1, o1, x1, e1, hbB, hx1, hc1⟩ := h.spot (k := 1) (by omega)
  injection e1 with e1
  injection e1 with e2 e3 _
  subst e2 e3
  obtain rfl : x1 = UInt8.ofNat n := by simpa using hx1.symm
  rw [by_of n (by omega)] at hc1
  have hbody : Has w w.heap.size (some ⟨b, o + (2 + n), none⟩) body := by
    have := (h.dropAt (2 + n)).take body.length
    rw [List.append_assoc, List.drop_left' (by simp [hn]; omega), List.take_left' rfl] at this
    exact this
  have hsum : Has w w.heap.size (some ⟨b, o + (2 + n + body.length), none⟩) (sum4 (sumN body)) := by
    have := h.dropAt (2 + n + body.length)
    rw [List.drop_left' (by simp [hn]; omega)] at this
    exact this
  refine formBody_walk b o c n (2 + n) (2 + n + body.length) N body.length body (sum4 (sumN body)) w (by omega) (by omega) (by omega) (by omega) (by omega) (by omega) (by omega) (by omega) (by omega) (by omega) hc1 ?_ ?_ (Lib.hid hsum) ?_
  · exact Lib.hid (sumBytes_any (some ⟨b, o + (2 + n), none⟩) (c - (2 + n)) body w.drew (by omega) hbody)
  · exact Lib.hid fun A c' W0 hh hh' => bytesEqual_same (some ⟨b, o + (2 + n + body.length), none⟩) A 4 (c - (2 + n + body.length)) c' w.heap.size W0.heap.size (sum4 (sumN body)) W0 rfl hh hh'
  · exact Lib.hid fun W0 hb => ⟨_, _, rfl, by omega, hbody.carry hb (Nat.le_refl _) hb.size, hb⟩
/-- Each kind's codec reads the body of its kind. -/
theorem codec_read (k : UInt8) (W H : Int) (l : List Px) (A : Option Addr) (c n : Nat) (hk : kindB k = true) (hok : rasB W H l = true) (hn : (bodyB k W H l).length = n) (hc : n ≤ c) :
    (codecV k = .iface 79 (.agg #[]) ∧ ∀ W0 : World, Has W0 W0.heap.size A (bodyB k W H l) → Calls Try.prog 101 #[.agg #[], .slice A n c] W0 (GotR W H l W0)) ∨
      (codecV k = .iface 80 (.agg #[]) ∧ ∀ W0 : World, Has W0 W0.heap.size A (bodyB k W H l) → Calls Try.prog 105 #[.agg #[], .slice A n c] W0 (GotR W H l W0)) ∨
      (codecV k = .iface 81 (.agg #[]) ∧ ∀ W0 : World, Has W0 W0.heap.size A (bodyB k W H l) → Calls Try.prog 109 #[.agg #[], .slice A n c] W0 (GotR W H l W0)) ∨
      (codecV k = .iface 82 (.agg #[]) ∧ ∀ W0 : World, Has W0 W0.heap.size A (bodyB k W H l) → Calls Try.prog 119 #[.agg #[], .slice A n c] W0 (GotR W H l W0)) := by
  unfold kindB at hk
  simp only [Bool.or_eq_true, beq_iff_eq] at hk
  subst hn
  rcases hk with rfl | rfl | rfl | rfl
  · exact .inl ⟨rfl, fun W0 hh => downRead_ok W H l A c W0 hok hc hh⟩
  · exact .inr (.inl ⟨rfl, fun W0 hh => upRead_ok W H l A c W0 hok hc hh⟩)
  · exact .inr (.inr (.inl ⟨rfl, fun W0 hh => runsRead_ok W H l A c W0 hok hc hh⟩))
  · exact .inr (.inr (.inr ⟨rfl, fun W0 hh => packRead_ok W H l A c W0 hok hh⟩))
/-- What FormGet answers of a good file. -/
def GotF (W H : Int) (l : List Px) (w : World) (e : Ending) (w' : World) : Prop := ∃ A c, e = .returned (.tuple #[.agg #[.int .i64 W, .int .i64 H, .slice A l.length c], .int .i64 1]) ∧ l.length ≤ c ∧ OwnP w' w.heap.size (.slice A l.length c) l ∧ Below w.heap.size w w'
theorem gotF_fin {W H : Int} {l : List Px} {w w0 w2 : World} {A : Option Addr} {c : Nat} {o : Obj} (hx : RasAtB w2 w.heap.size 0 0 none 0 0 25) (hg : w.heap.size < w0.heap.size) (hc : l.length ≤ c) (ho : OwnP w2 w0.heap.size (.slice A l.length c) l) (hb : Below w.heap.size w w2) (hw : w.heap.size ≤ w0.heap.size) :
    RasAtB ((((w2.setCell ⟨w.heap.size, 0, none⟩ (.int .i64 W)).setCell ⟨w.heap.size, 1, none⟩ (.int .i64 H)).setCell ⟨w.heap.size, 2, none⟩ (.slice A l.length c)).alloc o) w.heap.size W H A l.length c 25 ∧ GotF W H l w (.returned (.tuple #[.agg #[.int .i64 W, .int .i64 H, .slice A l.length c], .int .i64 1])) ((((w2.setCell ⟨w.heap.size, 0, none⟩ (.int .i64 W)).setCell ⟨w.heap.size, 1, none⟩ (.int .i64 H)).setCell ⟨w.heap.size, 2, none⟩ (.slice A l.length c)).alloc o) := by
  obtain ⟨h1, A1, c1, e1, h2, h3, h4⟩ := gotR_fin (W := W) (H := H) (w := w) (w0 := w0) hx hg (Nat.le_refl _) hc ho hb hw
  injection e1 with e1
  injection e1 with e1
  have e2 := congrArg Array.toList e1
  simp only [List.cons.injEq, Value.agg.injEq, and_true] at e2
  have e3 := congrArg Array.toList e2
  simp only [List.cons.injEq, Value.slice.injEq, and_true, true_and] at e3
  obtain ⟨rfl, rfl⟩ := e3
  generalize ((w2.setCell ⟨w.heap.size, 0, none⟩ (.int .i64 W)).setCell ⟨w.heap.size, 1, none⟩ (.int .i64 H)).setCell ⟨w.heap.size, 2, none⟩ (.slice A l.length c) = v at *
  have hb2 : Below v.heap.size v (v.alloc o) := (Below.refl _ v).alloc (Nat.le_refl _) _
  exact ⟨(Below.heap_alloc v _ _ h1.lt).trans h1, A, c, rfl, h2, h3.below hb2 (Nat.le_refl _), h4.trans (hb2.mono h4.size)⟩
set_option maxHeartbeats 2000000 in
theorem formGet_ok (k : UInt8) (note : List UInt8) (W H : Int) (l : List Px) (A : Option Addr) (c n : Nat) (w : World) (hk : kindB k = true) (hn9 : note.length ≤ 9) (hok : rasB W H l = true) (hn : (fileB k note W H l).length = n) (hc : n ≤ c) (h : Has w w.heap.size A (fileB k note W H l)) :
    Calls Try.prog 20 #[.slice A n c] w (GotF W H l w) := by
  have hbl := bodyB_le (k := k) hok
  have hfl := fileB_length k note W H l
  obtain ⟨b, o, x0, rfl, hbB, hx0, hc0⟩ := h.spot (k := 0) (by omega)
  obtain rfl : x0 = k := by
    unfold fileB at hx0
    simpa using hx0.symm
  have hb0 : Below w.heap.size w (w.alloc (.cells #[.int .i64 0, .int .i64 0, .slice none 0 0] 25)) := (Below.refl _ w).alloc (Nat.le_refl _) _
  have hx1 : RasAtB (w.alloc (.cells #[.int .i64 0, .int .i64 0, .slice none 0 0] 25)) w.heap.size 0 0 none 0 0 25 := heap_alloc_new w _
  have hcw : (w.alloc (.cells #[.int .i64 0, .int .i64 0, .slice none 0 0] 25)).cell? ⟨b, o, none⟩ = some (.int .u8 (x0.toNat : Int)) := (hb0.cell hbB).trans hc0
  have CK := Lib.hid (formCodecOf_any x0)
  have CB := Lib.hid fun W0 hh => formBody_ok b o c note.length n x0 note (bodyB x0 W H l) W0 rfl hn9 hbl hn hc hh
  have HF := Lib.hid fun W0 (hb : Below w.heap.size w W0) => h.carry hb (Nat.le_refl _) hb.size
  have CR := Lib.hid fun A c => codec_read x0 W H l A c _ hk hok rfl
  have HB0 := Lib.hid hb0
  have HX0 := Lib.hid hx1
  unfold fileB BodyAt at *
  rw [hk] at CK
  have hn1 : 1 ≤ (n : Int) := by omega
  have hnc : (n : Int) ≤ (c : Int) := by omega
  have hn2 : (n : Int) ≤ 1000 := by omega
  generalize bodyB x0 W H l = body at *
  clear h hb0 hx1 hc hok hn hfl hbl hc0 hx0 hk hn9
  go_enter Try.func20, Try.ntmps20
  go_wp2_with fail
  generalize w.alloc (.cells #[.int .i64 0, .int .i64 0, .slice none 0 0] 25) = w0 at *
  refine (CK.out _).mono ?_
  rintro e w1 ⟨rfl, b1⟩
  have HX1 := Lib.hid (HX0.out.below b1 HX0.out.lt)
  have HB1 := Lib.hid (HB0.out.trans (b1.mono HB0.out.size))
  have CB1 := Lib.hid (CB.out w1 (HF.out w1 HB1.out))
  clear b1 CK HX0 HB0 CB HF hcw
  generalize codecV x0 = cv at *
  go_wp2_with fail
  refine CB1.out.mono ?_
  rintro e w2 ⟨A2, c2, rfl, hc2, h2, b2⟩
  have HX2 := Lib.hid (HX1.out.below b2 HX1.out.lt)
  have HB2 := Lib.hid (HB1.out.trans (b2.mono HB1.out.size))
  have HH2 := Lib.hid h2
  have HR2 := Lib.hid (CR.out A2 c2 hc2)
  clear CB1 CR b2 h2 hc2 HX1 HB1
  rcases HR2.out with ⟨hcv, CW⟩ | ⟨hcv, CW⟩ | ⟨hcv, CW⟩ | ⟨hcv, CW⟩
  all_goals
    have CW2 := Lib.hid (CW w2 HH2.out)
    subst hcv
    clear CW HR2
    go_wp2_with fail
    refine CW2.out.mono ?_
    rintro e w3 ⟨A3, c3, rfl, hc3, ho3, b3⟩
    have hx3 := HX2.out.below b3 HX2.out.lt
    have B3 := HB2.out.trans (b3.mono HB2.out.size)
    have hz3 := hx3.lt
    have HF := Lib.hid (gotF_fin (W := W) (H := H) (w := w) (w0 := w2) (o := .cells #[.int .i64 W, .int .i64 H, .slice A3 l.length c3] 25) hx3 HX2.out.lt hc3 ho3 B3 HB2.out.size)
    have hzn : ¬ w3.heap.size = w.heap.size := by omega
    have hzn' : ¬ w.heap.size = w3.heap.size := by omega
    have r0 := hx3.c0
    have r1 := hx3.c1
    have r2 := hx3.c2
    have q0 : w3.frozen? ⟨w.heap.size, 0, none⟩ = false := hx3.free 0
    have q1 : w3.frozen? ⟨w.heap.size, 1, none⟩ = false := hx3.free 1
    have q2 : w3.frozen? ⟨w.heap.size, 2, none⟩ = false := hx3.free 2
    clear ho3 b3 hx3 B3 CW2 HX2 HB2 HH2
    go_wp2_with fail
    (try simp only [Exit.inBlock, Exit.then])
    exact bodyPost_ret (results_row_tmp rfl _ _ w.heap.size 25 #[.int .i64 W, .int .i64 H, .slice A3 l.length c3] (0, 0) _ (.int .i64 1) rfl rfl HF.out.1 Try.underlying25 rfl (by kernel_rfl)) rfl HF.out.2
end Go.Proofs.Ytnnpjcbdcjdojaa
namespace Go.Proofs.Ytnnpjcbdcjdojaa
open Go.RowKit

/-- What a writer of files answers. -/
def Filed (r : List UInt8) (w : World) (e : Ending) (w' : World) : Prop := ∃ A c, e = .returned (.slice A r.length c) ∧ r.length ≤ c ∧ Has w' w'.heap.size A r ∧ Below w.heap.size w w'
theorem filed_of {r : List UInt8} {w : World} {e : Ending} {w' : World} (h : Bodied r w e w') : Filed r w e w' := by
  obtain ⟨v, rfl, ho, hb⟩ := h
  obtain ⟨A, c, rfl, hc, hh⟩ := ho.has
  exact ⟨A, c, rfl, hc, hh, hb⟩
theorem fwI (k : UInt8) (z : Int) (hz : (k.toNat : Int) = z) (An : Option Addr) (cn : Nat) (note : List UInt8) (W H : Int) (A : Option Addr) (c : Nat) (l : List Px) (w : World) (hn : note.length ≤ 1000) (hs : l.length ≤ 1000) (hc : l.length ≤ c) (hnh : Has w w.heap.size An note) (h : HasP w w.heap.size A l) :
    Calls Try.prog 13 #[.int .u8 z, .slice An note.length cn, .agg #[.int .i64 W, .int .i64 H, .slice A l.length c]] w (Filed (formB k note W H l) w) := by
  subst hz
  exact (implFormWrite_any k An cn note W H A c l w (by omega) (by omega) hc hnh h).mono fun _ _ h => filed_of h
theorem fwS (k : UInt8) (z : Int) (hz : (k.toNat : Int) = z) (An : Option Addr) (cn : Nat) (note : List UInt8) (W H : Int) (A : Option Addr) (c : Nat) (l : List Px) (w : World) (hn : note.length ≤ 1000) (hs : l.length ≤ 1000) (hc : l.length ≤ c) (hnh : Has w w.heap.size An note) (h : HasP w w.heap.size A l) :
    Calls Try.prog 15 #[.int .u8 z, .slice An note.length cn, .agg #[.int .i64 W, .int .i64 H, .slice A l.length c]] w (Filed (formB k note W H l) w) := by
  subst hz
  exact (specFormWrite_any k An cn note W H A c l w (by omega) (by omega) hc hnh h).mono fun _ _ h => filed_of h
theorem fpI (W H : Int) (A : Option Addr) (c : Nat) (l : List Px) (w : World) (hs : l.length ≤ 1000) (hc : l.length ≤ c) (h : HasP w w.heap.size A l) :
    Calls Try.prog 16 #[.agg #[.int .i64 W, .int .i64 H, .slice A l.length c]] w (Filed (formB 80 [] W H l) w) :=
  (implFormPut_any W H A c l w (by omega) hc h).mono fun _ _ h => filed_of h
theorem fpS (W H : Int) (A : Option Addr) (c : Nat) (l : List Px) (w : World) (hs : l.length ≤ 1000) (hc : l.length ≤ c) (h : HasP w w.heap.size A l) :
    Calls Try.prog 17 #[.agg #[.int .i64 W, .int .i64 H, .slice A l.length c]] w (Filed (formB 80 [] W H l) w) :=
  (specFormPut_any W H A c l w (by omega) hc h).mono fun _ _ h => filed_of h
theorem rokS (W H : Int) (A : Option Addr) (c : Nat) (l : List Px) (w : World) (hs : l.length ≤ 1000) (h : HasP w w.heap.size A l) :
    Calls Try.prog 18 #[.agg #[.int .i64 W, .int .i64 H, .slice A l.length c]] w fun e w' => e = .returned (.bool (rasB W H l)) ∧ Below w.heap.size w w' := specRasOk_any W H A c l w (by omega) h

/-- A raster that was drawn is one, and its note is no longer than it may be. -/
def goodB (note : List UInt8) (W H : Int) (l : List Px) : Bool := decide (note.length ≤ 9) && rasB W H l
theorem formB_len (k : UInt8) (note : List UInt8) (W H : Int) (l : List Px) (hk : kindB k = true) : (goodB note W H l = true ∧ (formB k note W H l).length = 6 + note.length + (bodyB k W H l).length) ∨ (goodB note W H l = false ∧ formB k note W H l = []) := by
  unfold goodB
  by_cases h1 : note.length ≤ 9
  · cases h2 : rasB W H l
    · exact .inr ⟨by simp, formB_no fun e => by rw [h2] at e; cases e.2.2⟩
    · exact .inl ⟨by rw [decide_eq_true h1]; rfl, by rw [formB_of hk h1 h2, fileB_length]⟩
  · exact .inr ⟨by rw [decide_eq_false h1]; rfl, formB_no fun e => h1 e.2.1⟩
theorem goodB_parts {note : List UInt8} {W H : Int} {l : List Px} (h : goodB note W H l = true) : note.length ≤ 9 ∧ rasB W H l = true := by
  unfold goodB at h
  simpa using h
theorem body_down {W H : Int} {l : List Px} (h : rasB W H l = true) : ((bodyB 68 W H l).length : Int) = 2 + 4 * W * H := by
  obtain ⟨_, _, hl, _⟩ := rasB_parts h
  show ((rasBy W H l).length : Int) = _
  rw [rasBy_length, Int.mul_assoc, ← hl]
  omega
theorem body_up {W H : Int} {l : List Px} (h : rasB W H l = true) : (bodyB 85 W H l).length = (bodyB 68 W H l).length := by
  show (rasBy W H (flipR W H l)).length = (rasBy W H l).length
  rw [rasBy_length, rasBy_length, flipR_length h]
theorem body_pack {W H : Int} {l : List Px} (h : rasB W H l = true) : (bodyB 80 W H l).length ≤ (9 * ((bodyB 68 W H l).length + 1) + 7) / 8 := by
  show (pakPutB (rasBy W H l)).length ≤ (9 * ((rasBy W H l).length + 1) + 7) / 8
  exact pakPut_le (by have := rasBy_le h; omega)
end Go.Proofs.Ytnnpjcbdcjdojaa
namespace Go.Proofs.Ytnnpjcbdcjdojaa
open Go.RowKit

/-- What FormGet answers, with where the pixels lie. -/
def GotG (W H : Int) (l : List Px) (how : Int) (w : World) (e : Ending) (w' : World) : Prop := ∃ A c, e = .returned (.tuple #[.agg #[.int .i64 W, .int .i64 H, .slice A l.length c], .int .i64 how]) ∧ HasP w' w'.heap.size A l ∧ (∀ b o, A = some ⟨b, o, none⟩ → w.heap.size ≤ b) ∧ Below w.heap.size w w'
theorem ownP_block {w : World} {base : Nat} {A : Option Addr} {n c : Nat} {l : List Px} (h : OwnP w base (.slice A n c) l) : ∀ b o, A = some ⟨b, o, none⟩ → base ≤ b := fun b o e => by
  subst e
  rcases h.2 with ⟨e, -⟩ | ⟨g', cap, cur, e, hb, -⟩
  · cases e
  · injection e with e _ _
    injection e with e
    injection e with e1 _ _
    omega
theorem gotG_of {W H : Int} {l : List Px} {w : World} {e : Ending} {w' : World} (h : GotF W H l w e w') : GotG W H l 1 w e w' := by
  obtain ⟨A, c, rfl, -, ho, hb⟩ := h
  exact ⟨A, c, rfl, ho.reads, ownP_block ho, hb⟩
set_option maxHeartbeats 400000 in
theorem formGet_none (A : Option Addr) (c : Nat) (w : World) : Calls Try.prog 20 #[.slice A 0 c] w (GotG 0 0 [] 2 w) := by
  have hb0 : Below w.heap.size w (w.alloc (.cells #[.int .i64 0, .int .i64 0, .slice none 0 0] 25)) := (Below.refl _ w).alloc (Nat.le_refl _) _
  have HB0 := Lib.hid hb0
  have hx : RasAtB (w.alloc (.cells #[.int .i64 0, .int .i64 0, .slice none 0 0] 25)) w.heap.size 0 0 none 0 0 25 := heap_alloc_new w _
  have HX := Lib.hid hx
  clear hb0 hx
  go_enter Try.func20, Try.ntmps20
  go_wp2_with fail
  (try simp only [Exit.inBlock, Exit.then])
  exact bodyPost_ret (results_row_tmp rfl _ _ w.heap.size 25 #[.int .i64 0, .int .i64 0, .slice none 0 0] (0, 0) _ (.int .i64 2) rfl rfl HX.out Try.underlying25 rfl (by kernel_rfl)) rfl ⟨none, 0, rfl, .inl rfl, fun _ _ e => (by cases e), HB0.out⟩
/-- What FormGet finds in what FormWrite answers. -/
def foundW (note : List UInt8) (W : Int) : Int := if note.length ≤ 9 then W else 0
def foundL (note : List UInt8) (l : List Px) : List Px := if note.length ≤ 9 then l else []
def foundH (note : List UInt8) : Int := if note.length ≤ 9 then 1 else 2
theorem formGet_form (k : UInt8) (note : List UInt8) (W H : Int) (l : List Px) (A : Option Addr) (c : Nat) (w : World) (hk : kindB k = true) (hok : rasB W H l = true) (hc : (formB k note W H l).length ≤ c) (h : Has w w.heap.size A (formB k note W H l)) :
    Calls Try.prog 20 #[.slice A (formB k note W H l).length c] w (GotG (foundW note W) (foundW note H) (foundL note l) (foundH note) w) := by
  unfold foundW foundL foundH
  by_cases hn : note.length ≤ 9
  · rw [formB_of hk hn hok] at hc h ⊢
    rw [if_pos hn, if_pos hn, if_pos hn, if_pos hn]
    exact (formGet_ok k note W H l A c _ w hk hn hok rfl hc h).mono fun _ _ h => gotG_of h
  · rw [formB_no (fun e => hn e.2.1)]
    rw [if_neg hn, if_neg hn, if_neg hn, if_neg hn]
    exact formGet_none A c w
end Go.Proofs.Ytnnpjcbdcjdojaa
