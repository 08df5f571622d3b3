/-
  RasBytes of the reference: two bytes, and four of each pixel. Condition: the raster's pixels are read from memory that was there.
-/
import Derived.Test.YtnnpjcbdcjdojaaRasAtM
namespace Go.Proofs.Ytnnpjcbdcjdojaa
set_option maxRecDepth 4000
open Go.RowKit

/-- A part of a colour as a byte. -/
def pb (z : Int) : UInt8 := UInt8.ofNat z.toNat
theorem pb_nat {z : Int} (h0 : 0 ≤ z) (h1 : z ≤ 255) : ((pb z).toNat : Int) = z := by
  unfold pb
  rw [UInt8.toNat_ofNat']
  omega
/-- The bytes of a pixel. -/
def pxB (p : Px) : List UInt8 := [pb p.r, pb p.g, pb p.b, pb p.a]
/-- The bytes of a raster. -/
def rasBy (W H : Int) (l : List Px) : List UInt8 := [pb W, pb H] ++ l.flatMap pxB
theorem rasBy_length (W H : Int) (l : List Px) : (rasBy W H l).length = 2 + 4 * l.length := by
  unfold rasBy
  induction l with
  | nil => rfl
  | cons p l ih => simp [pxB] at ih ⊢; omega
theorem rasBy_snoc (W H : Int) (l : List Px) (k : Nat) (p : Px) (h : l[k]? = some p) : rasBy W H (l.take (k + 1)) = rasBy W H (l.take k) ++ pxB p := by
  unfold rasBy
  rw [List.take_add_one, h]
  simp
theorem pix_parts {l : List Px} {k : Nat} {p : Px} (ha : l.all pixB = true) (h : l[k]? = some p) : (0 ≤ p.r ∧ p.r ≤ 255) ∧ (0 ≤ p.g ∧ p.g ≤ 255) ∧ (0 ≤ p.b ∧ p.b ≤ 255) ∧ (0 ≤ p.a ∧ p.a ≤ 255) := by
  have := List.all_eq_true.1 ha p (List.mem_of_getElem? h)
  unfold pixB partB at this
  simpa using this
/-- 'append(v, b1, b2, b3, b4)', v the call's own. -/
theorem wpList_push4 {w : World} {ops : Array Oper} {rest : List Oper} {o : Oper} {a : Act} {Q : Exit → Act → World → Prop} (hgd : o.guard = none) (s x : Operand)
    (ho : o.op = .call { callee := .builtin .append, args := #[s, x], argTypes := #[22, 22] })
    (base : Nat) (v : Value) (l : List UInt8) (hs : a.eval s = v) (hown : Own w base v l) (b1 b2 b3 b4 : UInt8) (z1 z2 z3 z4 : Int) (hz1 : (b1.toNat : Int) = z1) (hz2 : (b2.toNat : Int) = z2) (hz3 : (b3.toNat : Int) = z3) (hz4 : (b4.toNat : Int) = z4) (H : Nat) (hH : w.heap.size = H)
    (hx : a.eval x = .slice (some ⟨H, 0, none⟩) 4 4) (hb : l.length + 4 ≤ 140737488355328) (hbase : base ≤ w.heap.size)
    (h : ∀ g cap w', Own w' base (.slice (some ⟨g, 0, none⟩) (l.length + 4) cap) (l ++ [b1, b2, b3, b4]) → (w.alloc (.cells #[.int .u8 z1, .int .u8 z2, .int .u8 z3, .int .u8 z4] 5)).grownBy w' v.ownBlock → wpList Try.prog ops Q rest (a.put o.dst (.slice (some ⟨g, 0, none⟩) (l.length + 4) cap)) w') :
    wpList Try.prog ops Q (o :: rest) a (w.alloc (.cells #[.int .u8 z1, .int .u8 z2, .int .u8 z3, .int .u8 z4] 5)) := by
  obtain ⟨i0, hi, hy0, hy1, hy2⟩ := info_parts info8
  subst hz1 hz2 hz3 hz4
  refine wpList_append_lies _ hgd s x 22 ho base 5 i0 (.int .u8 0) 1 1 Try.underlying22 hi hy0 hy1 hy2 rfl (by omega) v l.length (l.map bv) hs (World.ownsRow.alloc hown _) ⟨H, 0, none⟩ 4 4 [bv b1, bv b2, bv b3, bv b4] hx (by simp) ?_ (bvs_one [b1, b2, b3, b4]) (by omega) (by unfold maxLen; omega) (by omega) (by simp; omega) _ rfl ?_
  · intro j u hu
    subst hH
    match j, hu with
    | 0, hu => simp at hu; subst hu; exact laid_new w [b1, b2, b3, b4] _ 0 b1 rfl
    | 1, hu => simp at hu; subst hu; exact laid_new w [b1, b2, b3, b4] _ 1 b2 rfl
    | 2, hu => simp at hu; subst hu; exact laid_new w [b1, b2, b3, b4] _ 2 b3 rfl
    | 3, hu => simp at hu; subst hu; exact laid_new w [b1, b2, b3, b4] _ 3 b4 rfl
  · intro g cap w' h1 h2 _ _
    refine h g cap w' ?_ h2
    unfold Own
    rw [List.length_append, List.map_append]
    exact h1

theorem own_lit2 (w : World) (b1 b2 : UInt8) : Own (w.alloc (.cells #[.int .u8 (b1.toNat : Int), .int .u8 (b2.toNat : Int)] 5)) w.heap.size (.slice (some ⟨w.heap.size, 0, none⟩) 2 2) [b1, b2] :=
  ⟨rfl, .inr ⟨w.heap.size, 2, _, rfl, Nat.le_refl _, heap_alloc_new w _, Nat.le_refl _, by unfold maxLen; omega, rfl, rfl⟩⟩
set_option maxHeartbeats 2000000 in
theorem l3Bytes_any (W H : Int) (A : Option Addr) (c : Nat) (l : List Px) (w : World) (hW : 0 ≤ W ∧ W ≤ 255) (hH : 0 ≤ H ∧ H ≤ 255) (hl : l.length ≤ 1000) (ha : l.all pixB = true) (h : HasP w w.heap.size A l) :
    Calls Try.prog 58 #[rasV W H A l.length c] w fun e w' => ∃ v, e = .returned v ∧ Own w' w.heap.size v (rasBy W H l) ∧ Below w.heap.size w w' := by
  unfold rasV
  have hs2 : (l.length : Int) ≤ 1000 := by omega
  have HH := Lib.hid h
  have HA := Lib.hid ha
  clear h hl ha
  go_enter Try.func58, Try.ntmps58
  go_wp2_with fail
  have hx : (w.alloc (.cells #[.int .i64 W, .int .i64 H, .slice A l.length c] 25)).heap[w.heap.size]? = some (.cells #[.int .i64 W, .int .i64 H, .slice A l.length c] 25 (0, 0)) := heap_alloc_new w _
  have hb0 : Below w.heap.size w (w.alloc (.cells #[.int .i64 W, .int .i64 H, .slice A l.length c] 25)) := (Below.refl _ w).alloc (Nat.le_refl _) _
  have hsz : (w.alloc (.cells #[.int .i64 W, .int .i64 H, .slice A l.length c] 25)).heap.size = w.heap.size + 1 := by simp
  rw [← hsz]
  generalize w.alloc (.cells #[.int .i64 W, .int .i64 H, .slice A l.length c] 25) = wp at *
  have hlt : w.heap.size < wp.heap.size := by omega
  have HX := Lib.hid hx
  have HB0 := Lib.hid hb0
  have HP0 := Lib.hid (HH.out.below hb0)
  have HS : Hid (Own (wp.alloc (.cells #[.int .u8 W, .int .u8 H] 5)) wp.heap.size (.slice (some ⟨wp.heap.size, 0, none⟩) 2 2) (rasBy W H (l.take 0))) := Lib.hid (by
    have := own_lit2 wp (pb W) (pb H)
    rw [pb_nat hW.1 hW.2, pb_nat hH.1 hH.2] at this
    simpa [rasBy] using this)
  clear hx hb0 hsz
  go_loopw [3, 4] (fun v i wr => ∃ k : Nat, k ≤ l.length ∧ i = .int .i64 k ∧ Own wr wp.heap.size v (rasBy W H (l.take k)) ∧ Below wp.heap.size wp wr) (fun _ i _ => l.length - (intOf i).toNat)
  case atStart => exact ⟨0, Nat.zero_le _, rfl, HS.out, (Below.refl _ wp).alloc (Nat.le_refl _) _⟩
  case round =>
    clear HS
    obtain ⟨k, hk, rfl, hown, hbel⟩ := hrel
    have c2 : wr.cell? ⟨w.heap.size, 2, none⟩ = some (.slice A l.length c) := by rw [cell_of_row wr _ 2 _ _ _ ((hbel.block _ hlt).trans HX.out)]; rfl
    have HO := Lib.hid hown
    have HB := Lib.hid hbel
    have HPr := Lib.hid (HP0.out.kept (w' := wr) fun q hq => hbel.cell (by omega))
    have hl8 : (rasBy W H (l.take k)).length = 2 + 4 * k := by rw [rasBy_length, List.length_take]; omega
    obtain ⟨A4, c4, hv4, -, -⟩ := hown.has
    rw [hl8] at hv4
    subst hv4
    clear hown hbel
    by_cases hlt2 : k < l.length
    · obtain ⟨b, o, p, hA, hbB, hp, d0, d1, d2, d3⟩ := HPr.out.spot hlt2
      subst hA
      obtain ⟨e1, e2, e3, e4⟩ := pix_parts HA.out hp
      have HSn := Lib.hid (rasBy_snoc W H l k p hp)
      have HL8 := Lib.hid hl8
      have HZ : Hid (wr.heap.size + 1 = (wr.alloc (.cells #[.int .i64 p.r, .int .i64 p.g, .int .i64 p.b, .int .i64 p.a] 40)).heap.size) := Lib.hid (by simp)
      have HO1 : Hid (Own (wr.alloc (.cells #[.int .i64 p.r, .int .i64 p.g, .int .i64 p.b, .int .i64 p.a] 40)) wp.heap.size (.slice A4 (2 + 4 * k) c4) (rasBy W H (l.take k))) := Lib.hid (World.ownsRow.alloc HO.out _)
      have HB1 := Lib.hid (HB.out.alloc HB.out.size (.cells #[.int .i64 p.r, .int .i64 p.g, .int .i64 p.b, .int .i64 p.a] 40))
      clear hp hl8
      go_wp2_with (at_builtin; refine wpList_push4 rfl (.tmp 25) (.tmp 38) rfl wp.heap.size (.slice A4 (2 + 4 * k) c4) (rasBy W H (l.take k)) rfl HO1.out (pb p.r) (pb p.g) (pb p.b) (pb p.a) _ _ _ _ (pb_nat e1.1 e1.2) (pb_nat e2.1 e2.2) (pb_nat e3.1 e3.2) (pb_nat e4.1 e4.2) (wr.heap.size + 1) HZ.out.symm rfl (by rw [HL8.out]; omega) HB1.out.size ?_; intro g5 c5 w5 ho5 hg5)
      have HO5 : Hid (Own w5 wp.heap.size (.slice (some ⟨g5, 0, none⟩) ((rasBy W H (l.take k)).length + 4) c5) (rasBy W H (l.take (k + 1)))) := Lib.hid (by rw [HSn.out]; exact ho5)
      have HB5 := Lib.hid ((HB1.out.alloc HB1.out.size (.cells #[.int .u8 p.r, .int .u8 p.g, .int .u8 p.b, .int .u8 p.a] 5)).grown hg5 (by have := HB1.out.size; simp at this ⊢; omega) (fun q hq => (World.ownsRow.lt HO.out q hq).1))
      clear ho5 hg5
      go_wp2
      go_roundw
      case rel => exact ⟨k + 1, by omega, by go_num, HO5.out, HB5.out⟩
      case measure => simp [intOf]; omega
    · obtain rfl : k = l.length := by omega
      rw [List.take_of_length_le (Nat.le_refl _)] at HO
      have HF := Lib.hid (HO.out.lower (Nat.le_of_lt hlt))
      have HBF := Lib.hid (HB0.out.trans (HB.out.mono (Nat.le_of_lt hlt)))
      go_wp2_with fail
      go_ret
      exact ⟨_, rfl, HF.out, HBF.out⟩

/-- What RasBytes writes. -/
def rasOut (W H : Int) (l : List Px) : List UInt8 := if rasB W H l then rasBy W H l else []
set_option maxHeartbeats 1000000 in
theorem specRasBytes_any (W H : Int) (A : Option Addr) (c : Nat) (l : List Px) (w : World) (hs : l.length ≤ 1073741824) (h : HasP w w.heap.size A l) :
    Calls Try.prog 28 #[rasV W H A l.length c] w fun e w' => ∃ v, e = .returned v ∧ Own w' w.heap.size v (rasOut W H l) ∧ Below w.heap.size w w' := by
  have hb0 : Below w.heap.size w (w.alloc (.cells #[.int .i64 W, .int .i64 H, .slice A l.length c] 25)) := (Below.refl _ w).alloc (Nat.le_refl _) _
  have hx : (w.alloc (.cells #[.int .i64 W, .int .i64 H, .slice A l.length c] 25)).heap[w.heap.size]? = some (.cells #[.int .i64 W, .int .i64 H, .slice A l.length c] 25 (0, 0)) := heap_alloc_new w _
  have HH := Lib.hid ((h.below hb0).wider (B' := (w.alloc (.cells #[.int .i64 W, .int .i64 H, .slice A l.length c] 25)).heap.size) (by simp))
  have CR := Lib.hid fun W0 hh => specRasOk_any W H A c l W0 hs hh
  have CB := Lib.hid (l3Bytes_any W H A c l)
  unfold rasV at CR CB ⊢
  go_enter Try.func28, Try.ntmps28
  go_wp2_with fail
  generalize w.alloc (.cells #[.int .i64 W, .int .i64 H, .slice A l.length c] 25) = wp at *
  have hlt : w.heap.size < wp.heap.size := (Array.getElem?_eq_some_iff.1 hx).1
  refine (CR.out wp HH.out).mono ?_
  rintro e w1 ⟨rfl, b1⟩
  have HX := Lib.hid ((b1.block _ hlt).trans hx)
  have HB1 := Lib.hid (hb0.trans (b1.mono (Nat.le_of_lt hlt)))
  have HP1 := Lib.hid (HH.out.carry b1 (Nat.le_refl _) b1.size)
  clear b1 hx hb0 h HH CR
  cases hok : rasB W H l
  · have HE : Hid (Own (w1.alloc (.cells #[] 5)) w.heap.size (.slice (some ⟨w1.heap.size, 0, none⟩) 0 0) (rasOut W H l)) := Lib.hid (by unfold rasOut; rw [hok]; exact own_empty HB1.out.size)
    have HB2 := Lib.hid (HB1.out.alloc HB1.out.size (.cells #[] 5))
    clear hok
    go_wp2_with fail
    go_ret
    exact ⟨_, rfl, HE.out, HB2.out⟩
  · obtain ⟨hW, hH, hl, ha⟩ := rasB_parts hok
    have h36 := mul36 hW hH
    have HE : Hid (rasOut W H l = rasBy W H l) := Lib.hid (by unfold rasOut; rw [hok]; rfl)
    have CB1 := Lib.hid (CB.out w1 (by omega) (by omega) (by omega) ha HP1.out)
    have p0 : w1.cell? ⟨w.heap.size, 0, none⟩ = some (.int .i64 W) := by rw [cell_of_row w1 _ 0 _ _ _ HX.out]; rfl
    have p1 : w1.cell? ⟨w.heap.size, 1, none⟩ = some (.int .i64 H) := by rw [cell_of_row w1 _ 1 _ _ _ HX.out]; rfl
    have p2 : w1.cell? ⟨w.heap.size, 2, none⟩ = some (.slice A l.length c) := by rw [cell_of_row w1 _ 2 _ _ _ HX.out]; rfl
    clear hok ha hl CB
    go_wp2_with fail
    refine CB1.out.mono ?_
    rintro e w2 ⟨v, rfl, ho, b2⟩
    have HO : Hid (Own w2 w.heap.size v (rasOut W H l)) := Lib.hid (by rw [HE.out]; exact ho.lower HB1.out.size)
    have HB2 := Lib.hid (HB1.out.trans (b2.mono HB1.out.size))
    clear ho b2
    go_wp2_with fail
    go_ret
    exact ⟨_, rfl, HO.out, HB2.out⟩
end Go.Proofs.Ytnnpjcbdcjdojaa
