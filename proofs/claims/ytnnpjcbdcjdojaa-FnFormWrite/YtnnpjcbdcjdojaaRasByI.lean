/-
  RasBytes of the program: two bytes, and four of each pixel. Conditions: the raster's pixels are read from memory that was there.
-/
import Derived.Test.YtnnpjcbdcjdojaaRasBy
import Derived.Test.YtnnpjcbdcjdojaaRasI
import Derived.Test.YtnnpjcbdcjdojaaRasBox
namespace Go.Proofs.Ytnnpjcbdcjdojaa
set_option maxRecDepth 4000
open Go.RowKit

theorem grown_none {w w' : World} (h : w.grownBy w' none) : Below w.heap.size w w' := (Below.refl _ w).grown h (Nat.le_refl _) (fun _ e => by cases e)
theorem flat_snoc (l : List Px) (k : Nat) (p : Px) (h : l[k]? = some p) : (l.take (k + 1)).flatMap pxB = (l.take k).flatMap pxB ++ pxB p := by
  rw [List.take_add_one, h]
  simp
theorem flat_len (l : List Px) : (l.flatMap pxB).length = 4 * l.length := by
  induction l with
  | nil => rfl
  | cons p l ih => simp [pxB] at ih ⊢; omega
set_option maxHeartbeats 2000000 in
theorem appendBytes_any (A : Option Addr) (c : Nat) (l : List Px) (v : Value) (m : List UInt8) (base : Nat) (w : World) (hl : l.length ≤ 1000) (hm : m.length ≤ 1000) (ha : l.all pixB = true) (h : HasP w base A l) (ho : Own w base v m) (hb : base ≤ w.heap.size) :
    Calls Try.prog 57 #[.slice A l.length c, v] w fun e w' => ∃ v', e = .returned v' ∧ Own w' base v' (m ++ l.flatMap pxB) ∧ Below base w w' := by
  have hs2 : (l.length : Int) ≤ 1000 := by omega
  have HH := Lib.hid h
  have HA := Lib.hid ha
  have HO0 := Lib.hid ho
  clear h hl ha ho
  go_enter Try.func57, Try.ntmps57
  go_wp2_with fail
  go_loopw [1, 9] (fun v i wr => ∃ k : Nat, k ≤ l.length ∧ i = .int .i64 k ∧ Own wr base v (m ++ (l.take k).flatMap pxB) ∧ Below base w wr ∧ base ≤ wr.heap.size) (fun _ i _ => l.length - (intOf i).toNat)
  case atStart => exact ⟨0, Nat.zero_le _, rfl, by simpa using HO0.out, Below.refl _ _, hb⟩
  case round =>
    obtain ⟨k, hk, rfl, hown, hbel, hbw⟩ := hrel
    have hl8 : (m ++ (l.take k).flatMap pxB).length = m.length + 4 * k := by rw [List.length_append, flat_len, List.length_take]; omega
    have HO := Lib.hid hown
    have HB := Lib.hid hbel
    have HPr := Lib.hid (HH.out.below hbel)
    clear hown hbel
    by_cases hlt2 : k < l.length
    · obtain ⟨b, o, p, hA, hbB, hp, d0, d1, d2, d3⟩ := HPr.out.spot hlt2
      subst hA
      obtain ⟨e1, e2, e3, e4⟩ := pix_parts HA.out hp
      obtain ⟨cur, hcur⟩ : ∃ cur, m ++ (l.take k).flatMap pxB = cur := ⟨_, rfl⟩
      rw [hcur] at hl8 HO
      have HSn : Hid (m ++ (l.take (k + 1)).flatMap pxB = cur ++ pxB p) := Lib.hid (by rw [flat_snoc l k p hp, ← List.append_assoc, hcur])
      have HL8 := Lib.hid hl8
      have hbz : b < wr.heap.size := Nat.lt_of_lt_of_le hbB hbw
      have HZ : Hid ((wr.alloc (.cells #[.int .i64 p.r, .int .i64 p.g, .int .i64 p.b, .int .i64 p.a] 40)).heap.size = wr.heap.size + 1) := Lib.hid (by simp)
      have HO1 : Hid (Own (wr.alloc (.cells #[.int .i64 p.r, .int .i64 p.g, .int .i64 p.b, .int .i64 p.a] 40)) base u1 cur) := Lib.hid (World.ownsRow.alloc HO.out _)
      have HB1 := Lib.hid (HB.out.alloc hbw (.cells #[.int .i64 p.r, .int .i64 p.g, .int .i64 p.b, .int .i64 p.a] 40))
      clear hp hl8 hcur
      go_wp2_with (at_builtin; refine wpList_push4 rfl (.tmp 13) (.tmp 26) rfl base u1 cur rfl HO1.out (pb p.r) (pb p.g) (pb p.b) (pb p.a) _ _ _ _ (pb_nat e1.1 e1.2) (pb_nat e2.1 e2.2) (pb_nat e3.1 e3.2) (pb_nat e4.1 e4.2) (wr.heap.size + 1) HZ.out rfl (by rw [HL8.out]; omega) (by rw [HZ.out]; omega) ?_; intro g5 c5 w5 ho5 hg5)
      have HO5 : Hid (Own w5 base (.slice (some ⟨g5, 0, none⟩) (cur.length + 4) c5) (m ++ (l.take (k + 1)).flatMap pxB)) := Lib.hid (by rw [HSn.out]; exact ho5)
      have hb5 : base ≤ w5.heap.size := by have := hg5.size; simp at this; omega
      have HB5 := Lib.hid ((HB1.out.alloc (by rw [HZ.out]; omega) (.cells #[.int .u8 p.r, .int .u8 p.g, .int .u8 p.b, .int .u8 p.a] 5)).grown hg5 (by simp; omega) (fun q hq => (World.ownsRow.lt HO.out q hq).1))
      clear ho5 hg5
      go_wp2
      go_roundw
      case rel => exact ⟨k + 1, by omega, by go_num, HO5.out, HB5.out, hb5⟩
      case measure => simp [intOf]; omega
    · obtain rfl : k = l.length := by omega
      rw [List.take_of_length_le (Nat.le_refl _)] at HO
      go_wp2_with fail
      go_ret
      exact ⟨_, rfl, HO.out, HB.out⟩
/-- 'append(v, b1, b2)', v the call's own. -/
theorem wpList_push2 {w : World} {ops : Array Oper} {rest : List Oper} {o : Oper} {a : Act} {Q : Exit → Act → World → Prop} (hgd : o.guard = none) (s x : Operand)
    (ho : o.op = .call { callee := .builtin .append, args := #[s, x], argTypes := #[22, 22] })
    (base : Nat) (v : Value) (l : List UInt8) (hs : a.eval s = v) (hown : Own w base v l) (b1 b2 : UInt8) (z1 z2 : Int) (hz1 : (b1.toNat : Int) = z1) (hz2 : (b2.toNat : Int) = z2) (H : Nat) (hH : w.heap.size = H)
    (hx : a.eval x = .slice (some ⟨H, 0, none⟩) 2 2) (hb : l.length + 2 ≤ 140737488355328) (hbase : base ≤ w.heap.size)
    (h : ∀ g cap w', Own w' base (.slice (some ⟨g, 0, none⟩) (l.length + 2) cap) (l ++ [b1, b2]) → (w.alloc (.cells #[.int .u8 z1, .int .u8 z2] 5)).grownBy w' v.ownBlock → wpList Try.prog ops Q rest (a.put o.dst (.slice (some ⟨g, 0, none⟩) (l.length + 2) cap)) w') :
    wpList Try.prog ops Q (o :: rest) a (w.alloc (.cells #[.int .u8 z1, .int .u8 z2] 5)) := by
  obtain ⟨i0, hi, hy0, hy1, hy2⟩ := info_parts info8
  subst hz1 hz2
  refine wpList_append_lies _ hgd s x 22 ho base 5 i0 (.int .u8 0) 1 1 Try.underlying22 hi hy0 hy1 hy2 rfl (by omega) v l.length (l.map bv) hs (World.ownsRow.alloc hown _) ⟨H, 0, none⟩ 2 2 [bv b1, bv b2] hx (by simp) ?_ (bvs_one [b1, b2]) (by omega) (by unfold maxLen; omega) (by omega) (by simp; omega) _ rfl ?_
  · intro j u hu
    subst hH
    match j, hu with
    | 0, hu => simp at hu; subst hu; exact laid_new w [b1, b2] _ 0 b1 rfl
    | 1, hu => simp at hu; subst hu; exact laid_new w [b1, b2] _ 1 b2 rfl
  · intro g cap w' h1 h2 _ _
    refine h g cap w' ?_ h2
    unfold Own
    rw [List.length_append, List.map_append]
    exact h1
set_option maxHeartbeats 2000000 in
theorem implRasBytes_any (W H : Int) (A : Option Addr) (c : Nat) (l : List Px) (w : World) (hs : l.length ≤ 1073741824) (h : HasP w w.heap.size A l) :
    Calls Try.prog 27 #[rasV W H A l.length c] w fun e w' => ∃ v, e = .returned v ∧ Own w' w.heap.size v (rasOut W H l) ∧ Below w.heap.size w w' := by
  have hb0 : Below w.heap.size w (w.alloc (.cells #[.int .i64 W, .int .i64 H, .slice A l.length c] 25)) := (Below.refl _ w).alloc (Nat.le_refl _) _
  have hx : RasAtB (w.alloc (.cells #[.int .i64 W, .int .i64 H, .slice A l.length c] 25)) w.heap.size W H A l.length c 25 := heap_alloc_new w _
  have HH := Lib.hid ((h.below hb0).wider (B' := (w.alloc (.cells #[.int .i64 W, .int .i64 H, .slice A l.length c] 25)).heap.size) (by simp))
  have CR := Lib.hid fun W0 hh => implRasOk_any W H A c l W0 hs hh
  have CB := Lib.hid (appendBytes_any A c l)
  unfold rasV at CR ⊢
  go_enter Try.func27, Try.ntmps27
  go_wp2_with fail
  generalize w.alloc (.cells #[.int .i64 W, .int .i64 H, .slice A l.length c] 25) = wp at *
  have hlt := hx.lt
  refine (CR.out wp HH.out).mono ?_
  rintro e w1 ⟨rfl, b1⟩
  have HX := Lib.hid (hx.below b1 hlt)
  have HB1 := Lib.hid (hb0.trans (b1.mono (Nat.le_of_lt hlt)))
  have HP1 := Lib.hid (HH.out.carry b1 (Nat.le_refl _) b1.size)
  clear b1 hx hb0 h HH CR
  cases hok : rasB W H l
  · have HE : Hid (Own w1 w.heap.size (.slice none 0 0) (rasOut W H l)) := Lib.hid (by unfold rasOut; rw [hok]; exact World.ownsRow_nil _ _ _ _)
    clear hok
    go_wp2_with fail
    go_ret
    exact ⟨_, rfl, HE.out, HB1.out⟩
  · obtain ⟨hW, hH, hl, ha⟩ := rasB_parts hok
    have h36 := mul36 hW hH
    have hl36 : (l.length : Int) ≤ 36 := by omega
    have HE : Hid (rasOut W H l = [pb W, pb H] ++ l.flatMap pxB) := Lib.hid (by unfold rasOut; rw [hok]; rfl)
    have HAL := Lib.hid ha
    have HLL := Lib.hid hl
    have p0 := HX.out.c0
    have p1 := HX.out.c1
    have p2 := HX.out.c2
    have hz1 := HX.out.lt
    have hn2 : 2 + 4 * (l.length : Int) = ((2 + 4 * l.length : Nat) : Int) := by omega
    have HN2 := Lib.hid hn2
    obtain ⟨i0, hi, hy0, hy1, hy2⟩ := info_parts info8
    clear hok ha hl hn2
    have PW := Lib.hid (pb_nat (z := W) (by omega) (by omega))
    have PH := Lib.hid (pb_nat (z := H) (by omega) (by omega))
    have n12 : some w1.heap.size ≠ some w.heap.size := by simp; omega
    go_wp2_with (first
      | (at_make; refine wpList_make_own _ rfl _ _ 22 rfl w1.heap.size 5 i0 (.int .u8 0) 1 Try.underlying22 hi hy0 hy1 _ _ _ (2 + 4 * l.length) rfl rfl HN2.out (by rw [hy2]; omega) (by unfold maxLen; omega) (Nat.le_refl _) ?_; intro w2 hown hgrow; have b2 := Lib.hid (grown_none hgrow); have HX2 := Lib.hid (HX.out.below b2.out hz1); have r0 := HX2.out.c0; have r1 := HX2.out.c1; have r2 := HX2.out.c2; have z2 := HX2.out.lt; have HO2 : Hid (Own w2 w1.heap.size (.slice (some ⟨w1.heap.size, 0, none⟩) 0 (2 + 4 * l.length)) []) := Lib.hid hown; clear hown hgrow p0 p1 p2)
      | (at_builtin; go_loud (refine wpList_push2 rfl (.tmp 13) (.tmp 20) rfl w1.heap.size (.slice (some ⟨w1.heap.size, 0, none⟩) 0 (2 + 4 * l.length)) [] rfl HO2.out (pb W) (pb H) _ _ PW.out PH.out w2.heap.size rfl rfl (by decide) b2.out.size ?_; intro g3 c3 w3 ho3 hg3; have HO3 := Lib.hid ho3; have HG3 := Lib.hid hg3; have HX3 := Lib.hid ((HX2.out.grown (World.grownBy_alloc w2 _ none) (by simp)).grown hg3 n12); have s2 := HX3.out.c2; clear ho3 hg3 r0 r1 r2)))
    have hb3 : Below w1.heap.size w1 w3 := (b2.out.alloc b2.out.size _).grown HG3.out (by have := b2.out.size; simp; omega) (fun q hq => by cases hq; exact Nat.le_refl _)
    have CB3 := CB.out _ [pb W, pb H] w1.heap.size w3 (by omega) (by simp) HAL.out (HP1.out.below hb3) HO3.out hb3.size
    refine CB3.mono ?_
    rintro e w4 ⟨v, rfl, ho4, b4⟩
    have HO4 : Hid (Own w4 w.heap.size v (rasOut W H l)) := Lib.hid (by rw [HE.out]; exact ho4.lower HB1.out.size)
    have HB4 := Lib.hid (HB1.out.trans ((hb3.trans b4).mono HB1.out.size))
    clear ho4 b4 hb3 CB3 s2
    go_wp2_with fail
    go_ret
    exact ⟨_, rfl, HO4.out, HB4.out⟩
end Go.Proofs.Ytnnpjcbdcjdojaa
