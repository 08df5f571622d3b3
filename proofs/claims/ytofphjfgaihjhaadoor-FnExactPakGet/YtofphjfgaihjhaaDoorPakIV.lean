/-
  The program's unpacker: a code is put. Condition: the block holds an unpacker of what was unpacked.
-/
import Derived.Test.YtofphjfgaihjhaaDoorPakIA
namespace Go.Proofs.YtofphjfgaihjhaaDoor
open Go.RowKit

/-- Where the strings that were met, and the last one, stand in what was unpacked. -/
def SpanRel (out : List UInt8) (met : List (List UInt8)) (last : List UInt8) (sp : List (Nat × Nat)) (p s : Nat) : Prop :=
  sp.length = met.length ∧ (∀ (i : Nat) b, met[i]? = some b → ∃ st n, sp[i]? = some (st, n) ∧ 1 ≤ n ∧ st + n ≤ out.length ∧ b = (out.drop st).take n) ∧ p + s = out.length ∧ last = out.drop p
/-- The spans once the last string is entered. -/
def sp2 (sp : List (Nat × Nat)) (p s : Nat) : List (Nat × Nat) := if s = 0 then sp else sp ++ [(p, s + 1)]
theorem last_len {out last : List UInt8} {p s : Nat} (h : p + s = out.length) (hl : last = out.drop p) : last.length = s := by rw [hl]; simp; omega
theorem ap_bytes {out : List UInt8} {met : List (List UInt8)} {last : List UInt8} {sp : List (Nat × Nat)} {p s cd : Nat} (h : SpanRel out met last sp p s) (h5 : cd < 512) :
    apS out (sp2 sp p s) cd = if (bytes4 met last cd).length ≠ 0 ∧ out.length + (bytes4 met last cd).length ≤ 200 then some (out ++ bytes4 met last cd) else none := by
  obtain ⟨h1, h2, h3, h4⟩ := h
  have hll := last_len h3 h4
  unfold apS bytes4
  by_cases hc : cd < 256
  · rw [if_pos hc, if_pos hc]
    simp
  · rw [if_neg hc, if_neg hc]
    by_cases hi : cd - 257 < met.length
    · rw [if_pos hi]
      obtain ⟨b, hb⟩ : ∃ b, met[cd - 257]? = some b := ⟨_, List.getElem?_eq_getElem hi⟩
      obtain ⟨st, n, e1, e2, e3, e4⟩ := h2 _ b hb
      have e5 : (sp2 sp p s)[cd - 257]? = some (st, n) := by
        unfold sp2
        split
        · exact e1
        · rw [List.getElem?_append_left (by omega)]; exact e1
      have hbl : b.length = n := by rw [e4]; simp; omega
      rw [e5, hb]
      simp only [Option.getD_some]
      rw [copyN_in out st n e3, ← e4, hbl]
      by_cases hq : out.length + n ≤ 200
      · rw [if_pos hq, if_pos ⟨by omega, hq⟩]
      · rw [if_neg hq, if_neg (fun q => hq q.2)]
    · rw [if_neg hi]
      by_cases hj : cd - 257 = met.length ∧ 0 < last.length ∧ cd < 512
      · rw [if_pos hj]
        have e5 : (sp2 sp p s)[cd - 257]? = some (p, s + 1) := by
          unfold sp2
          rw [if_neg (by omega), List.getElem?_append_right (by omega), show cd - 257 - sp.length = 0 from by omega]
          rfl
        have hbl : (last ++ last.take 1).length = s + 1 := by simp; omega
        rw [e5]
        simp only
        rw [copyN_over out p s h3 (by omega), ← h4, hbl]
        by_cases hq : out.length + (s + 1) ≤ 200
        · rw [if_pos hq, if_pos ⟨by omega, hq⟩]
        · rw [if_neg hq, if_neg (fun q => hq q.2)]
      · rw [if_neg hj]
        have e5 : (sp2 sp p s)[cd - 257]? = none := by
          unfold sp2
          split
          · exact List.getElem?_eq_none (by omega)
          · refine List.getElem?_eq_none ?_
            simp
            omega
        rw [e5]
        simp
/-- Behind a code. -/
theorem span_next {out : List UInt8} {met : List (List UInt8)} {last : List UInt8} {sp : List (Nat × Nat)} {p s : Nat} {b : List UInt8} (h : SpanRel out met last sp p s) (hm : met.length < 255) (hb : b.length ≠ 0) : SpanRel (out ++ b) (meet4 met last b) b (sp2 sp p s) out.length b.length := by
  obtain ⟨h1, h2, h3, h4⟩ := h
  have hll := last_len h3 h4
  have hold : ∀ st n, st + n ≤ out.length → (out.drop st).take n = ((out ++ b).drop st).take n := by
    intro st n hle
    rw [List.drop_append_of_le_length (by omega), List.take_append_of_le_length (by simp; omega)]
  refine ⟨?_, fun i x hx => ?_, by simp, by simp⟩
  · unfold sp2 meet4
    by_cases hs : s = 0
    · rw [if_pos hs, if_neg (by omega)]; exact h1
    · rw [if_neg hs, if_pos ⟨by omega, hm⟩]; simp [h1]
  · unfold meet4 at hx
    by_cases hs : s = 0
    · rw [if_neg (by omega)] at hx
      obtain ⟨st, n, e1, e2, e3, e4⟩ := h2 i x hx
      exact ⟨st, n, by unfold sp2; rw [if_pos hs]; exact e1, e2, by simp; omega, by rw [e4]; exact hold st n e3⟩
    · rw [if_pos ⟨by omega, hm⟩] at hx
      by_cases hi : i < met.length
      · rw [List.getElem?_append_left hi] at hx
        obtain ⟨st, n, e1, e2, e3, e4⟩ := h2 i x hx
        exact ⟨st, n, by unfold sp2; rw [if_neg hs, List.getElem?_append_left (by omega)]; exact e1, e2, by simp; omega, by rw [e4]; exact hold st n e3⟩
      · rw [List.getElem?_append_right (by omega)] at hx
        have hi2 := (List.getElem?_eq_some_iff.1 hx).1
        simp at hi2
        have hi3 : i = met.length := by omega
        subst hi3
        simp at hx
        subst hx
        refine ⟨p, s + 1, by unfold sp2; rw [if_neg hs, List.getElem?_append_right (by omega), h1, Nat.sub_self]; rfl, by omega, by simp; omega, ?_⟩
        rw [List.drop_append_of_le_length (by omega), ← h4, List.take_append, show s + 1 - last.length = 1 from by omega, List.take_of_length_le (l := last) (by omega)]
theorem span_at {out : List UInt8} {met : List (List UInt8)} {last : List UInt8} {sp : List (Nat × Nat)} {p s i st n : Nat} (h : SpanRel out met last sp p s) (hi : (sp2 sp p s)[i]? = some (st, n)) : st < out.length ∧ n ≤ out.length + 1 := by
  obtain ⟨h1, h2, h3, h4⟩ := h
  have hold : sp[i]? = some (st, n) → st < out.length ∧ n ≤ out.length + 1 := fun e => by
    have hil := (List.getElem?_eq_some_iff.1 e).1
    obtain ⟨b, hb⟩ : ∃ b, met[i]? = some b := ⟨_, List.getElem?_eq_getElem (by omega)⟩
    obtain ⟨st', n', e1, e2, e3, -⟩ := h2 i b hb
    rw [e] at e1
    injection e1 with e1
    injection e1 with q1 q2
    omega
  unfold sp2 at hi
  split at hi
  · exact hold hi
  · by_cases hil : i < sp.length
    · rw [List.getElem?_append_left hil] at hi
      exact hold hi
    · rw [List.getElem?_append_right (by omega)] at hi
      have hi2 := (List.getElem?_eq_some_iff.1 hi).1
      simp at hi2
      have hi3 : i - sp.length = 0 := by omega
      rw [hi3] at hi
      simp at hi
      obtain ⟨rfl, rfl⟩ := hi
      omega
/-- Block gu is an unpacker of out, what was met and the last string. -/
def Unp (w : World) (base gu : Nat) (out : List UInt8) (met : List (List UInt8)) (last : List UInt8) : Prop :=
  ∃ vo vs sp p s, UnB w gu vo vs p s ∧ Own w base vo out ∧ OwnSp w base vs sp ∧ SpanRel out met last sp p s
/-- appendString for every code. -/
theorem apString_any (base gu : Nat) (vo vs : Value) (out : List UInt8) (sp : List (Nat × Nat)) (p s cd : Nat) (w : World) (h : UnB w gu vo vs p s) (ho : Own w base vo out) (hsp : OwnSp w base vs sp) (h5 : cd < 512) (h6 : cd ≠ 256) (hs : ∀ (i st n : Nat), sp[i]? = some (st, n) → st < out.length ∧ n ≤ 300) (hol : out.length ≤ 200) (hg : base ≤ gu) (hbw : base ≤ w.heap.size) :
    Calls Tryd.prog 52 #[.pointer (some ⟨gu, 0, none⟩), .int .i64 (cd : Int)] w (ApOut base gu vs sp p s (apS out sp cd) w) := by
  by_cases hc : cd < 256
  · have e : (UInt8.ofNat cd).toNat = cd := by simp; omega
    have := apString_byte base gu vo vs out sp p s (UInt8.ofNat cd) w h ho hsp hol hg hbw
    rw [e] at this
    exact this
  · obtain ⟨j, rfl⟩ : ∃ j, cd = 257 + j := ⟨cd - 257, by omega⟩
    cases hj : sp[j]? with
    | none => exact apString_none base gu vo vs out sp p s j w h hsp (List.getElem?_eq_none_iff.1 hj) (by omega)
    | some q =>
      obtain ⟨st, n⟩ := q
      obtain ⟨k1, k2⟩ := hs j st n hj
      exact apString_span base gu vo vs out sp p s j st n w h ho hsp hj (by omega) k1 k2 hol hg hbw
/-- What put answers and leaves. -/
def PutU (base gu : Nat) (out : List UInt8) (met : List (List UInt8)) (last b : List UInt8) (w : World) (e : Ending) (w' : World) : Prop :=
  e = .returned (.bool (decide (b.length ≠ 0 ∧ out.length + b.length ≤ 200))) ∧ ((b.length ≠ 0 ∧ out.length + b.length ≤ 200) → Unp w' base gu (out ++ b) (meet4 met last b) b) ∧ FrT w w' ∧ Below base w w'
/-- enterPrevious, whatever the last string is. -/
theorem enterPrev_any (base gu : Nat) (vo vs : Value) (out : List UInt8) (sp : List (Nat × Nat)) (p s : Nat) (w : World) (h : UnB w gu vo vs p s) (ho : Own w base vo out) (hsp : OwnSp w base vs sp) (hs2 : s ≤ 1000) (hl : sp.length < 255) (hg : base ≤ gu) (hbw : base ≤ w.heap.size) :
    Calls Tryd.prog 51 #[.pointer (some ⟨gu, 0, none⟩)] w (EpOut base gu vo out (sp2 sp p s) p s w) := by
  by_cases hs : s = 0
  · subst hs
    refine (enterPrev_zero gu vo vs p w h).mono ?_
    rintro e w' ⟨rfl, rfl⟩
    exact ⟨rfl, ⟨vs, h, hsp, ho⟩, FrT.refl _, Below.refl _ _⟩
  · have := enterPrev_more base gu vo vs out sp p s w h ho hsp (by omega) hs2 hl hg hbw
    unfold sp2
    rw [if_neg hs]
    exact this
set_option maxHeartbeats 2000000 in
theorem putU_any (base gu cd : Nat) (out : List UInt8) (met : List (List UInt8)) (last : List UInt8) (w : World) (h : Unp w base gu out met last) (h5 : cd < 512) (h6 : cd ≠ 256) (hm : met.length < 255) (hol : out.length ≤ 200) (hg : base ≤ gu) (hbw : base ≤ w.heap.size) :
    Calls Tryd.prog 35 #[.pointer (some ⟨gu, 0, none⟩), .int .i64 (cd : Int)] w (PutU base gu out met last (bytes4 met last cd) w) := by
  obtain ⟨vo, vs, sp, p, s, hU, hO, hP, hR⟩ := h
  have hsl : s ≤ out.length := by have := hR.2.2.1; omega
  have CE := Lib.hid (enterPrev_any base gu vo vs out sp p s w hU hO hP (by omega) (by have := hR.1; omega) hg hbw)
  have CA := Lib.hid fun vs' W (hU : UnB W gu vo vs' p s) hO hP hbW => apString_any base gu vo vs' out (sp2 sp p s) p s cd W hU hO hP h5 h6 (fun i st n hi => by have := span_at hR hi; omega) hol hg hbW
  rw [ap_bytes hR h5] at CA
  have HN := Lib.hid (fun (b : List UInt8) hb => span_next (b := b) hR hm hb)
  have HOL := Lib.hid hol
  generalize bytes4 met last cd = b at *
  obtain ⟨Ao, co, rfl, -, -⟩ := hO.has
  clear hU hO hP hR h5 h6 hm hsl hol
  go_enter Tryd.func35, Tryd.ntmps35
  go_wp2_with fail
  refine CE.out.mono ?_
  rintro e w1 ⟨rfl, ⟨vs1, hU1, hP1, hO1⟩, hF1, hB1⟩
  have c0 := hU1.c0
  have CA1 := Lib.hid (CA.out vs1 w1 hU1 hO1 hP1 (Nat.le_trans hbw hB1.size))
  have HF1 := Lib.hid (And.intro hF1 hB1)
  clear CE CA hU1 hP1 hO1 hF1 hB1
  unfold ApOut at CA1
  go_wp2_with fail
  refine CA1.out.mono ?_
  rintro e w2 ⟨rfl, hs2, hF2, hB2⟩
  have hF := HF1.out.1.trans hF2
  have hB := HF1.out.2.trans hB2
  clear CA1 HF1 hF2 hB2 c0
  by_cases hq : b.length ≠ 0 ∧ out.length + b.length ≤ 200
  · rw [if_pos hq] at hs2 ⊢
    obtain ⟨vo2, hU2, hP2, hO2⟩ := hs2 _ rfl
    obtain ⟨A2, c2, rfl, -, -⟩ := hO2.has
    have d0 := hU2.c0
    have d2 := hU2.c2
    have d3 := hU2.c3
    have f2 := hU2.free 2
    have f3 := hU2.free 3
    have hlen : (out ++ b).length = out.length + b.length := by simp
    rw [hlen] at d0
    have hset : UnB ((w2.setCell ⟨gu, 2, none⟩ (.int .i64 (out.length : Int))).setCell ⟨gu, 3, none⟩ (.int .i64 (b.length : Int))) gu (.slice A2 (out ++ b).length c2) vs1 out.length b.length := by
      have s1 := heap_setCell_same _ gu 2 _ _ (.int .i64 (out.length : Int)) hU2
      have s2 := heap_setCell_same _ gu 3 _ _ (.int .i64 (b.length : Int)) s1
      exact s2
    have hU2' : UnB (w2.setCell ⟨gu, 2, none⟩ (.int .i64 (out.length : Int))) gu (.slice A2 (out ++ b).length c2) vs1 out.length s := heap_setCell_same _ gu 2 _ _ (.int .i64 (out.length : Int)) hU2
    have hoth : ∀ (q : Nat) cs t fr, w2.heap[q]? = some (.cells cs t fr) → t ≠ 60 → ((w2.setCell ⟨gu, 2, none⟩ (.int .i64 (out.length : Int))).setCell ⟨gu, 3, none⟩ (.int .i64 (b.length : Int))).heap[q]? = w2.heap[q]? := fun q cs t fr hb ht => by
      have e1 := setU_other (i := 2) (x := .int .i64 (out.length : Int)) hU2 hb ht
      exact (setU_other (i := 3) (x := .int .i64 (b.length : Int)) hU2' (e1.trans hb) ht).trans e1
    have HQ : Hid (PutU base gu out met last b w (.returned (.bool true)) ((w2.setCell ⟨gu, 2, none⟩ (.int .i64 (out.length : Int))).setCell ⟨gu, 3, none⟩ (.int .i64 (b.length : Int)))) := Lib.hid (by
      refine ⟨by rw [decide_eq_true hq], fun _ => ⟨_, vs1, sp2 sp p s, _, _, hset, ?_, ?_, HN.out b hq.1⟩, hF.trans fun q cs t fr hb h1 _ _ => hoth q cs t fr hb h1, below_cell (below_cell hB hg) hg⟩
      · exact row_move hO2 fun q cs fr hb => hoth q cs _ fr hb (by decide)
      · exact row_move hP2 fun q cs fr hb => hoth q cs _ fr hb (by decide))
    have hb3 : (out.length : Int) ≤ 1000 ∧ (b.length : Int) ≤ 1000 := by have := HOL.out; omega
    clear hU2 hP2 hO2 hset hU2' hoth hF hB hs2 HN hlen hq
    go_wp2
    go_ret
    rw [show (out.length : Int) + (b.length : Int) - (out.length : Int) = (b.length : Int) from by omega]
    exact HQ.out
  · rw [if_neg hq] at hs2 ⊢
    have HQ : Hid (PutU base gu out met last b w (.returned (.bool false)) w2) := Lib.hid ⟨by rw [decide_eq_false hq], fun h => absurd h hq, hF, hB⟩
    clear hs2 hF hB hq HN
    go_wp2
    go_ret
    exact HQ.out
end Go.Proofs.YtofphjfgaihjhaaDoor
