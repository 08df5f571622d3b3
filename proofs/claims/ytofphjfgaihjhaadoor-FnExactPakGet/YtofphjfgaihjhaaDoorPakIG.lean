/-
  The program's PakGet. Conditions: the bytes are read from memory that was there; the errors of reading are not nil.
-/
import Derived.Test.YtofphjfgaihjhaaDoorPakIV
import Derived.Test.YtofphjfgaihjhaaDoorBitGRd
namespace Go.Proofs.YtofphjfgaihjhaaDoor
open Go.RowKit

theorem getN_zero (l : List UInt8) (a : Nat) : ∀ q, getN l a q = 0 ↔ ∀ t, t < q → bitAt l (a + t) = 0
  | 0 => by simp [getN]
  | q + 1 => by
    have ih := getN_zero l a q
    have h2 : 0 < 2 ^ q := Nat.two_pow_pos q
    rw [getN]
    constructor
    · intro h t ht
      have h1 : getN l a q = 0 := by omega
      have h3 : bitAt l (a + q) * 2 ^ q = 0 := by omega
      rcases Nat.lt_succ_iff_lt_or_eq.1 ht with h | rfl
      · exact ih.1 h1 t h
      · rcases Nat.mul_eq_zero.1 h3 with h | h
        · exact h
        · omega
    · intro h
      rw [ih.2 fun t ht => h t (by omega), h q (by omega)]
      simp
theorem rest_get {l : List UInt8} {a q : Nat} (h : a + q = 8 * l.length) : restB l a = (getN l a q == 0) := by
  rw [Bool.eq_iff_iff]
  unfold restB
  rw [decide_eq_true_eq, beq_iff_eq, getN_zero]
  constructor
  · intro hr t ht
    exact hr (a + t) (by omega) (by omega)
  · intro hr k hk ha
    have := hr (k - a) (by omega)
    rwa [show a + (k - a) = k from by omega] at this
/-- Whether what is left is less than a byte, and noughts. -/
def padB (l : List UInt8) (a : Nat) : Bool := decide ((a + 7) / 8 = l.length ∧ restB l a = true)
theorem padB_zero {l : List UInt8} {a : Nat} (h : a = 8 * l.length) : padB l a = true := by
  unfold padB
  rw [decide_eq_true_eq]
  refine ⟨by omega, ?_⟩
  unfold restB
  rw [decide_eq_true_eq]
  intro k hk ha
  omega
theorem padB_more {l : List UInt8} {a q : Nat} (h : a + q = 8 * l.length) (hq : 8 ≤ q) : padB l a = false := by
  unfold padB
  rw [decide_eq_false_iff_not]
  intro h2
  have := h2.1
  omega
theorem padB_some {l : List UInt8} {a q : Nat} (h : a + q = 8 * l.length) (hq : q < 8) : padB l a = (getN l a q == 0) := by
  rw [← rest_get h]
  unfold padB
  cases e : restB l a with
  | false => simp
  | true => simp; omega
set_option maxRecDepth 100000 in
set_option maxHeartbeats 2000000 in
theorem onlyPadding_any (g a q : Nat) (A : Option Addr) (c : Nat) (l : List UInt8) (w : World) (h : RdB w g A c l (a : Int) .nilIface) (hs : l.length ≤ 1073741824) (ha : a + q = 8 * l.length) (he : ErrV w 2) (hg : 2 < g) :
    Calls Tryd.prog 36 #[.pointer (some ⟨g, 0, none⟩)] w fun e w' => e = .returned (.bool (padB l a)) ∧ w.grownBy w' (some g) := by
  have c0 := h.c0
  have c1 := h.c1
  have CG := Lib.hid fun n (hq : 1 ≤ (q : Int) ∧ (q : Int) ≤ 12) => get_pos g A c l a q (w.drewN n) (h : RdB (w.drewN n) g A c l (a : Int) .nilIface) hs (by omega) hq he hg
  have hl8 : wrap64 (8 * (l.length : Int)) = 8 * (l.length : Int) := by unfold wrap64; omega
  have hl9 : IntKind.i64.wrap (8 * (l.length : Int)) = 8 * (l.length : Int) := IntWalk.i64_in _ (by omega)
  have hd : 8 * (l.length : Int) - (a : Int) = (q : Int) := by omega
  have hw9 : IntKind.i64.wrap (q : Int) = (q : Int) := IntWalk.i64_in _ (by omega)
  have HA := Lib.hid ha
  clear h hs he ha
  go_enter Tryd.func36, Tryd.ntmps36
  go_upto_region 1 with fail
  go_quiet (fail)
  by_cases hq0 : q = 0
  · subst hq0
    have HR : Hid (padB l a = true) := Lib.hid (padB_zero (by have := HA.out; omega))
    clear CG
    go_wp2_with fail
    go_ret
    exact ⟨by rw [HR.out]; rfl, ⟨rfl, rfl, rfl, Nat.le_refl _, fun _ _ _ => rfl⟩⟩
  · have hq0' : ((q : Int) == 0) = false := beq_eq_false_iff_ne.2 (by omega)
    by_cases hq8 : q < 8
    · have hq8' : (q : Int) < 8 := by omega
      have HR := Lib.hid (padB_some HA.out hq8)
      have hB : bitGetB l (a : Int) (q : Int) = true := decide_eq_true (by have := HA.out; omega)
      have CG1 := Lib.hid (CG.out nq (by omega))
      rw [show bitGetN l (a : Int) (q : Int) = getN l a q from by unfold bitGetN; rw [hB]; simp] at CG1
      clear CG hB
      generalize getN l a q = z at *
      go_wp2_with fail
      refine CG1.out.mono ?_
      rintro e w2 ⟨rfl, -, hg2⟩
      have HB2 : Hid (w.grownBy w2 (some g)) := Lib.hid ⟨hg2.os, hg2.tape, hg2.output, hg2.size, hg2.block⟩
      clear hg2 CG1
      go_wp2_with fail
      go_ret
      refine ⟨?_, HB2.out⟩
      rw [HR.out]
      show Ending.returned (Value.bool ((z : Int) == 0)) = Ending.returned (Value.bool (z == 0))
      rw [show ((z : Int) == 0) = (z == 0) from by rw [Bool.eq_iff_iff, beq_iff_eq, beq_iff_eq]; omega]
    · have hq8' : ¬ (q : Int) < 8 := by omega
      have HR := Lib.hid (padB_more HA.out (by omega))
      clear CG
      go_wp2_with fail
      go_ret
      exact ⟨by rw [HR.out]; rfl, ⟨rfl, rfl, rfl, Nat.le_refl _, fun _ _ _ => rfl⟩⟩
/-- A reader stays while an unpacker works. -/
theorem RdB.fr {w w' : World} {g : Nat} {A : Option Addr} {c : Nat} {l : List UInt8} {a : Int} {e : Value} (h : RdB w g A c l a e) (hF : FrT w w') (hB : Below g w w') : RdB w' g A c l a e :=
  ⟨(hF g _ _ _ h.1 (by decide) (by decide) (by decide)).trans h.1, h.2.below hB⟩
theorem Unp.move {w w' : World} {base gu : Nat} {out : List UInt8} {met : List (List UInt8)} {last : List UInt8} (h : Unp w base gu out met last) (hk : ∀ (b : Nat) cs t fr, w.heap[b]? = some (.cells cs t fr) → t ≠ 64 → w'.heap[b]? = w.heap[b]?) : Unp w' base gu out met last := by
  obtain ⟨vo, vs, sp, p, s, hU, hO, hP, hR⟩ := h
  exact ⟨vo, vs, sp, p, s, (hk gu _ _ _ hU (by decide)).trans hU, row_move hO fun b cs fr hb => hk b cs _ fr hb (by decide), row_move hP fun b cs fr hb => hk b cs _ fr hb (by decide), hR⟩
/-- .. while a reader reads. -/
theorem Unp.read {w w' : World} {base gu g : Nat} {out : List UInt8} {met : List (List UInt8)} {last : List UInt8} {A : Option Addr} {c : Nat} {l : List UInt8} {a : Int} {e : Value} (h : Unp w base gu out met last) (hr : RdB w g A c l a e) (hg : w.grownBy w' (some g)) : Unp w' base gu out met last :=
  h.move fun b cs t fr hb ht => hg.block b (Array.getElem?_eq_some_iff.1 hb).1 fun q => by
    injection q with q
    subst q
    have h1 := hr.1
    rw [hb] at h1
    injection h1 with h1
    injection h1 with _ h2 _
    exact ht h2
/-- How long a slice is. -/
def lenV0 : Value → Nat
  | .slice _ n _ => n
  | _ => 0
/-- How much is unpacked. -/
def outLen (w : World) (gu : Nat) : Nat := match w.cell? ⟨gu, 0, none⟩ with
  | some v => lenV0 v
  | none => 0
theorem Unp.len {w : World} {base gu : Nat} {out : List UInt8} {met : List (List UInt8)} {last : List UInt8} (h : Unp w base gu out met last) : outLen w gu = out.length := by
  obtain ⟨vo, vs, sp, p, s, hU, hO, -, -⟩ := h
  obtain ⟨A, c, rfl, -, -⟩ := hO.has
  unfold outLen
  rw [hU.c0]
  rfl
theorem unp_new (w : World) (base : Nat) : Unp (w.alloc (.cells #[.slice none 0 0, .slice none 0 0, .int .i64 0, .int .i64 0] 60)) base w.heap.size [] [] [] :=
  ⟨.slice none 0 0, .slice none 0 0, [], 0, 0, heap_alloc_new w _, own_nil _ _, World.ownsRow_nil _ _ _ _, rfl, fun i b h => by simp at h, rfl, rfl⟩
/-- What PakGet answers. -/
def PakGOut (l : List UInt8) (w : World) (e : Ending) (w' : World) : Prop := ∃ v, e = .returned (.tuple #[v, .bool (pakGetO l).isSome]) ∧ Own w' w.heap.size v ((pakGetO l).getD []) ∧ Below w.heap.size w w'
theorem pakGOut_none {l : List UInt8} {w w' : World} (h : pakGetO l = none) (hb : Below w.heap.size w w') : PakGOut l w (.returned (.tuple #[.slice none 0 0, .bool false])) w' := ⟨_, by rw [h]; rfl, by rw [h]; exact own_nil _ _, hb⟩
theorem get4_fail {l : List UInt8} {i : Nat} {out : List UInt8} {met : List (List UInt8)} {last : List UInt8} (hi : i ≤ 200) (h : 8 * l.length < 9 * i + 9) : get4 l (356 - i) (9 * i) out met last = none := by
  obtain ⟨f, hf⟩ : ∃ f, 356 - i = f + 1 := ⟨355 - i, by omega⟩
  rw [hf, get4, if_pos h]
theorem get4_end {l : List UInt8} {i : Nat} {out : List UInt8} {met : List (List UInt8)} {last : List UInt8} (hi : i ≤ 200) (h : ¬ 8 * l.length < 9 * i + 9) (hc : getN l (9 * i) 9 = 256) : get4 l (356 - i) (9 * i) out met last = if padB l (9 * i + 9) then some out else none := by
  obtain ⟨f, hf⟩ : ∃ f, 356 - i = f + 1 := ⟨355 - i, by omega⟩
  rw [hf, get4, if_neg h, if_pos hc]
  unfold padB
  by_cases hq : (9 * i + 9 + 7) / 8 = l.length ∧ restB l (9 * i + 9) = true
  · rw [if_pos hq, decide_eq_true hq, if_pos rfl]
  · rw [if_neg hq, decide_eq_false hq, if_neg (by simp)]
theorem get4_step {l : List UInt8} {i : Nat} {out : List UInt8} {met : List (List UInt8)} {last b : List UInt8} (hi : i ≤ 200) (h : ¬ 8 * l.length < 9 * i + 9) (hc : getN l (9 * i) 9 ≠ 256) (hb : bytes4 met last (getN l (9 * i) 9) = b) : get4 l (356 - i) (9 * i) out met last = if b.length ≠ 0 ∧ out.length + b.length ≤ 200 then get4 l (356 - (i + 1)) (9 * (i + 1)) (out ++ b) (meet4 met last b) b else none := by
  obtain ⟨f, hf⟩ : ∃ f, 356 - i = f + 1 := ⟨355 - i, by omega⟩
  rw [hf, get4, if_neg h, if_neg hc, hb, show 356 - (i + 1) = f from by omega]
  by_cases hq : b.length ≠ 0 ∧ out.length + b.length ≤ 200
  · rw [if_pos hq, if_neg (by omega)]
    rfl
  · rw [if_neg hq, if_pos (by omega)]
end Go.Proofs.YtofphjfgaihjhaaDoor
