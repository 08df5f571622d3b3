/-
  The program's PakGet, whole. Conditions: the bytes are read from memory that was there; the errors of reading are not nil.
-/
import Derived.Test.YtofphjfgaihjhaaDoorPakIG
namespace Go.Proofs.YtofphjfgaihjhaaDoor
open Go.RowKit

set_option maxRecDepth 100000 in
set_option maxHeartbeats 4000000 in
theorem implPakGet_any (A : Option Addr) (c : Nat) (l : List UInt8) (w : World) (hs : l.length ≤ 1073741824) (h : Has w w.heap.size A l) (he : Errs w) :
    Calls Tryd.prog 14 #[.slice A l.length c] w (PakGOut l w) := by
  have CN := Lib.hid (newBitReader_any A c l 0 w h he.2.1)
  have hge : 2 < w.heap.size := he.2.2.lt
  have HEB : Hid (∀ W, Below w.heap.size w W → ErrV W 2) := Lib.hid fun W hb => he.2.2.below hb hge
  have HGE := Lib.hid hge
  have CG := Lib.hid fun (p : Nat) (W : World) (hr : RdB W w.heap.size A c l (p : Int) .nilIface) (hp : p < 9000) hb => get_pos w.heap.size A c l p 9 W hr hs (by omega) (by omega) (HEB.out W hb) HGE.out
  have HS := Lib.hid hs
  clear h hs he hge
  go_enter Tryd.func14, Tryd.ntmps14
  go_wp2_with fail
  refine CN.out.mono ?_
  rintro e w1 ⟨rfl, hn1, hb1⟩
  have hr1 : RdB w1 w.heap.size A c l 0 .nilIface := by
    rcases hn1 with ⟨-, h⟩ | ⟨h, -⟩
    · exact h
    · omega
  have hg1 := hr1.lt
  have hu2 := unp_new w1 w.heap.size
  have b2 : Below w1.heap.size w1 (w1.alloc (.cells #[.slice none 0 0, .slice none 0 0, .int .i64 0, .int .i64 0] 60)) := (Below.refl _ w1).alloc (Nat.le_refl _) _
  have hr2 : RdB (w1.alloc (.cells #[.slice none 0 0, .slice none 0 0, .int .i64 0, .int .i64 0] 60)) w.heap.size A c l 0 .nilIface := hr1.fr (FrT.alloc w1 _) (b2.mono (Nat.le_of_lt hg1))
  have B2 := hb1.trans (b2.mono hb1.size)
  have CG2 := Lib.hid (CG.out 0 _ hr2 (by omega) B2)
  have HG1 := Lib.hid hg1
  clear CN hn1 hb1 hr1 b2
  go_upto_region 3 with fail
  generalize w1.alloc (.cells #[.slice none 0 0, .slice none 0 0, .int .i64 0, .int .i64 0] 60) = w2 at *
  have HI := Lib.hid (And.intro hu2 (And.intro hr2 B2))
  clear hu2 hr2 B2 hg1
  go_wp2_with fail
  refine CG2.out.mono ?_
  rintro e w3 ⟨rfl, hgot3, hg3⟩
  have HS3 : Hid (GotP w3 w.heap.size A c l (bitGetB l ((9 * 0 : Nat) : Int) 9) ((9 * 0 + 9 : Nat) : Int) ∧ Unp w3 w.heap.size w1.heap.size [] [] [] ∧ Below w.heap.size w w3) := Lib.hid ⟨hgot3, HI.out.1.read HI.out.2.1 hg3, HI.out.2.2.grown hg3 HI.out.2.2.size (fun k hk => by injection hk with hk; omega)⟩
  clear CG2 hgot3 hg3 HI
  go_wp2_with fail
  go_loopw [6] (fun v6 wr => ∃ (i : Nat) (out : List UInt8) (met : List (List UInt8)) (last : List UInt8), v6 = .int .i64 ((bitGetN l ((9 * i : Nat) : Int) 9 : Nat) : Int) ∧ GotP wr w.heap.size A c l (bitGetB l ((9 * i : Nat) : Int) 9) ((9 * i + 9 : Nat) : Int) ∧ Unp wr w.heap.size w1.heap.size out met last ∧ Below w.heap.size w wr ∧
      get4 l (356 - i) (9 * i) out met last = pakGetO l ∧ i ≤ out.length ∧ out.length ≤ 200 ∧ met.length ≤ out.length) (fun _ wr => 201 - outLen wr w1.heap.size)
  case atStart => exact ⟨0, [], [], [], rfl, HS3.out.1, HS3.out.2.1, HS3.out.2.2, rfl, by simp, by simp, by simp⟩
  case round =>
    clear HS3
    obtain ⟨i, out, met, last, rfl, hgot, hu, hB, hget, hi, hol, hml⟩ := hrel
    rcases hgot with ⟨hbt, hr⟩ | ⟨hbt, a, x, y, hr⟩
    · have hlen : ¬ 8 * l.length < 9 * i + 9 := by
        have := of_decide_eq_true hbt
        omega
      have hN : bitGetN l ((9 * i : Nat) : Int) 9 = getN l (9 * i) 9 := by unfold bitGetN; rw [hbt, if_pos rfl]; rfl
      rw [hN]
      have hcl := getN_lt l (9 * i) 9
      have c2 := hr.c2
      by_cases hc : getN l (9 * i) 9 = 256
      · have hend := get4_end (out := out) (met := met) (last := last) (by omega) hlen hc
        rw [hget] at hend
        rw [hc]
        obtain ⟨q, hq⟩ : ∃ q, 9 * i + 9 + q = 8 * l.length := ⟨8 * l.length - (9 * i + 9), by omega⟩
        have CO := Lib.hid (onlyPadding_any w.heap.size (9 * i + 9) q A c l wr hr HS.out hq (HEB.out _ hB) HGE.out)
        have HU := Lib.hid (And.intro hu hr)
        have HB := Lib.hid hB
        have HEN := Lib.hid hend
        clear hr hu hB hget hi hol hml hc hcl hN hbt hlen hend hq c2 CG
        generalize padB l (9 * i + 9) = pb at *
        go_wp2_with fail
        refine CO.out.mono ?_
        rintro e w5 ⟨rfl, g5⟩
        have hB5 := HB.out.grown g5 HB.out.size (fun k hk => by injection hk with hk; omega)
        obtain ⟨vo, vs, sp, p, s, hU, hO, -, -⟩ := HU.out.1.read HU.out.2 g5
        have c0 := hU.c0
        cases pb
        · have HF := Lib.hid (pakGOut_none HEN.out hB5)
          clear hU hO hB5 g5 CO HU HB HEN
          go_wp2_with fail
          go_ret2
          exact HF.out
        · have HF : Hid (PakGOut l w (.returned (.tuple #[vo, .bool true])) w5) := Lib.hid ⟨_, by rw [HEN.out]; rfl, by rw [HEN.out]; exact hO, hB5⟩
          clear hU hO hB5 g5 CO HU HB HEN
          go_wp2_with fail
          go_ret2
          exact HF.out
      · obtain ⟨cd, hcd⟩ : ∃ cd, getN l (9 * i) 9 = cd := ⟨_, rfl⟩
        have hst := get4_step (out := out) (met := met) (last := last) (by omega) hlen hc rfl
        rw [hget, hcd] at hst
        rw [hcd] at hc hcl
        rw [hcd]
        have CP := Lib.hid (putU_any w.heap.size w1.heap.size cd out met last wr hu (by omega) hc (by omega) hol (Nat.le_of_lt HG1.out) hB.size)
        have hcI : ¬ (cd : Int) = 256 := by omega
        have hcB : ((cd : Int) == 256) = false := beq_eq_false_iff_ne.2 hcI
        have HR := Lib.hid hr
        have HB := Lib.hid hB
        have HST := Lib.hid hst
        have HI := Lib.hid (And.intro hi (And.intro hol (And.intro hml hlen)))
        have HOL : Hid (outLen wr w1.heap.size = out.length) := Lib.hid hu.len
        generalize bytes4 met last cd = b at *
        clear hr hu hB hget hi hol hml hc hcl hN hbt hlen hst hcd
        unfold PutU at CP
        go_wp2_with fail
        refine CP.out.mono ?_
        rintro e w5 ⟨rfl, hu5, hF5, hB5⟩
        have hr5 := HR.out.fr hF5 hB5
        have hBB := HB.out.trans hB5
        clear CP hF5 hB5 c2
        by_cases hq : b.length ≠ 0 ∧ out.length + b.length ≤ 200
        · rw [decide_eq_true hq]
          have hu6 := hu5 hq
          have hst := HST.out
          rw [if_pos hq] at hst
          have CG6 := Lib.hid (CG.out (9 * (i + 1)) w5 (by rw [show ((9 * (i + 1) : Nat) : Int) = ((9 * i + 9 : Nat) : Int) from by omega]; exact hr5) (by have := HI.out; omega) hBB)
          have HU6 := Lib.hid (And.intro hu6 (And.intro hr5 hBB))
          have HQ := Lib.hid hq
          have HS6 := Lib.hid hst
          clear hu5 hu6 hr5 hBB hst hq CG
          go_wp2_with fail
          refine CG6.out.mono ?_
          rintro e w7 ⟨rfl, hgot7, hg7⟩
          have HG7 := Lib.hid hgot7
          have HU7 := Lib.hid (HU6.out.1.read HU6.out.2.1 hg7)
          have HB7 := Lib.hid (HU6.out.2.2.grown hg7 HU6.out.2.2.size (fun k hk => by injection hk with hk; omega))
          clear hgot7 hg7 CG6
          go_wp2_with fail
          go_roundw
          case rel =>
            refine ⟨i + 1, out ++ b, meet4 met last b, b, rfl, ?_, HU7.out, HB7.out, HS6.out.symm, ?_, ?_, ?_⟩
            · exact HG7.out
            · have := HI.out.1; have := HQ.out.1; simp; omega
            · have := HQ.out.2; simp; omega
            · have := HI.out.2.2.1
              have h1 := HQ.out.1
              unfold meet4
              split
              · simp; omega
              · simp; omega
          case measure =>
            have h7 := HU7.out.len
            rw [h7, HOL.out]
            have := HQ.out
            simp
            omega
        · rw [decide_eq_false hq]
          have hst := HST.out
          rw [if_neg hq] at hst
          have HF := Lib.hid (pakGOut_none hst hBB)
          clear hu5 hr5 hBB hst hq CG
          go_wp2_with fail
          go_ret2
          exact HF.out
    · have hN : bitGetN l ((9 * i : Nat) : Int) 9 = 0 := bitGetN_no hbt
      rw [hN]
      have c2 := hr.c2
      have hlen : 8 * l.length < 9 * i + 9 := by
        have := of_decide_eq_false hbt
        omega
      have hf := get4_fail (out := out) (met := met) (last := last) (by omega) hlen
      rw [hget] at hf
      have HF := Lib.hid (pakGOut_none hf hB)
      clear hr hu hB hget hi hol hml hN hbt hlen hf CG
      go_wp2_with fail
      go_ret2
      exact HF.out
end Go.Proofs.YtofphjfgaihjhaaDoor
