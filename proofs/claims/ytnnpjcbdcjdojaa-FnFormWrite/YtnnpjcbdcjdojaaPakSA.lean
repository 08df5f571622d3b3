/-
  The reference's l4At and l4Code: where bytes stand among what was met, and their code. Condition: the slices are read from memory that was there.
-/
import Derived.Test.YtnnpjcbdcjdojaaBb
import Derived.Test.YtnnpjcbdcjdojaaPak
namespace Go.Proofs.Ytnnpjcbdcjdojaa
set_option maxRecDepth 4000
open Go.RowKit

/-- Where bytes stand, as the reference has it. -/
def atI (met : List (List UInt8)) (b : List UInt8) : Int := match at4 met b with
  | some k => (k : Int)
  | none => -1
set_option maxHeartbeats 1000000 in
theorem l4At_any (A : Option Addr) (c : Nat) (m : List (List UInt8)) (A' : Option Addr) (c' : Nat) (b : List UInt8) (w : World) (hs : m.length ≤ 1000) (h : HasBB w A m) (h' : Has w w.heap.size A' b) :
    Calls Try.prog 84 #[.slice A m.length c, .slice A' b.length c'] w fun e w' => e = .returned (.int .i64 (atI m b)) ∧ Below w.heap.size w w' := by
  have hsI : (m.length : Int) ≤ 1000 := by omega
  have HH := Lib.hid h
  have HH' := Lib.hid h'
  clear h h' hs
  go_enter Try.func84, Try.ntmps84
  go_wp2_with fail
  go_loopw [5] (fun i wr => ∃ k : Nat, k ≤ m.length ∧ i = .int .i64 k ∧ (∀ j, j < k → m[j]? ≠ some b) ∧ Below w.heap.size w wr) (fun i _ => m.length - (intOf i).toNat)
  case atStart => exact ⟨0, Nat.zero_le _, rfl, fun j hj => by omega, Below.refl _ _⟩
  case round =>
    obtain ⟨k, hk, rfl, hno, hbel⟩ := hrel
    have HN := Lib.hid hno
    have HB := Lib.hid hbel
    have h1 := HH.out.below hbel
    have t2 := fun n => text_of_has ((HH'.out.carry hbel (Nat.le_refl _) hbel.size).drewN n) c'
    clear hno hbel
    by_cases hlt : k < m.length
    · obtain ⟨g, o, x, A1, c1, rfl, hg, hx, hcell, -, hx1⟩ := h1.spot hlt
      have t1 := fun n => text_of_has (hx1.drewN n) c1
      clear hx1 h1
      by_cases hxb : x = b
      · subst hxb
        have HR : Hid (atI m x = (k : Int)) := Lib.hid (by unfold atI; rw [at4_mk hx HN.out])
        clear hx
        go_wp2
        go_quiet (fail)
        go_wp2
        go_ret
        exact ⟨by rw [HR.out]; rfl, below_draws HB.out _⟩
      · have hs : (x == b) = false := beq_eq_false_iff_ne.2 hxb
        have HX := Lib.hid hx
        have HXB := Lib.hid hxb
        clear hx hxb
        go_wp2
        go_quiet (fail)
        go_wp2
        go_roundw
        case rel =>
          refine ⟨k + 1, by omega, by go_num, fun j hj => ?_, below_draws HB.out _⟩
          rcases Nat.lt_succ_iff_lt_or_eq.1 hj with h | rfl
          · exact HN.out j h
          · rw [HX.out]; exact fun e => HXB.out (Option.some.inj e)
        case measure => simp [intOf]; omega
    · have HR : Hid (atI m b = -1) := Lib.hid (by
        unfold atI
        rw [at4_none.2 fun hm => ?_]
        obtain ⟨j, hj, e⟩ := List.getElem_of_mem hm
        exact HN.out j (by omega) (by rw [List.getElem?_eq_getElem hj, e]))
      clear t2 h1
      go_wp2
      go_ret
      exact ⟨by rw [HR.out]; rfl, HB.out⟩

theorem code4_len1 {met : List (List UInt8)} {b : List UInt8} {x : UInt8} (h : b.length = 1) (hx : b[0]? = some x) : codeI met b = (x.toNat : Int) := by
  obtain ⟨y, rfl⟩ := List.length_eq_one_iff.1 h
  simp at hx
  subst hx
  rfl
theorem codeI_at {met : List (List UInt8)} {b : List UInt8} (h : b.length ≠ 1) : codeI met b = if atI met b < 0 then -1 else 257 + atI met b := by
  unfold codeI atI
  rw [code4_more h]
  cases at4 met b with
  | none => rfl
  | some k =>
    simp only [Option.map_some]
    rw [if_neg (by omega)]
    simp
theorem atI_le (met : List (List UInt8)) (b : List UInt8) : -1 ≤ atI met b ∧ atI met b < (met.length : Int) + 1 := by
  unfold atI
  cases h : at4 met b with
  | none => simp; omega
  | some k =>
    have := (at4_some h).2.1
    simp
    omega
set_option maxHeartbeats 1000000 in
theorem l4Code_any (A : Option Addr) (c : Nat) (m : List (List UInt8)) (A' : Option Addr) (c' : Nat) (b : List UInt8) (w : World) (hs : m.length ≤ 1000) (h : HasBB w A m) (h' : Has w w.heap.size A' b) :
    Calls Try.prog 82 #[.slice A m.length c, .slice A' b.length c'] w fun e w' => e = .returned (.int .i64 (codeI m b)) ∧ Below w.heap.size w w' := by
  have CA := Lib.hid (l4At_any A c m A' c' b w hs h h')
  by_cases h1 : b.length = 1
  · obtain ⟨g, o, x, rfl, hg, hx, hcell⟩ := h'.spot (k := 0) (by omega)
    have HR := Lib.hid (code4_len1 (met := m) h1 hx)
    rw [h1]
    rw [Nat.add_zero] at hcell
    have hxl : (x.toNat : Int) < 256 := by have := x.toNat_lt; omega
    clear h hs h' hx h1 CA
    go_enter Try.func82, Try.ntmps82
    go_wp2
    go_ret
    exact ⟨by rw [HR.out]; rfl, Below.refl _ _⟩
  · have h1I : ¬ ((b.length : Int) = 1) := by omega
    have HR := Lib.hid (codeI_at (met := m) h1)
    have hr := atI_le m b
    have hsI : (m.length : Int) ≤ 1000 := by omega
    clear h h' h1
    generalize atI m b = z at *
    go_enter Try.func82, Try.ntmps82
    go_wp2_with fail
    refine CA.out.mono ?_
    rintro e w1 ⟨rfl, b1⟩
    clear CA
    by_cases hz : z < 0
    · go_wp2
      go_ret
      exact ⟨by rw [HR.out, if_pos hz]; rfl, b1⟩
    · go_wp2
      go_ret
      exact ⟨by rw [HR.out, if_neg (by omega)]; rfl, b1⟩
end Go.Proofs.Ytnnpjcbdcjdojaa
