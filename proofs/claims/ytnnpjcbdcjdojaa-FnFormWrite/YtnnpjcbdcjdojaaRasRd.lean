/-
  RasRead of the reference, begun: what it reads, in plain words, and that fewer than six bytes are nothing. No condition.
-/
import Derived.Test.YtnnpjcbdcjdojaaRasBy
import Derived.Test.YtnnpjcbdcjdojaaPushP
namespace Go.Proofs.Ytnnpjcbdcjdojaa
set_option maxRecDepth 4000
open Go.RowKit

theorem results_row_tmp {P : Program} {fn : Func} {p u : Tmp} {ty : TypeId} (h : fn.results = #[.cell p ty, .tmp u]) (tmps : Array Value) (w : World) (g : Nat) (t : TypeId) (cs : Array Value) (fr : Nat × Nat) (d : TypeDesc) (b : Value)
    (hp : tmps.getD p undef = .pointer (some ⟨g, 0, none⟩)) (hb : tmps.getD u undef = b) (hg : w.heap[g]? = some (.cells cs t fr))
    (hu : P.underlying ty = some d) (hd : (match d with | .struct _ | .array _ _ => true | _ => false) = true) (hi : (P.info? ty).map (·.size) = some cs.size) :
    (results fn tmps).run P w = .ok (.tuple #[.agg cs, b]) w := by
  rw [results_cell_tmp h, hp, hb]
  simp [asAddr, run_loadVar_row w g t ty cs fr d hg hu hd hi, Result.andThen]
/-- A byte as a number. -/
def byN (l : List UInt8) (i : Nat) : Int := ((l[i]?.getD 0).toNat : Int)
theorem byN_in (l : List UInt8) (i : Nat) : 0 ≤ byN l i ∧ byN l i ≤ 255 := by
  have := (l[i]?.getD 0).toNat_lt
  unfold byN
  omega
/-- The pixel that four bytes make. -/
def pxAt (l : List UInt8) (j : Nat) : Px := ⟨byN l (2 + 4 * j), byN l (3 + 4 * j), byN l (4 + 4 * j), byN l (5 + 4 * j)⟩
def pxs (l : List UInt8) (n : Nat) : List Px := (List.range n).map (pxAt l)
theorem pxs_length (l : List UInt8) (n : Nat) : (pxs l n).length = n := by simp [pxs]
theorem pxs_snoc (l : List UInt8) (n : Nat) : pxs l (n + 1) = pxs l n ++ [pxAt l n] := by simp [pxs, List.range_succ]
/-- Whether there is a raster in the bytes. -/
def rdB (l : List UInt8) : Bool := decide (6 ≤ l.length ∧ (byN l 0 ≤ 6 ∧ byN l 1 ≤ 6) ∧ (l.length : Int) = 2 + 4 * byN l 0 * byN l 1)
theorem Has.by {w : World} {B : Nat} {A : Option Addr} {l : List UInt8} (h : Has w B A l) {i : Nat} (hi : i < l.length) : ∃ b o, A = some ⟨b, o, none⟩ ∧ b < B ∧ w.cell? ⟨b, o + i, none⟩ = some (.int .u8 (byN l i)) := by
  obtain ⟨b, o, x, rfl, hb, hx, hc⟩ := h.spot hi
  refine ⟨b, o, rfl, hb, ?_⟩
  unfold byN
  rw [hx]
  exact hc
/-- What RasRead reads. -/
def rdP (l : List UInt8) : List Px := if rdB l then pxs l (byN l 0 * byN l 1).toNat else []
def rdW (l : List UInt8) : Int := if rdB l then byN l 0 else 0
def rdH (l : List UInt8) : Int := if rdB l then byN l 1 else 0
/-- What RasRead answers: a raster of its own, and whether it is one. -/
def ReadOut (l : List UInt8) (w : World) (e : Ending) (w' : World) : Prop := ∃ A c, e = .returned (.tuple #[rasV (rdW l) (rdH l) A (rdP l).length c, .bool (rdB l)]) ∧ OwnP w' w.heap.size (.slice A (rdP l).length c) (rdP l) ∧ Below w.heap.size w w'
theorem readOut_none {l : List UInt8} {w w' : World} (h : rdB l = false) (hb : Below w.heap.size w w') : ReadOut l w (.returned (.tuple #[.agg #[.int .i64 0, .int .i64 0, .slice none 0 0], .bool false])) w' := by
  have e : rdP l = [] := by unfold rdP; rw [h]; rfl
  refine ⟨none, 0, ?_, ?_, hb⟩
  · unfold rasV rdW rdH
    rw [e, h]
    rfl
  · rw [e]
    exact ownP_nil w' _
theorem rdB_parts {l : List UInt8} (h : rdB l = true) : 6 ≤ l.length ∧ (1 ≤ byN l 0 ∧ byN l 0 ≤ 6) ∧ (1 ≤ byN l 1 ∧ byN l 1 ≤ 6) ∧ (l.length : Int) = 2 + 4 * (byN l 0 * byN l 1) := by
  unfold rdB at h
  rw [decide_eq_true_eq] at h
  obtain ⟨h6, ⟨h0, h1⟩, hl⟩ := h
  have a0 := byN_in l 0
  have a1 := byN_in l 1
  rw [Int.mul_assoc] at hl
  refine ⟨h6, ⟨?_, h0⟩, ⟨?_, h1⟩, hl⟩
  · by_cases k : byN l 0 = 0
    · rw [k] at hl; omega
    · omega
  · by_cases k : byN l 1 = 0
    · rw [k] at hl; omega
    · omega
theorem rdB_no {l : List UInt8} (h : ¬ (6 ≤ l.length ∧ (byN l 0 ≤ 6 ∧ byN l 1 ≤ 6) ∧ (l.length : Int) = 2 + 4 * byN l 0 * byN l 1)) : rdB l = false := decide_eq_false h
end Go.Proofs.Ytnnpjcbdcjdojaa
