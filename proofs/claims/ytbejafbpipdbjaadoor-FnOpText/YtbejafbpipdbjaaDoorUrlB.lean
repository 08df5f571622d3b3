/-
  Words for strings: a string that holds a list of bytes, and what slicing, joining and comparing make of it. Plain definitions and lemmas; no condition.
-/
import Derived.Test.YtbejafbpipdbjaaDoorElem
import Derived.Laws.Concat
import Derived.Laws.Strings3
import Derived.Laws.DeepStrings4
namespace Go.Proofs.YtbejafbpipdbjaaDoor
set_option maxRecDepth 4000
open Go.RowKit

/-- The string that holds the bytes l. -/
def bs (l : List UInt8) : ByteArray := ⟨l.toArray⟩
theorem bs_data (l : List UInt8) : (bs l).data.toList = l := by simp [bs]
theorem bs_self (s : ByteArray) : bs s.data.toList = s := by cases s; simp [bs]
theorem bs_size (l : List UInt8) : (bs l).size = l.length := by simp [bs, ByteArray.size]
theorem bs_app (a b : List UInt8) : bs a ++ bs b = bs (a ++ b) := by
  apply ByteArray.ext
  simp [bs]
theorem bs_cut (l : List UInt8) (i j : Nat) : (bs l).extract i j = bs ((l.drop i).take (j - i)) := ByteArray.extract_mk l i j
theorem bs_toList (l : List UInt8) : (bs l).toList = l := by rw [ByteArray.toList_eq, bs_data]
theorem bs_inj {a b : List UInt8} (h : bs a = bs b) : a = b := by
  rw [← bs_data a, h, bs_data]
theorem bs_eq (a b : List UInt8) : ((bs a).toList == (bs b).toList) = decide (a = b) := by
  rw [bs_toList, bs_toList]
  by_cases h : a = b
  · subst h
    rw [decide_eq_true rfl]
    exact beq_self_eq_true a
  · rw [decide_eq_false h]
    exact beq_eq_false_iff_ne.mpr h
/-- A character of a string. -/
theorem bs_at (w : World) (l : List UInt8) (k : IntKind) (i : Nat) (x : UInt8) (hx : l[i]? = some x) :
    (Instr.index 9 (.string (bs l)) (.int k (i : Int))).run Tryd.prog w = .ok (.int .u8 (x.toNat : Int)) w := by
  obtain ⟨hi, rfl⟩ := List.getElem?_eq_some_iff.1 hx
  have hz : i < (bs l).size := by
    rw [bs_size]
    exact hi
  rw [run_index_string w _ _ _ _ Tryd.underlying9, dif_pos (by omega)]
  rfl
end Go.Proofs.YtbejafbpipdbjaaDoor
