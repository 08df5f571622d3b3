/-
  The text of bytes, two digits each: a plain function and its laws. No condition.
-/
import Derived.Test.YtbejafbpipdbjaaDoorBase
namespace Go.Proofs.YtbejafbpipdbjaaDoor
set_option maxRecDepth 4000

/-- A digit as a byte. -/
def dig (n : Nat) : UInt8 := if n < 10 then UInt8.ofNat (48 + n) else UInt8.ofNat (87 + n)
/-- The text of bytes. -/
def hexL (l : List UInt8) : List UInt8 := l.flatMap fun b => [dig (b.toNat / 16), dig (b.toNat % 16)]
theorem hexL_nil : hexL [] = [] := rfl
theorem hexL_cons (b : UInt8) (l : List UInt8) : hexL (b :: l) = dig (b.toNat / 16) :: dig (b.toNat % 16) :: hexL l := rfl
theorem hexL_append (a b : List UInt8) : hexL (a ++ b) = hexL a ++ hexL b := by simp [hexL]
theorem hexL_length (l : List UInt8) : (hexL l).length = 2 * l.length := by
  induction l with
  | nil => rfl
  | cons b l ih => rw [hexL_cons]; simp; omega
theorem hexL_take (l : List UInt8) (k : Nat) (x : UInt8) (hx : l[k]? = some x) : hexL (l.take (k + 1)) = hexL (l.take k) ++ [dig (x.toNat / 16), dig (x.toNat % 16)] := by
  obtain ⟨hk, rfl⟩ := List.getElem?_eq_some_iff.1 hx
  rw [List.take_succ_eq_append_getElem hk, hexL_append]
  rfl
end Go.Proofs.YtbejafbpipdbjaaDoor
