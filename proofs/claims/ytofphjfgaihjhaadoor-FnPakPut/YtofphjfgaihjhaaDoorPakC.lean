/-
  PakPut and PakGet of the program, and PakPut of the reference, as contracts over bytes that are read. Condition: the four errors are not nil.
-/
import Derived.Test.YtofphjfgaihjhaaDoorPakIP
import Derived.Test.YtofphjfgaihjhaaDoorPakIH
namespace Go.Proofs.YtofphjfgaihjhaaDoor
open Go.RowKit

/-- The four errors of bits are not nil. -/
def ErrsA (w : World) : Prop := ErrV w 1 ∧ ErrV w 3 ∧ ErrV w 0 ∧ ErrV w 2
theorem ErrsA.below {w w' : World} (h : ErrsA w) (hb : Below w.heap.size w w') : ErrsA w' :=
  ⟨h.1.below hb h.1.lt, h.2.1.below hb h.2.1.lt, h.2.2.1.below hb h.2.2.1.lt, h.2.2.2.below hb h.2.2.2.lt⟩
/-- What a packer answers. -/
def Packed (l : List UInt8) (w : World) (e : Ending) (w' : World) : Prop := ∃ A c, e = .returned (.slice A (pakPutB l).length c) ∧ (pakPutB l).length ≤ c ∧ Has w' w'.heap.size A (pakPutB l) ∧ Below w.heap.size w w'
theorem packed_of {l : List UInt8} {w : World} {e : Ending} {w' : World} (h : PakOut l w e w') : Packed l w e w' := by
  obtain ⟨v, rfl, ho, hb⟩ := h
  obtain ⟨A, c, rfl, hc, hh⟩ := ho.has
  exact ⟨A, c, rfl, hc, hh, hb⟩
theorem putI (A : Option Addr) (c : Nat) (l : List UInt8) (w : World) (hs : l.length ≤ 1000) (hc : l.length ≤ c) (h : Has w w.heap.size A l) (he : ErrsA w) : Calls Tryd.prog 10 #[.slice A l.length c] w (Packed l w) :=
  (implPakPut_any A c l w (by omega) hc h ⟨he.1, he.2.1⟩).mono fun _ _ h => packed_of h
theorem putS (A : Option Addr) (c : Nat) (l : List UInt8) (w : World) (hs : l.length ≤ 1000) (hc : l.length ≤ c) (h : Has w w.heap.size A l) : Calls Tryd.prog 12 #[.slice A l.length c] w (Packed l w) :=
  (specPakPut_any A c l w (by omega) hc h).mono fun _ _ h => packed_of h
/-- What an unpacker answers. -/
def Unpacked (q : Option (List UInt8)) (w : World) (e : Ending) (w' : World) : Prop := ∃ A c, e = .returned (.tuple #[.slice A (q.getD []).length c, .bool q.isSome]) ∧ (q.getD []).length ≤ c ∧ Has w' w'.heap.size A (q.getD []) ∧ Below w.heap.size w w'
theorem unpacked_of {l : List UInt8} {w : World} {e : Ending} {w' : World} (h : PakGOut l w e w') : Unpacked (pakGetO l) w e w' := by
  obtain ⟨v, rfl, ho, hb⟩ := h
  obtain ⟨A, c, rfl, hc, hh⟩ := ho.has
  exact ⟨A, c, rfl, hc, hh, hb⟩
theorem getI (A : Option Addr) (c : Nat) (l : List UInt8) (w : World) (hs : l.length ≤ 1000) (h : Has w w.heap.size A l) (he : ErrsA w) : Calls Tryd.prog 14 #[.slice A l.length c] w (Unpacked (pakGetO l) w) :=
  (implPakGet_any A c l w (by omega) h ⟨he.1, he.2.2.1, he.2.2.2⟩).mono fun _ _ h => unpacked_of h
theorem pakPutB_le4 (l : List UInt8) : (pakPutB l).length ≤ 400 := by
  unfold pakPutB
  split
  · exact bitPutB_le _
  · simp
theorem pakPutB_big {l : List UInt8} (h : ¬ l.length ≤ 200) : pakPutB l = [] := by unfold pakPutB; rw [if_neg h]
end Go.Proofs.YtofphjfgaihjhaaDoor
