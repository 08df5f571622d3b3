/-
  FormWrite and FormPut of the program and of the reference as contracts over slices that are read; the lengths of files. Conditions: the pixels and the note are read from memory that was there.
-/
import Derived.Test.YtnnpjcbdcjdojaaFormI
namespace Go.Proofs.Ytnnpjcbdcjdojaa
set_option maxRecDepth 4000
open Go.RowKit

/-- What a writer of files answers. -/
def Filed (r : List UInt8) (w : World) (e : Ending) (w' : World) : Prop := ∃ A c, e = .returned (.slice A r.length c) ∧ r.length ≤ c ∧ Has w' w'.heap.size A r ∧ Below w.heap.size w w'
theorem filed_of {r : List UInt8} {w : World} {e : Ending} {w' : World} (h : Bodied r w e w') : Filed r w e w' := by
  obtain ⟨v, rfl, ho, hb⟩ := h
  obtain ⟨A, c, rfl, hc, hh⟩ := ho.has
  exact ⟨A, c, rfl, hc, hh, hb⟩
theorem fwI (k : UInt8) (z : Int) (hz : (k.toNat : Int) = z) (An : Option Addr) (cn : Nat) (note : List UInt8) (W H : Int) (A : Option Addr) (c : Nat) (l : List Px) (w : World) (hn : note.length ≤ 1000) (hs : l.length ≤ 1000) (hc : l.length ≤ c) (hnh : Has w w.heap.size An note) (h : HasP w w.heap.size A l) :
    Calls Try.prog 13 #[.int .u8 z, .slice An note.length cn, .agg #[.int .i64 W, .int .i64 H, .slice A l.length c]] w (Filed (formB k note W H l) w) := by
  subst hz
  exact (implFormWrite_any k An cn note W H A c l w (by omega) (by omega) hc hnh h).mono fun _ _ h => filed_of h
theorem fwS (k : UInt8) (z : Int) (hz : (k.toNat : Int) = z) (An : Option Addr) (cn : Nat) (note : List UInt8) (W H : Int) (A : Option Addr) (c : Nat) (l : List Px) (w : World) (hn : note.length ≤ 1000) (hs : l.length ≤ 1000) (hc : l.length ≤ c) (hnh : Has w w.heap.size An note) (h : HasP w w.heap.size A l) :
    Calls Try.prog 15 #[.int .u8 z, .slice An note.length cn, .agg #[.int .i64 W, .int .i64 H, .slice A l.length c]] w (Filed (formB k note W H l) w) := by
  subst hz
  exact (specFormWrite_any k An cn note W H A c l w (by omega) (by omega) hc hnh h).mono fun _ _ h => filed_of h
theorem fpI (W H : Int) (A : Option Addr) (c : Nat) (l : List Px) (w : World) (hs : l.length ≤ 1000) (hc : l.length ≤ c) (h : HasP w w.heap.size A l) :
    Calls Try.prog 16 #[.agg #[.int .i64 W, .int .i64 H, .slice A l.length c]] w (Filed (formB 80 [] W H l) w) :=
  (implFormPut_any W H A c l w (by omega) hc h).mono fun _ _ h => filed_of h
theorem fpS (W H : Int) (A : Option Addr) (c : Nat) (l : List Px) (w : World) (hs : l.length ≤ 1000) (hc : l.length ≤ c) (h : HasP w w.heap.size A l) :
    Calls Try.prog 17 #[.agg #[.int .i64 W, .int .i64 H, .slice A l.length c]] w (Filed (formB 80 [] W H l) w) :=
  (specFormPut_any W H A c l w (by omega) hc h).mono fun _ _ h => filed_of h
theorem rokS (W H : Int) (A : Option Addr) (c : Nat) (l : List Px) (w : World) (hs : l.length ≤ 1000) (h : HasP w w.heap.size A l) :
    Calls Try.prog 18 #[.agg #[.int .i64 W, .int .i64 H, .slice A l.length c]] w fun e w' => e = .returned (.bool (rasB W H l)) ∧ Below w.heap.size w w' := specRasOk_any W H A c l w (by omega) h

/-- A raster that was drawn is one, and its note is no longer than it may be. -/
def goodB (note : List UInt8) (W H : Int) (l : List Px) : Bool := decide (note.length ≤ 9) && rasB W H l
theorem formB_len (k : UInt8) (note : List UInt8) (W H : Int) (l : List Px) (hk : kindB k = true) : (goodB note W H l = true ∧ (formB k note W H l).length = 6 + note.length + (bodyB k W H l).length) ∨ (goodB note W H l = false ∧ formB k note W H l = []) := by
  unfold goodB
  by_cases h1 : note.length ≤ 9
  · cases h2 : rasB W H l
    · exact .inr ⟨by simp, formB_no fun e => by rw [h2] at e; cases e.2.2⟩
    · exact .inl ⟨by rw [decide_eq_true h1]; rfl, by rw [formB_of hk h1 h2, fileB_length]⟩
  · exact .inr ⟨by rw [decide_eq_false h1]; rfl, formB_no fun e => h1 e.2.1⟩
theorem goodB_parts {note : List UInt8} {W H : Int} {l : List Px} (h : goodB note W H l = true) : note.length ≤ 9 ∧ rasB W H l = true := by
  unfold goodB at h
  simpa using h
theorem body_down {W H : Int} {l : List Px} (h : rasB W H l = true) : ((bodyB 68 W H l).length : Int) = 2 + 4 * W * H := by
  obtain ⟨_, _, hl, _⟩ := rasB_parts h
  show ((rasBy W H l).length : Int) = _
  rw [rasBy_length, Int.mul_assoc, ← hl]
  omega
theorem body_up {W H : Int} {l : List Px} (h : rasB W H l = true) : (bodyB 85 W H l).length = (bodyB 68 W H l).length := by
  show (rasBy W H (flipR W H l)).length = (rasBy W H l).length
  rw [rasBy_length, rasBy_length, flipR_length h]
theorem body_pack {W H : Int} {l : List Px} (h : rasB W H l = true) : (bodyB 80 W H l).length ≤ (9 * ((bodyB 68 W H l).length + 1) + 7) / 8 := by
  show (pakPutB (rasBy W H l)).length ≤ (9 * ((rasBy W H l).length + 1) + 7) / 8
  exact pakPut_le (by have := rasBy_le h; omega)
end Go.Proofs.Ytnnpjcbdcjdojaa
