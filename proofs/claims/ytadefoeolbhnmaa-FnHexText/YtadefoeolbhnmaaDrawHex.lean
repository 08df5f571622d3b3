/-
  DrawHexText draws at most 12 bytes, DrawHexRead a text of at most 17 characters. Condition: at most 2^30 bytes to draw from.
-/
import Derived.Test.YtadefoeolbhnmaaDrawS
import Derived.Test.YtadefoeolbhnmaaHexS
namespace Go.Proofs.Ytadefoeolbhnmaa
open Go.RowKit

/-- Some bytes, no more than n, in a slice of the call's own. -/
def SomeB (w : World) (n : Nat) (e : Ending) (w' : World) : Prop := ∃ v, ∃ l : List UInt8, e = .returned v ∧ Own w' w.heap.size v l ∧ l.length ≤ n ∧ Below w.heap.size w w'
/-- Some text, no longer than n. -/
def SomeS (w : World) (n : Nat) (e : Ending) (w' : World) : Prop := ∃ s : ByteArray, e = .returned (.string s) ∧ s.size ≤ n ∧ Below w.heap.size w w'

theorem below_of_grown {w w1 w2 : World} {g B : Nat} (hb : Below B w w1) (hg : w1.grownBy w2 (some g)) (hB : B ≤ g) (hz : B ≤ w1.heap.size) : Below B w w2 :=
  hb.grown hg hz (fun k hk => by injection hk with hk; omega)

set_option maxHeartbeats 400000 in
theorem drawHexText_any (A : Option Addr) (c : Nat) (l : List UInt8) (w : World) (hs : l.length ≤ 1073741824) (hc : l.length ≤ c) (h : Has w w.heap.size A l) :
    Calls Try.prog 6 #[.slice A l.length c] w (SomeB w 12) := by
  go_enter Try.func6, Try.ntmps6
  go_wp2_with fail
  refine (l20Open_any A c l _ hs hc h).mono ?_
  rintro e w1 ⟨rfl, hr, hb⟩
  have hz := hr.lt
  go_wp2_with fail
  refine (l20Bytes_any _ 0 12 12 rfl _ hr (by omega) (by omega)).mono ?_
  rintro e w2 ⟨v, r, p', rfl, ho, hl, -, -, hg⟩
  have hb2 := below_of_grown hb hg (Nat.le_refl _) (by omega)
  have ho2 : Own w2 w.heap.size v r := ⟨ho.1, by
    rcases ho.2 with hn | ⟨g, cap, cur, e, hg, rest⟩
    · exact .inl hn
    · exact .inr ⟨g, cap, cur, e, by omega, rest⟩⟩
  clear ho hg hr hb
  go_wp2_with fail
  go_ret
  exact ⟨_, r, rfl, ho2, hl, hb2⟩

set_option maxHeartbeats 400000 in
theorem drawHexRead_any (A : Option Addr) (c : Nat) (l : List UInt8) (w : World) (hs : l.length ≤ 1073741824) (hc : l.length ≤ c) (h : Has w w.heap.size A l) :
    Calls Try.prog 7 #[.slice A l.length c] w (SomeS w 17) := by
  go_enter Try.func7, Try.ntmps7
  go_wp2_with fail
  refine (l20Open_any A c l _ hs hc h).mono ?_
  rintro e w1 ⟨rfl, hr, hb⟩
  have hz := hr.lt
  go_wp2_with fail
  refine (l20Bytes_any _ 0 8 8 rfl _ hr (by omega) (by omega)).mono ?_
  rintro e w2 ⟨v, r, p', rfl, ho, hl, hp, hr2, hg⟩
  have hb2 := below_of_grown hb hg (Nat.le_refl _) (by omega)
  obtain ⟨A2, c2, rfl, -, ho2⟩ := ho.has
  clear ho hg hr hb
  go_wp2_with fail
  refine (specHexText_any A2 c2 r _ (by omega) ho2).mono ?_
  rintro e w3 ⟨rfl, n3, rfl⟩
  have hb3 := below_draws hb2 n3
  have hr3 := hr2.drewN n3
  have hz3 : w.heap.size < (w2.drewN n3).heap.size := hr3.lt
  have hx : (⟨(hexL r).toArray⟩ : ByteArray).size ≤ 16 := by
    show (hexL r).toArray.size ≤ 16
    rw [List.size_toArray, hexL_length]
    omega
  clear hb2 hr2 ho2
  generalize w2.drewN n3 = w3 at *
  generalize (⟨(hexL r).toArray⟩ : ByteArray) = s at *
  go_wp2_with fail
  refine (pick_any _ p' 3 _ hr3 (by omega) (by omega) (by omega)).mono ?_
  rintro e w4 ⟨k, rfl, -, -, hr4, hg4, -⟩
  have hb4 := below_of_grown hb3 hg4 (Nat.le_refl _) (by omega)
  have hz4 := hr4.lt
  clear hg4 hr3 hb3
  by_cases hk : k = 0
  · subst hk
    go_wp2_with fail
    refine (l20Bent_any _ (p' + 1) s _ hr4 (by omega) (by omega)).mono ?_
    rintro e w5 ⟨t, p5, rfl, ht, -, -, hg5⟩
    have hb5 := below_of_grown hb4 hg5 (Nat.le_refl _) (by omega)
    clear hg5 hr4 hb4
    go_wp2_with fail
    go_ret
    exact ⟨_, rfl, by omega, hb5⟩
  · have hk2 : ((k : Int) == 0) = false := beq_eq_false_iff_ne.2 (by omega)
    go_wp2_with fail
    go_ret
    exact ⟨_, rfl, by omega, hb4⟩
end Go.Proofs.Ytadefoeolbhnmaa
