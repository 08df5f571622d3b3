/-
  ShaSum of the program and of the reference is the sum of bytes, none where they are too many. Condition: the program's two tables are the standard's.
-/
import Derived.Test.YtbejafbpipdbjaaDoorShaIY
import Derived.Test.YtbejafbpipdbjaaDoorShaSum
namespace Go.Proofs.YtbejafbpipdbjaaDoor
set_option maxRecDepth 4000
open Go.RowKit

/-- What ShaSum answers. -/
def shaOut (l : List UInt8) : List UInt8 := if 500 < l.length then [] else sha l
theorem shaOut_length_le (l : List UInt8) : (shaOut l).length ≤ 32 := by unfold shaOut; split <;> simp [sha_length]
set_option maxHeartbeats 1000000 in
theorem implShaSum_any (A : Option Addr) (c : Nat) (l : List UInt8) (w : World) (hl : l.length ≤ 1073741824) (hT : Tabs w) (h : Has w w.heap.size A l) :
    Calls Tryd.prog 116 #[.slice A l.length c] w fun e w' => ∃ v, e = .returned v ∧ Own w' w.heap.size v (shaOut l) ∧ Below w.heap.size w w' := by
  unfold shaOut
  by_cases hlt : 500 < l.length
  · rw [if_pos hlt]
    go_enter Tryd.func116, Tryd.ntmps116
    go_wp2
    go_ret
    exact ⟨_, rfl, own_nil _ _, Below.refl _ _⟩
  · rw [if_neg hlt]
    have h2 := hT.2.2
    go_enter Tryd.func116, Tryd.ntmps116
    go_wp2_with fail
    refine (newShaHash_any w hT).mono ?_
    rintro e w1 ⟨rfl, hf1, hb1⟩
    have hT1 : Tabs w1 := hT.below hb1 h2
    have hz1 := hf1.lt
    go_wp2_with fail
    refine (write_any w.heap.size A c [] l w1 (by simp; omega) h2 hT1 hf1 (h.below hb1)).mono ?_
    rintro e w2 ⟨rfl, hf2, hg2⟩
    have hT2 : Tabs w2 := hT1.grown hg2 (fun q e => by cases e; exact h2)
    have hb2 : Below w.heap.size w w2 := hb1.grown hg2 (by omega) (fun q e => by cases e; exact Nat.le_refl _)
    have hz2 := hg2.size
    rw [List.nil_append] at hf2
    clear hf1 hb1 hT1 hg2 hT h
    go_wp2_with fail
    refine (sum_any w.heap.size l w2 (by omega) h2 hT2 hf2).mono ?_
    rintro e w3 ⟨v, rfl, ho3, hg3⟩
    have hb3 : Below w.heap.size w w3 := hb2.grown hg3 (by omega) (fun q e => by cases e; exact Nat.le_refl _)
    have ho4 : Own w3 w.heap.size v (sha l) := by
      refine ⟨ho3.1, ?_⟩
      rcases ho3.2 with hn | ⟨g, cap, cur, e, hg, rest⟩
      · exact .inl hn
      · exact .inr ⟨g, cap, cur, e, Nat.le_trans (by omega) hg, rest⟩
    clear hf2 hT2 hb2 hg3 ho3
    go_wp2
    go_ret
    exact ⟨_, rfl, ho4, hb3⟩
end Go.Proofs.YtbejafbpipdbjaaDoor
