/-
  DrawRasRead draws a list of bytes: those of a raster, or with one of them turned. Condition: at most 2^30 bytes to draw from.
-/
import Derived.Test.YtofphjfgaihjhaaDrawTurn
import Derived.Test.YtofphjfgaihjhaaDrawRas
import Derived.Test.YtofphjfgaihjhaaRasBy
namespace Go.Proofs.Ytofphjfgaihjhaa
open Go.RowKit

theorem rasOut_leD (W H : Int) (l : List Px) : (rasOut W H l).length ≤ 146 := by
  unfold rasOut
  cases h : rasB W H l
  · simp
  · obtain ⟨hW, hH, hl, -⟩ := rasB_parts h
    have := mul36 hW hH
    simp only [if_true, rasBy_length]
    omega
/-- What DrawRasRead answers. -/
def DrewRd (w : World) (e : Ending) (w' : World) : Prop := ∃ A c, ∃ l : List UInt8, e = .returned (.slice A l.length c) ∧ Has w' w'.heap.size A l ∧ l.length ≤ c ∧ l.length ≤ 1000 ∧ Below w.heap.size w w'
set_option maxHeartbeats 1000000 in
theorem drawRasRead_any (A : Option Addr) (c : Nat) (l : List UInt8) (w : World) (hs : l.length ≤ 1073741824) (hc : l.length ≤ c) (h : Has w w.heap.size A l) :
    Calls Try.prog 5 #[.slice A l.length c] w (DrewRd w) := by
  go_enter Try.func5, Try.ntmps5
  go_wp2_with fail
  refine (l20Open_any A c l _ hs hc h).mono ?_
  rintro e w1 ⟨rfl, hr, b1⟩
  have hz1 := hr.lt
  clear h hs hc
  go_wp2_with fail
  refine (l20Ras_any _ 0 0 _ hr (by omega) (by omega) (by omega)).mono ?_
  rintro e w2 ⟨W, H, A2, c2, l2, rfl, hh2, hc2, hl2, ⟨p2, hp2, hr2⟩, hg2, -⟩
  have B2 := below_of_grown b1 hg2 (Nat.le_refl _) b1.size
  have CB := Lib.hid (specRasBytes_any W H A2 c2 l2 w2 (by omega) hh2)
  have hrl := rasOut_leD W H l2
  have hz2 := hr2.lt
  unfold rasV at *
  generalize rasOut W H l2 = r at *
  clear hr hg2 b1 hh2
  go_wp2_with fail
  refine CB.out.mono ?_
  rintro e w3 ⟨v, rfl, ho3, b3⟩
  obtain ⟨A3, c3, rfl, hc3, h3⟩ := ho3.has
  have hr3 := hr2.below b3 hz2
  have B3 := B2.trans (b3.mono B2.size)
  have hne : ∀ b o, A3 = some ⟨b, o, none⟩ → b ≠ w.heap.size := fun b o e => by
    subst e
    rcases ho3.2 with ⟨e, -⟩ | ⟨g', cap, cur, e, hb, -⟩
    · cases e
    · injection e with e _ _
      injection e with e
      injection e with e1 _ _
      omega
  have HNE := Lib.hid hne
  clear hr2 b3 B2 CB ho3 hne
  go_wp2_with fail
  refine (pick_any _ p2 _ _ hr3 (by omega) (by omega) (by omega)).mono ?_
  rintro e w4 ⟨k4, rfl, hk4, -, hr4, hg4, -⟩
  have h4 := (h3.grown_ne (Nat.le_refl _) hg4 HNE.out).wider hg4.size
  have B4 := below_of_grown B3 hg4 (Nat.le_refl _) B3.size
  clear h3 hr3 B3 hg4 hk4
  by_cases hk : (k4 : Int) = 0
  · have hkb : ((k4 : Int) == 0) = true := beq_iff_eq.2 hk
    have CT := Lib.hid (l20Turn_any _ (p2 + 1) A3 c3 r w4 hr4 (by omega) h4 hc3 (by omega) HNE.out)
    clear hr4 h4 HNE hk
    go_wp2_with fail
    refine CT.out.mono ?_
    rintro e w5 ⟨A5, c5, l5, rfl, h5, hc5, hl5, -, hg5⟩
    have B5 := below_of_grown B4 hg5 (Nat.le_refl _) B4.size
    have HF : Hid (DrewRd w (.returned (.slice A5 l5.length c5)) w5) := Lib.hid ⟨A5, c5, l5, rfl, h5, hc5, by omega, B5⟩
    clear h5 hc5 hl5 hg5 B5 B4 CT
    go_wp2_with fail
    go_ret
    exact HF.out
  · have hkb : ((k4 : Int) == 0) = false := beq_eq_false_iff_ne.2 hk
    have HF : Hid (DrewRd w (.returned (.slice A3 r.length c3)) w4) := Lib.hid ⟨A3, c3, r, rfl, h4, hc3, by omega, B4⟩
    clear hr4 h4 HNE hk B4
    go_wp2_with fail
    go_ret
    exact HF.out
end Go.Proofs.Ytofphjfgaihjhaa
