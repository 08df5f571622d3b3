/-
  DrawShaMac draws a key of at most 80 bytes and at most 60 bytes. Condition: at most 2^30 bytes to draw from.
-/
import Derived.Test.YtadefoeolbhnmaaDoorDrawB
namespace Go.Proofs.YtadefoeolbhnmaaDoor
open Go.RowKit

theorem below_of_grown {w w1 w2 : World} {g B : Nat} (hb : Below B w w1) (hg : w1.grownBy w2 (some g)) (hB : B ≤ g) (hz : B ≤ w1.heap.size) : Below B w w2 :=
  hb.grown hg hz (fun k hk => by injection hk with hk; omega)
theorem Own.lower {w : World} {base base' : Nat} {v : Value} {l : List UInt8} (h : Own w base v l) (hb : base' ≤ base) : Own w base' v l :=
  ⟨h.1, by
    rcases h.2 with hn | ⟨g, cap, cur, e, hg, rest⟩
    · exact .inl hn
    · exact .inr ⟨g, cap, cur, e, Nat.le_trans hb hg, rest⟩⟩

set_option maxHeartbeats 400000 in
theorem drawShaMac_any (A : Option Addr) (c : Nat) (l : List UInt8) (w : World) (hs : l.length ≤ 1073741824) (hc : l.length ≤ c) (h : Has w w.heap.size A l) :
    Calls Tryd.prog 13 #[.slice A l.length c] w fun e w' => ∃ A1 c1 A2 c2, ∃ k b : List UInt8, e = .returned (.tuple #[.slice A1 k.length c1, .slice A2 b.length c2]) ∧ Has w' w'.heap.size A1 k ∧ Has w' w'.heap.size A2 b ∧ k.length ≤ 80 ∧ b.length ≤ 60 ∧ Below w.heap.size w w' := by
  go_enter Tryd.func13, Tryd.ntmps13
  go_wp2_with fail
  refine (l20Open_any A c l _ hs hc h).mono ?_
  rintro e w1 ⟨rfl, hr, hb⟩
  have hz := hr.lt
  go_wp2_with fail
  refine (l20Bytes_any _ 0 80 80 rfl _ hr (by omega) (by omega)).mono ?_
  rintro e w2 ⟨v, k, p', rfl, ho, hl, hp, hr2, hg⟩
  have hb2 := below_of_grown hb hg (Nat.le_refl _) (by omega)
  have hz2 := hg.size
  clear hg hr hb
  go_wp2_with fail
  refine (l20Bytes_any _ p' 60 60 rfl _ hr2 (by omega) (by omega)).mono ?_
  rintro e w3 ⟨v', b, p'', rfl, ho', hl', -, -, hg'⟩
  have hb3 := below_of_grown hb2 hg' (Nat.le_refl _) (by omega)
  have ho2 : Own w3 w1.heap.size v k := ho.keep hg' (by
    cases hv : v.ownBlock with
    | none => exact .inl rfl
    | some q =>
      refine .inr fun e => ?_
      have := (World.ownsRow.lt ho q hv).1
      injection e with e
      omega)
  obtain ⟨A1, c1, rfl, -, h1⟩ := ho2.has
  obtain ⟨A2, c2, rfl, -, h2⟩ := ho'.has
  clear ho ho2 ho' hg' hr2 hb2
  go_wp2_with fail
  go_ret2
  exact ⟨A1, c1, A2, c2, k, b, rfl, h1, h2, hl, hl', hb3⟩
end Go.Proofs.YtadefoeolbhnmaaDoor
