/-
  The law FnExactHexRead returns true for every text. No condition.
-/
import Derived.Test.YtadefoeolbhnmaaCopy
import Derived.Test.YtadefoeolbhnmaaMark
import Derived.Test.YtadefoeolbhnmaaHexRd
namespace Go.Proofs.Ytadefoeolbhnmaa
open Go.RowKit

theorem rd_length (l : List UInt8) : (rd l).length ≤ l.length := by
  unfold rd
  split
  · rw [rdTo_length]; omega
  · simp
theorem grown_below {B base : Nat} {w w' : World} {v : Value} {l : List UInt8} (hg : w.grownBy w' v.ownBlock) (ho : Own w base v l) (hB : B ≤ base) (hs : B ≤ w.heap.size) : Below B w w' :=
  (Below.refl _ _).grown hg hs (fun k hk => Nat.le_trans hB (World.ownsRow.lt ho k hk).1)

set_option maxHeartbeats 1000000 in
theorem fnExactHexRead_small (l : List UInt8) (w : World) (hs : l.length ≤ 1048576) :
    Calls Try.prog 5 #[.string ⟨l.toArray⟩] w fun e w' => e = .returned (.bool true) ∧ Below w.heap.size w w' := by
  have hb : (l.length : Int) ≤ 1048576 := by omega
  have hrl := rd_length l
  have CS := Lib.hid fun W => specHexRead_any l W (by omega)
  have CI := Lib.hid fun W => implHexRead_any l W (by omega)
  generalize rd l = r at *
  generalize rdOk l = ok at *
  go_enter Try.func5, Try.ntmps5
  go_wp2_with fail
  refine (CS.out _).mono ?_
  rintro e w1 ⟨v0, rfl, ho0, hb1⟩
  obtain ⟨A0, c0, rfl, _, h0⟩ := ho0.has
  clear ho0
  go_wp2_with fail
  refine (CI.out _).mono ?_
  rintro e w2 ⟨v1, rfl, ho1, hb2⟩
  obtain ⟨A1, c1, rfl, _, h1⟩ := ho1.has
  have h02 := h0.below hb2
  have hz12 := hb2.size
  have hb2' : Below w.heap.size w w2 := hb1.trans (hb2.mono hb1.size)
  have hz1 := hb1.size
  clear h0 hb1
  go_wp2_with fail
  refine (eqByteS_same _ _ _ _ r _ (by omega) h1 (h02.wider hz12)).mono ?_
  rintro e w3 ⟨rfl, n3, rfl⟩
  go_wp2_with fail
  have ho1' := ho1.drewN n3
  refine (markByteS_at _ _ r 1 1 w1.heap.size rfl _ (by omega) (by omega) ho1').mono ?_
  rintro e w4 ⟨rfl, ho4, hg4⟩
  have hb4 : Below w1.heap.size (w2.drewN n3) w4 := grown_below hg4 ho1' (Nat.le_refl _) hz12
  have hz4 : (w2.drewN n3).heap.size ≤ w4.heap.size := hb4.size
  have h04 := (h02.drewN n3).below hb4
  have hb4' : Below w.heap.size w w4 := (below_draws hb2' n3).trans (hb4.mono hz1)
  have hz4' : w1.heap.size ≤ w4.heap.size := Nat.le_trans hz12 hz4
  have hm4 := ho4.reads
  clear hg4 hb4 ho1' ho1 hb2' h02 h1 ho4 hz4 hb2
  go_wp2_with fail
  refine (heldByteS_at _ _ r.length 1 1 _ rfl _ (by omega) (by omega) hm4).mono ?_
  rintro e w' ⟨rfl, rfl⟩
  have hq1 : ¬ (1 + (r.length : Int) < 0) := by omega
  go_wp2_with fail
  refine (CI.out _).mono ?_
  rintro e w5 ⟨v5, rfl, ho5, hb5⟩
  obtain ⟨A5, c5, rfl, _, h5⟩ := ho5.has
  have h05 := h04.below (hb5.mono hz4')
  have hm5 := hm4.below hb5
  have hb5' : Below w.heap.size w w5 := hb4'.trans (hb5.mono hb4'.size)
  have hz5 : w1.heap.size ≤ w5.heap.size := Nat.le_trans hz4' hb5.size
  clear ho5 hb5 h04 hm4 hb4'
  go_wp2_with fail
  refine (eqByteS_same _ _ _ _ r _ (by omega) h5 (h05.wider hz5)).mono ?_
  rintro e w6 ⟨rfl, n6, rfl⟩
  have hm6 := hm5.drewN n6
  have hb6 := below_draws hb5' n6
  clear hm5 hb5' h05 h5
  generalize w5.drewN n6 = w6 at *
  go_wp2_with fail
  refine (heldByteS_at _ _ r.length 1 1 _ rfl _ (by omega) (by omega) hm6).mono ?_
  rintro e w' ⟨rfl, rfl⟩
  go_wp2_with fail
  go_ret
  exact ⟨rfl, hb6⟩

theorem fnExactHexRead_walk (s : ByteArray) (w : World) (hz : s.size ≤ maxLen) :
    Calls Try.prog 5 #[.string s] w fun e w' => e = .returned (.bool true) ∧ Below w.heap.size w w' := by
  obtain ⟨⟨l⟩⟩ := s
  by_cases hbig : 1048576 < l.length
  · have hb : (1048576 : Int) < (l.length : Int) := by omega
    go_enter Try.func5, Try.ntmps5
    go_wp2
    go_ret
    exact ⟨rfl, Below.refl _ _⟩
  · exact fnExactHexRead_small l w (by omega)
end Go.Proofs.Ytadefoeolbhnmaa
