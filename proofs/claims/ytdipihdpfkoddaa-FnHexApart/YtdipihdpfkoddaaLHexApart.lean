/-
  The law FnHexApart returns true for every two lists of bytes. No condition.
-/
import Derived.Test.YtdipihdpfkoddaaHexI
import Derived.Test.YtdipihdpfkoddaaHexS
import Derived.Test.YtdipihdpfkoddaaEaB
import Derived.Test.YtdipihdpfkoddaaEaOk
import Derived.Test.YtdipihdpfkoddaaDrawHexT
namespace Go.Proofs.Ytdipihdpfkoddaa
open Go.RowKit

theorem dig_inj {m n : Nat} (hm : m < 16) (hn : n < 16) (h : dig m = dig n) : m = n := by
  have all : ∀ m n : Fin 16, dig m.val = dig n.val → m = n := by decide
  have := all ⟨m, hm⟩ ⟨n, hn⟩ h
  exact Fin.mk.inj this
theorem hexL_inj : ∀ (a b : List UInt8), hexL a = hexL b → a = b
  | [], [], _ => rfl
  | [], y :: b, h => by rw [hexL_cons] at h; cases h
  | x :: a, [], h => by rw [hexL_cons] at h; cases h
  | x :: a, y :: b, h => by
    rw [hexL_cons, hexL_cons] at h
    injection h with h1 h2
    injection h2 with h2 h3
    have hx := x.toNat_lt
    have hy := y.toNat_lt
    have e1 := dig_inj (by omega) (by omega) h1
    have e2 := dig_inj (by omega) (by omega) h2
    have : x = y := UInt8.toNat_inj.1 (by omega)
    rw [this, hexL_inj a b h3]

set_option maxHeartbeats 2000000 in
theorem fnHexApart_small (A A' : Option Addr) (c c' : Nat) (l l' : List UInt8) (w : World) (h : Has w w.heap.size A l) (hc : l.length ≤ c) (h' : Has w w.heap.size A' l') (hc' : l'.length ≤ c') (hs : l.length ≤ 1048576) (hs' : l'.length ≤ 1048576) :
    Calls Try.prog 4 #[.slice A l.length c, .slice A' l'.length c'] w fun e w' => e = .returned (.bool true) ∧ Below w.heap.size w w' := by
  have hb : (l.length : Int) ≤ 1048576 := by omega
  have hb' : (l'.length : Int) ≤ 1048576 := by omega
  go_enter Try.func4, Try.ntmps4
  go_wp2_with fail
  refine (drawHexText_any A c l _ (by omega) hc h).mono ?_
  rintro e w1 ⟨v1, a, rfl, ho1, hal, B1⟩
  obtain ⟨A1, c1, rfl, -, h1⟩ := ho1.has
  have z1 := B1.size
  have h1' := h'.carry B1 (Nat.le_refl _) z1
  have HAL := Lib.hid hal
  clear h hc h' hal ho1
  go_wp2_with fail
  refine (drawHexText_any A' c' l' _ (by omega) hc' h1').mono ?_
  rintro e w2 ⟨v2, b, rfl, ho2, hbl, b2⟩
  obtain ⟨A2, c2, rfl, -, h2⟩ := ho2.has
  have B2 : Below w.heap.size w w2 := B1.trans (b2.mono z1)
  have z2 := B2.size
  have h12 := h1.carry b2 (Nat.le_refl _) b2.size
  have HBL := Lib.hid hbl
  clear h1' hc' hbl b2 B1 h1 ho2 z1
  have C1 := Lib.hid fun W hh => implHexText_any A1 c1 a W (by have := HAL.out; omega) hh
  have C2 := Lib.hid fun W hh => implHexText_any A2 c2 b W (by have := HBL.out; omega) hh
  have D1 := Lib.hid fun W hh => specHexText_any A1 c1 a W (by have := HAL.out; omega) hh
  go_wp2_with fail
  refine (C1.out _ h12).mono ?_
  rintro e w3 ⟨rfl, b3⟩
  have B3 : Below w.heap.size w w3 := B2.trans (b3.mono z2)
  have h13 := h12.carry b3 (Nat.le_refl _) b3.size
  have h23 := h2.carry b3 (Nat.le_refl _) b3.size
  clear b3 h12 h2 B2 z2 C1
  go_wp2_with fail
  refine (D1.out _ h13).mono ?_
  rintro e w4 ⟨rfl, n4, rfl⟩
  have B4 := below_draws B3 n4
  have h14 : Has (w3.drewN n4) (w3.drewN n4).heap.size A1 a := h13.drewN n4
  have h24 : Has (w3.drewN n4) (w3.drewN n4).heap.size A2 b := h23.drewN n4
  clear h13 h23 B3 D1
  generalize w3.drewN n4 = w4 at *
  have z4 := B4.size
  go_wp2_with fail
  refine (C2.out _ h24).mono ?_
  rintro e w5 ⟨rfl, b5⟩
  have B5 : Below w.heap.size w w5 := B4.trans (b5.mono z4)
  have h15 := h14.carry b5 (Nat.le_refl _) b5.size
  have h25 := h24.carry b5 (Nat.le_refl _) b5.size
  clear b5 h14 h24 B4 z4 C2
  by_cases hab : a = b
  · subst hab
    have CE := Lib.hid (eaBytes_same A1 A2 c1 c2 _ _ a w5 h15 h25)
    clear h15 h25
    go_wp2_with fail
    refine CE.out.mono ?_
    rintro e w' ⟨rfl, rfl⟩
    go_wp2_with fail
    refine (eaOk_any _).mono ?_
    rintro e w7 ⟨rfl, b7⟩
    have B7 := B5.trans (b7.mono B5.size)
    clear b7 B5 CE
    go_wp2_with fail
    go_ret
    exact ⟨rfl, B7⟩
  · have CE := Lib.hid (eaBytes_diff A1 A2 c1 c2 _ _ a b w5 h15 h25 hab)
    have hne : (hexL a == hexL b) = false := beq_eq_false_iff_ne.2 fun e => hab (hexL_inj a b e)
    clear h15 h25 hab
    go_wp2_with fail
    refine CE.out.mono ?_
    rintro e w' ⟨rfl, rfl⟩
    go_wp2_with fail
    refine (eaOk_any _).mono ?_
    rintro e w7 ⟨rfl, b7⟩
    have B7 := B5.trans (b7.mono B5.size)
    clear b7 B5 CE
    go_wp2_with fail
    go_ret
    exact ⟨rfl, B7⟩

theorem fnHexApart_walk (A : Option Addr) (c : Nat) (l : List UInt8) (A' : Option Addr) (c' : Nat) (l' : List UInt8) (w : World) (h : Has w w.heap.size A l) (hc : l.length ≤ c) (h' : Has w w.heap.size A' l') (hc' : l'.length ≤ c') :
    Calls Try.prog 4 #[.slice A l.length c, .slice A' l'.length c'] w fun e w' => e = .returned (.bool true) ∧ Below w.heap.size w w' := by
  by_cases hbig : 1048576 < l.length
  · have hb : (1048576 : Int) < (l.length : Int) := by omega
    go_enter Try.func4, Try.ntmps4
    go_wp2
    go_ret
    exact ⟨rfl, Below.refl _ _⟩
  · by_cases hbig' : 1048576 < l'.length
    · have hb0 : ¬ ((1048576 : Int) < (l.length : Int)) := by omega
      have hb : (1048576 : Int) < (l'.length : Int) := by omega
      go_enter Try.func4, Try.ntmps4
      go_wp2
      go_ret
      exact ⟨rfl, Below.refl _ _⟩
    · exact fnHexApart_small A A' c c' l l' w h hc h' hc' (by omega) (by omega)
end Go.Proofs.Ytdipihdpfkoddaa
