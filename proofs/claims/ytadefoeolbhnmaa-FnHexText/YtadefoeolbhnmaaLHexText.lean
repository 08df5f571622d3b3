/-
  The law FnHexText returns true for every input. No condition.
-/
import Derived.Test.YtadefoeolbhnmaaHexI
import Derived.Test.YtadefoeolbhnmaaHexP
import Derived.Test.YtadefoeolbhnmaaHexRd
import Derived.Test.YtadefoeolbhnmaaEaB
import Derived.Test.YtadefoeolbhnmaaDrawHex
namespace Go.Proofs.Ytadefoeolbhnmaa
open Go.RowKit

set_option maxHeartbeats 2000000 in
theorem fnHexText_small (A0 : Option Addr) (c0 : Nat) (l0 : List UInt8) (A1 : Option Addr) (c1 : Nat) (l1 : List UInt8) (w : World) (h0 : Has w w.heap.size A0 l0) (hc0 : l0.length ≤ c0) (h1 : Has w w.heap.size A1 l1) (hc1 : l1.length ≤ c1)
    (b0 : l0.length ≤ 1048576) (b1 : l1.length ≤ 1048576) :
    Calls Try.prog 3 #[.slice A0 l0.length c0, .slice A1 l1.length c1] w fun e w' => e = .returned (.bool true) ∧ Below w.heap.size w w' := by
  have d0 : (l0.length : Int) ≤ 1048576 := by omega
  have d1 : (l1.length : Int) ≤ 1048576 := by omega
  go_enter Try.func3, Try.ntmps3
  go_wp2_with fail
  refine (drawHexText_any A0 c0 l0 _ (by omega) hc0 h0).mono ?_
  rintro e w1 ⟨v, b, rfl, ho1, hb12, hb1⟩
  obtain ⟨Ab, cb, rfl, -, hB1⟩ := ho1.has
  have h11 := h1.carry hb1 (Nat.le_refl _) hb1.size
  clear ho1 h0 h1
  go_wp2_with fail
  refine (drawHexRead_any A1 c1 l1 _ (by omega) hc1 h11).mono ?_
  rintro e w2 ⟨s, rfl, hs17, hb2⟩
  obtain ⟨⟨sl⟩⟩ := s
  have hs17 : sl.length ≤ 17 := hs17
  have hB2 := hB1.below hb2
  have hb2' : Below w.heap.size w w2 := hb1.trans (hb2.mono hb1.size)
  have hz2 := hb2.size
  have hB2 := hB2.wider hz2
  clear hb1 hb2 h11 hB1 hz2
  go_wp2_with fail
  refine (implHexText_any Ab cb b _ (by omega) hB2).mono ?_
  rintro e w3 ⟨rfl, hb3⟩
  have hB3 := (hB2.below hb3).wider hb3.size
  have hb3' : Below w.heap.size w w3 := hb2'.trans (hb3.mono hb2'.size)
  clear hb3 hB2 hb2'
  go_wp2_with fail
  refine (implHexRead_any sl _ (by omega)).mono ?_
  rintro e w4 ⟨v4, rfl, ho4, hb4⟩
  obtain ⟨A4, c4, rfl, -, hX4⟩ := ho4.has
  have hB4 := (hB3.below hb4).wider hb4.size
  have hb4' : Below w.heap.size w w4 := hb3'.trans (hb4.mono hb3'.size)
  clear ho4 hb4 hB3 hb3'
  go_wp2_with fail
  refine (specHexRead_any sl _ (by omega)).mono ?_
  rintro e w5 ⟨v5, rfl, ho5, hb5⟩
  obtain ⟨A5, c5, rfl, -, hY5⟩ := ho5.has
  have hB5 := (hB4.below hb5).wider hb5.size
  have hX5 := (hX4.below hb5).wider hb5.size
  have hb5' : Below w.heap.size w w5 := hb4'.trans (hb5.mono hb4'.size)
  clear ho5 hb5 hB4 hb4' hX4
  go_wp2_with fail
  refine (specHexText_any Ab cb b _ (by omega) hB5).mono ?_
  rintro e w6 ⟨rfl, n6, rfl⟩
  have hB6 := hB5.drewN n6
  have hX6 := hX5.drewN n6
  have hY6 := hY5.drewN n6
  have hb6 := below_draws hb5' n6
  have hB6 : Has (w5.drewN n6) (w5.drewN n6).heap.size Ab b := hB6
  have hX6 : Has (w5.drewN n6) (w5.drewN n6).heap.size A4 (rd sl) := hX6
  clear hB5 hX5 hY5 hb5'
  generalize w5.drewN n6 = w6 at *
  go_wp2_with fail
  refine (eaBytes_same A4 A5 c4 c5 _ _ (rd sl) _ hX6 hY6).mono ?_
  rintro e w' ⟨rfl, rfl⟩
  clear hY6
  have hrl := rd_length sl
  have HH := Lib.hid (hexL_rd sl)
  have hrdn : rdOk sl = false → (rd sl).length = 0 := fun h => by simp [rd, h]
  generalize rd sl = r at *
  generalize rdOk sl = ok at *
  have HB := Lib.hid (rd_hexL b)
  have HO := Lib.hid (rdOk_hexL b)
  have HL := Lib.hid (hexL_length b)
  have hl2 : (hexL b).length ≤ 24 := by rw [hexL_length]; omega
  have CT := Lib.hid fun W => implHexRead_any (hexL b) W (by omega)
  rw [HB.out, HO.out] at CT
  clear HB HO
  have hlen : (((hexL b).length : Int) == 2 * (b.length : Int)) = true := beq_iff_eq.2 (by rw [HL.out]; omega)
  cases ok
  · have hr0 : ((r.length : Int) != 0) = false := by have := hrdn rfl; simp [this]
    clear hrdn HH
    go_wp2_with fail
    refine (CT.out _).mono ?_
    rintro e w7 ⟨v7, rfl, ho7, hb7⟩
    obtain ⟨A7, c7, rfl, -, hY7⟩ := ho7.has
    have hB7 := hB6.below hb7
    have hb7' : Below w.heap.size w w7 := hb6.trans (hb7.mono hb6.size)
    clear ho7 hb7 hb6 hB6 hX6
    go_wp2_with fail
    refine (eaBytes_same A7 Ab c7 cb _ _ b _ hY7 hB7).mono ?_
    rintro e w' ⟨rfl, rfl⟩
    go_wp2_with fail
    go_ret
    exact ⟨rfl, hb7'⟩
  · clear hrdn
    have CX := implHexText_any A4 c4 r w6 (by omega) hX6
    rw [HH.out rfl] at CX
    have CX := Lib.hid CX
    clear HH
    go_wp2_with fail
    refine CX.out.mono ?_
    rintro e w65 ⟨rfl, hb65⟩
    have hB65 : Has w65 w65.heap.size Ab b := (hB6.below hb65).wider hb65.size
    have hb65' : Below w.heap.size w w65 := hb6.trans (hb65.mono hb6.size)
    clear hb65 hb6 hB6 hX6 CX
    go_wp2_with fail
    refine (CT.out _).mono ?_
    rintro e w7 ⟨v7, rfl, ho7, hb7⟩
    obtain ⟨A7, c7, rfl, -, hY7⟩ := ho7.has
    have hB7 := hB65.below hb7
    have hb7' : Below w.heap.size w w7 := hb65'.trans (hb7.mono hb65'.size)
    clear ho7 hb7 hb65' hB65
    go_wp2_with fail
    refine (eaBytes_same A7 Ab c7 cb _ _ b _ hY7 hB7).mono ?_
    rintro e w' ⟨rfl, rfl⟩
    go_wp2_with fail
    go_ret
    exact ⟨rfl, hb7'⟩

set_option maxHeartbeats 400000 in
theorem fnHexText_walk (A0 : Option Addr) (c0 : Nat) (l0 : List UInt8) (A1 : Option Addr) (c1 : Nat) (l1 : List UInt8) (w : World) (h0 : Has w w.heap.size A0 l0) (hc0 : l0.length ≤ c0) (h1 : Has w w.heap.size A1 l1) (hc1 : l1.length ≤ c1) :
    Calls Try.prog 3 #[.slice A0 l0.length c0, .slice A1 l1.length c1] w fun e w' => e = .returned (.bool true) ∧ Below w.heap.size w w' := by
  by_cases b0 : l0.length ≤ 1048576
  · by_cases b1 : l1.length ≤ 1048576
    · exact fnHexText_small A0 c0 l0 A1 c1 l1 w h0 hc0 h1 hc1 b0 b1
    · have d0 : (l0.length : Int) ≤ 1048576 := by omega
      have d1 : (1048576 : Int) < (l1.length : Int) := by omega
      clear h0 h1
      go_enter Try.func3, Try.ntmps3
      go_wp2_with fail
      go_ret
      exact ⟨rfl, Below.refl _ _⟩
  · have d0 : (1048576 : Int) < (l0.length : Int) := by omega
    clear h0 h1
    go_enter Try.func3, Try.ntmps3
    go_wp2_with fail
    go_ret
    exact ⟨rfl, Below.refl _ _⟩
end Go.Proofs.Ytadefoeolbhnmaa
