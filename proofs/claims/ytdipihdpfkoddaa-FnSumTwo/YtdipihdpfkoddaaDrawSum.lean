/-
  DrawSumOf draws at most 700 bytes. Condition: at most 2^30 bytes to draw from.
-/
import Derived.Test.YtdipihdpfkoddaaDrawOdd
import Derived.Test.YtdipihdpfkoddaaDrawB
namespace Go.Proofs.Ytdipihdpfkoddaa
open Go.RowKit

/-- How many bytes are missing to 700. -/
def room7 (v : Value) : Nat := match v with | .slice _ n _ => 700 - n | _ => 0
theorem room7_lt (A A' : Option Addr) (n c c' : Nat) (h : n < 700) : room7 (.slice A' (n + 1) c') < room7 (.slice A n c) := by unfold room7; show 700 - (n + 1) < 700 - n; omega
set_option maxHeartbeats 400000 in
theorem drawSumOf_any (A : Option Addr) (c : Nat) (l : List UInt8) (w : World) (hs : l.length ≤ 1073741824) (hc : l.length ≤ c) (h : Has w w.heap.size A l) :
    Calls Try.prog 14 #[.slice A l.length c] w fun e w' => ∃ A1 c1, ∃ b : List UInt8, e = .returned (.slice A1 b.length c1) ∧ Has w' w'.heap.size A1 b ∧ b.length ≤ 700 ∧ Below w.heap.size w w' := by
  go_enter Try.func14, Try.ntmps14
  go_wp2_with fail
  refine (l20Open_any A c l _ hs hc h).mono ?_
  rintro e w1 ⟨rfl, hr, hb⟩
  have hz := hr.lt
  go_wp2_with fail
  refine (l20Bytes_any _ 0 40 40 rfl _ hr (by omega) (by omega)).mono ?_
  rintro e w2 ⟨v, k, p', rfl, ho, hl, hp, hr2, hg⟩
  have hb2 := below_of_grown hb hg (Nat.le_refl _) (by omega)
  have hz2 := hg.size
  clear hg hr hb
  go_wp2_with fail
  refine (oddAt_any _ p' 9 _ hr2 (by omega) (by omega) (by omega)).mono ?_
  rintro e w3 ⟨bb, rfl, -, -, -, hg3⟩
  have hb3 := below_of_grown hb2 hg3 (Nat.le_refl _) (by omega)
  have ho3 : Own w3 w1.heap.size v k := ho.keepRd hg3 hz
  have hz3 : w1.heap.size ≤ w3.heap.size := Nat.le_trans hz2 hg3.size
  clear ho hg3 hr2 hb2 h
  cases bb
  · obtain ⟨A1, c1, rfl, -, h1⟩ := ho3.has
    go_wp2_with fail
    go_ret
    exact ⟨A1, c1, k, rfl, h1, by omega, hb3⟩
  · obtain ⟨A1, c1, rfl, -, -⟩ := ho3.has
    have hk7 : k.length ≤ 700 := by omega
    clear hl hp hz2
    go_wp2_with fail
    go_loopw [4] (fun u wr => ∃ m : List UInt8, m.length ≤ 700 ∧ Own wr w1.heap.size u m ∧ Below w.heap.size w wr ∧ w1.heap.size ≤ wr.heap.size)
      (fun u _ => room7 u)
    case atStart => exact ⟨k, hk7, ho3, hb3, hz3⟩
    case round =>
      obtain ⟨m, hm, hown, hbel, hzr⟩ := hrel
      obtain ⟨A4, c4, hv4, -, h4⟩ := hown.has
      subst hv4
      have hml : (m.length : Int) ≤ 700 := by omega
      clear ho3 hb3 hs hc hk7 hz3
      by_cases hlt : m.length < 700
      · have HO := Lib.hid hown
        have HB := Lib.hid hbel
        have HZ := Lib.hid hzr
        have HZ1 := Lib.hid hz
        have hq : (m.length : Int) < 700 := by omega
        clear hown hbel hzr hz hml h4 hm hlt
        go_wp2_with (at_builtin; refine wpList_push1 rfl (.tmp 14) (.tmp 15) rfl w1.heap.size _ m rfl HO.out 255 wr.heap.size rfl rfl (by omega) HZ.out ?_; intro gg cap w5 ho5 hg5)
        have hown := HO.out
        have hbel := HB.out
        have hz := HZ1.out
        have hzr := HZ.out
        have hb5 : Below w.heap.size w w5 := (hbel.alloc hbel.size _).grown hg5 (by have := hbel.size; simp; omega) (fun q hq => by have := (World.ownsRow.lt hown q hq).1; have := hz; omega)
        have hz5 : w1.heap.size ≤ w5.heap.size := by have := hg5.size; simp at this; omega
        have HR := Lib.hid (And.intro ho5 (And.intro hb5 hz5))
        clear hg5 hown hbel ho5 hb5 hz5 hz hzr
        go_wp2
        go_roundw
        case rel => exact ⟨m ++ [255], by simp; omega, HR.out.1, HR.out.2.1, HR.out.2.2⟩
        case measure => exact room7_lt _ _ _ _ _ (by omega)
      · have HH := Lib.hid (And.intro h4 hbel)
        have HM := Lib.hid hm
        have hq : ¬ ((m.length : Int) < 700) := by omega
        clear h4 hbel hown hzr hz hml hm hlt
        go_wp2
        go_ret
        exact ⟨A4, c4, m, rfl, HH.out.1, HM.out, HH.out.2⟩
end Go.Proofs.Ytdipihdpfkoddaa
