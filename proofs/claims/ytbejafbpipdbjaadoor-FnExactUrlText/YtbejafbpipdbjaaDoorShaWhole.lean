/-
  The reference's l1Whole fills bytes up to whole blocks. Condition: at most 100000 bytes.
-/
import Derived.Test.YtbejafbpipdbjaaDoorPushAll
import Derived.Test.YtbejafbpipdbjaaDoorShaW
namespace Go.Proofs.YtbejafbpipdbjaaDoor
set_option maxRecDepth 4000
open Go.RowKit

/-- Bytes, a bit, and z noughts. -/
def padTo (l : List UInt8) (z : Nat) : List UInt8 := l ++ 128 :: List.replicate z 0
theorem padTo_length (l : List UInt8) (z : Nat) : (padTo l z).length = l.length + 1 + z := by simp [padTo]; omega
theorem padTo_succ (l : List UInt8) (z : Nat) : padTo l (z + 1) = padTo l z ++ [0] := by simp [padTo, List.replicate_succ']
/-- Bytes filled up, and j bytes of how many there are. -/
def padLen (l : List UInt8) (j : Nat) : List UInt8 := padTo l (zeros l.length) ++ (len8 l.length).take j
theorem padLen_length (l : List UInt8) (j : Nat) (hj : j ≤ 8) : (padLen l j).length = l.length + 1 + zeros l.length + j := by
  simp [padLen, padTo_length, len8]; omega
theorem padLen_succ (l : List UInt8) (j : Nat) (hj : j < 8) : padLen l (j + 1) = padLen l j ++ [UInt8.ofNat ((8 * l.length) >>> (8 * (7 - j)))] := by
  unfold padLen
  rw [List.take_succ_eq_append_getElem (by simp [len8]; omega), ← List.append_assoc]
  simp [len8]
theorem padLen_all (l : List UInt8) : padLen l 8 = whole l := by
  unfold padLen
  rw [List.take_of_length_le (by simp [len8])]
  simp [padTo, whole]
theorem padLen_none (l : List UInt8) : padLen l 0 = padTo l (zeros l.length) := by simp [padLen]

set_option maxHeartbeats 1000000 in
theorem l1Whole_any (A : Option Addr) (c : Nat) (l : List UInt8) (w : World) (hl : l.length ≤ 100000) (h : Has w w.heap.size A l) :
    Calls Tryd.prog 112 #[.slice A l.length c] w fun e w' => ∃ v, e = .returned v ∧ Own w' w.heap.size v (whole l) ∧ Below w.heap.size w w' := by
  have hzl : zeros l.length < 64 := Nat.mod_lt _ (by decide)
  have hz56 : (l.length + 1 + zeros l.length) % 64 = 56 := by unfold zeros; omega
  have hzn : ∀ z, z < zeros l.length → (l.length + 1 + z) % 64 ≠ 56 := by unfold zeros; intro z hz; omega
  have HZN := Lib.hid hzn
  have HZ56 := Lib.hid hz56
  clear hzn hz56
  go_enter Tryd.func112, Tryd.ntmps112
  go_wp2_with (first
    | (at_builtin; refine wpList_pushAll rfl (.tmp 6) (.tmp 7) rfl w.heap.size _ [] rfl (own_empty (Nat.le_refl _)) _ A c l rfl (h.kept (w' := w.alloc (.cells #[] 5)) fun p hp => World.cell?_of_block (Below.heap_alloc w _ p.block hp)) (by simp; omega) (by simp) ?_; intro v1 w1 ho1 hg1)
    | (at_builtin; refine wpList_push1 rfl (.tmp 8) (.tmp 9) rfl w.heap.size _ l rfl ho1 128 w1.heap.size rfl rfl (by omega) (by have := hg1.size; simp at this; omega) ?_; intro g2 c2 w2 ho2 hg2))
  have hlt1 : ∀ k, (Value.slice (some ⟨w.heap.size, 0, none⟩) 0 0).ownBlock = some k → w.heap.size ≤ k := fun k hk => by simp [Value.ownBlock] at hk; omega
  have hb1 : Below w.heap.size w w1 := ((Below.refl _ w).alloc (Nat.le_refl _) _).grown hg1 (by simp) hlt1
  have hb2 : Below w.heap.size w w2 := (hb1.alloc hb1.size _).grown hg2 (by have := hb1.size; simp; omega) (fun k hk => (World.ownsRow.lt ho1 k hk).1)
  have ho2' : Own w2 w.heap.size (.slice (some ⟨g2, 0, none⟩) (l.length + 1) c2) (padTo l 0) := ho2
  clear ho1 hg1 ho2 hg2 hlt1 hb1
  go_loopw [3] (fun v wr => ∃ z : Nat, z ≤ zeros l.length ∧ Own wr w.heap.size v (padTo l z) ∧ Below w.heap.size w wr) (fun v _ => zeros l.length + l.length + 1 - (match v with | .slice _ n _ => n | _ => 0))
  case atStart => exact ⟨0, by omega, ho2', hb2⟩
  case round =>
    obtain ⟨z, hz, hown, hbel⟩ := hrel
    have hws := hbel.size
    obtain ⟨A3, c3, hv, -, -⟩ := hown.has
    have hpl := padTo_length l z
    rw [hpl] at hv
    subst hv
    by_cases hlt : z < zeros l.length
    · have ht : (((l.length : Int) + 1 + (z : Int)) % 64 != 56) = true := by have := HZN.out z hlt; simp; omega
      go_wp2_with (at_builtin; refine wpList_push1 rfl (.tmp 15) (.tmp 16) rfl w.heap.size _ (padTo l z) rfl hown 0 wr.heap.size rfl rfl (by omega) (by omega) ?_; intro g4 c4 w4 ho4 hg4)
      have hb4 : Below w.heap.size w w4 := (hbel.alloc hws _).grown hg4 (by simp; omega) (fun k hk => (World.ownsRow.lt hown k hk).1)
      rw [← padTo_succ, hpl] at ho4
      clear hg4 hown hpl
      go_wp2
      go_roundw
      case rel => exact ⟨z + 1, by omega, ho4, hb4⟩
      case measure => simp; omega
    · obtain rfl : z = zeros l.length := by omega
      have ht : (((l.length : Int) + 1 + (zeros l.length : Int)) % 64 != 56) = false := by have := HZ56.out; simp; omega
      rw [← padLen_none] at hown
      clear hpl
      go_wp2
      clear ht h HZN HZ56 hlt hz
      go_loopw [3, 5] (fun v i wr => ∃ j : Nat, j ≤ 8 ∧ i = .int .i64 (7 - (j : Int)) ∧ Own wr w.heap.size v (padLen l j) ∧ Below w.heap.size w wr) (fun _ i _ => (intOf i + 1).toNat)
      case atStart => exact ⟨0, by omega, rfl, hown, hbel⟩
      case round =>
        clear hown hbel hws ho2' hb2
        obtain ⟨j, hj, rfl, hown, hbel⟩ := hrel
        have hws := hbel.size
        by_cases hlt : j < 8
        · have hpl := padLen_length l j hj
          have HS := Lib.hid (padLen_succ l j hlt)
          have e8 : IntKind.u8.wrap ((8 * (l.length : Int)) / 2 ^ (8 * (7 - j))) = ((UInt8.ofNat ((8 * l.length) >>> (8 * (7 - j)))).toNat : Int) := by
            rw [IntKind.wrap_u8, Nat.shiftRight_eq_div_pow, show (8 * (l.length : Int)) / 2 ^ (8 * (7 - j)) = ((8 * l.length / 2 ^ (8 * (7 - j)) : Nat) : Int) from by simp]
            simp
          generalize UInt8.ofNat ((8 * l.length) >>> (8 * (7 - j))) = x at *
          have hj0 : 0 ≤ 8 * (7 - (j : Int)) := by omega
          have tn : (8 * (7 - (j : Int))).toNat = 8 * (7 - j) := by omega
          go_wp2_with (at_builtin; refine wpList_push1 rfl (.tmp 26) (.tmp 32) rfl w.heap.size _ (padLen l j) rfl hown x wr.heap.size rfl rfl (by omega) (by omega) ?_; intro g4 c4 w4 ho4 hg4)
          have hb4 : Below w.heap.size w w4 := (hbel.alloc hws _).grown hg4 (by simp; omega) (fun k hk => (World.ownsRow.lt hown k hk).1)
          rw [← HS.out] at ho4
          clear hg4 hown
          go_wp2
          go_roundw
          case rel => exact ⟨j + 1, by omega, by go_num, by rw [← hpl]; exact ho4, hb4⟩
          case measure => simp [intOf]; omega
        · obtain rfl : j = 8 := by omega
          rw [padLen_all] at hown
          go_wp2
          go_ret
          exact ⟨_, rfl, hown, hbel⟩
end Go.Proofs.YtbejafbpipdbjaaDoor
