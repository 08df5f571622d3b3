/-
  impl.HexText returns two digits for each byte. Condition: at most 2^30 bytes.
-/
import Derived.Test.YtbejafbpipdbjaaDoorHexM
import Derived.StillTailTactics
namespace Go.Proofs.YtbejafbpipdbjaaDoor
set_option maxRecDepth 4000
open Go.RowKit

theorem at_digits (w : World) (k : IntKind) (p : Nat) (hp : p < 16) :
    (Instr.index 9 (.string ⟨#[48, 49, 50, 51, 52, 53, 54, 55, 56, 57, 97, 98, 99, 100, 101, 102]⟩) (.int k (p : Int))).run Tryd.prog w = .ok (.int .u8 ((dig p).toNat : Int)) w := by
  have e : ∀ q : Fin 16, (⟨#[48, 49, 50, 51, 52, 53, 54, 55, 56, 57, 97, 98, 99, 100, 101, 102]⟩ : ByteArray)[q.val]'q.isLt = dig q.val := by decide +kernel
  have e1 := e ⟨p, hp⟩
  have hz : (⟨#[48, 49, 50, 51, 52, 53, 54, 55, 56, 57, 97, 98, 99, 100, 101, 102]⟩ : ByteArray).size = 16 := rfl
  rw [run_index_string w _ _ _ _ Tryd.underlying9, dif_pos (by rw [hz]; omega)]
  rw [← e1]
  simp

set_option maxHeartbeats 400000 in
theorem implHexText_any (A : Option Addr) (c : Nat) (l : List UInt8) (w : World) (hs : l.length ≤ 1073741824) (h : Has w w.heap.size A l) :
    Calls Tryd.prog 81 #[.slice A l.length c] w fun e w' => e = .returned (.string ⟨(hexL l).toArray⟩) ∧ Below w.heap.size w w' := by
  obtain ⟨i0, hi, hz0, hz1, hz2⟩ := info_parts info8
  go_enter Tryd.func81, Tryd.ntmps81
  go_wp2_with (at_make; refine wpList_make_own _ rfl _ _ 44 rfl w.heap.size 5 i0 (.int .u8 0) 1 Tryd.underlying44 hi hz0 hz1 _ _ _ (2 * l.length) rfl rfl (by omega) (by rw [hz2]; omega) (by unfold maxLen; omega) (Nat.le_refl _) ?_; intro w1 hown hgrow)
  have hb1 : Below w.heap.size w w1 := (Below.refl _ w).grown hgrow (Nat.le_refl _) (fun _ e => by cases e)
  have ho1 : Own w1 w.heap.size (.slice (some ⟨w.heap.size, 0, none⟩) 0 (2 * l.length)) [] := hown
  clear hown hgrow
  go_loopw [3, 12] (fun s i wr => ∃ k : Nat, k ≤ l.length ∧ i = .int .i64 k ∧ Own wr w.heap.size s (hexL (l.take k)) ∧ Below w.heap.size w wr)
    (fun _ i _ => l.length - (intOf i).toNat)
  case atStart => exact ⟨0, Nat.zero_le _, rfl, ho1, hb1⟩
  case round =>
    obtain ⟨k, hk, rfl, hown, hbel⟩ := hrel
    by_cases hlt : k < l.length
    · obtain ⟨b, o, x, rfl, hbB, hx, hc⟩ := h.spot hlt
      have hcx := (hbel.cell (p := ⟨b, o + k, none⟩) hbB).trans hc
      have HX := Lib.hid (hexL_take l k x hx)
      clear hx hc h
      have hx255 : (x.toNat : Int) < 256 := by have := x.toNat_lt; omega
      obtain ⟨p, hp⟩ : ∃ p : Nat, x.toNat / 16 = p := ⟨_, rfl⟩
      obtain ⟨q, hq⟩ : ∃ q : Nat, x.toNat % 16 = q := ⟨_, rfl⟩
      have hp16 : p < 16 := by have := x.toNat_lt; omega
      have hq16 : q < 16 := by omega
      have e1 : (x.toNat : Int) / 16 = (p : Int) := by omega
      have e2 : bits .and .u8 (x.toNat : Int) 15 = (q : Int) := by rw [u8_and15 _ (by omega) (by omega)]; omega
      have c1 := fun W => at_digits W .u8 p hp16
      have c2 := fun W => at_digits W .u8 q hq16
      have HP := Lib.hid hp
      have HQ := Lib.hid hq
      have hgl : (hexL (l.take k)).length ≤ 4294967296 := by rw [hexL_length]; simp; omega
      have hsz := hbel.size
      clear hp hq
      go_wp2
      go_region_law (refine step_push rfl (.tmp 16) (.tmp 23) rfl w.heap.size u3 (hexL (l.take k)) rfl (by exact hown.alloc _) ⟨wr.heap.size, 0, none⟩ 2 [dig p, dig q] rfl (by exact laid_new wr [dig p, dig q] _) (by simp) (by simp; omega) (by simp; omega) ?_; intro g cap w2 ho2 hg2)
      all_goals
        have hb2 : Below w.heap.size w w2 := ((hbel.alloc hsz (.cells #[.int .u8 ((dig p).toNat : Int), .int .u8 ((dig q).toNat : Int)] 5)).drew).grown hg2 (by simp; omega) (fun k hk => (hown.lt k hk).1)
        have ho3 : Own w2 w.heap.size (.slice (some ⟨g, 0, none⟩) ((hexL (l.take k)).length + 2) cap) (hexL (l.take (k + 1))) := by rw [HX.out, HP.out, HQ.out]; exact ho2
        clear ho2 hg2 hown
        go_wp2
        go_roundw
        case rel => exact ⟨k + 1, by omega, by go_num, ho3, hb2⟩
        case measure => simp [intOf]; omega
    · obtain rfl : k = l.length := by omega
      rw [List.take_length] at hown
      have hcv := text_of_own hown
      clear hown
      go_wp2
      go_ret
      exact ⟨rfl, hbel⟩
end Go.Proofs.YtbejafbpipdbjaaDoor
