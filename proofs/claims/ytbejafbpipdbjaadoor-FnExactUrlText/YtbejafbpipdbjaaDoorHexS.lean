/-
  spec.HexText returns two digits for each byte. Condition: at most 2^30 bytes.
-/
import Derived.Test.YtbejafbpipdbjaaDoorBase
import Derived.Test.YtbejafbpipdbjaaDoorHexM
import Derived.Laws.DeepStrings4
import Derived.Laws.Concat
namespace Go.Proofs.YtbejafbpipdbjaaDoor
set_option maxRecDepth 4000
open Go.RowKit

theorem add_text (w : World) (a b : List UInt8) (h : a.length + b.length ≤ 9223372036854775807) :
    (Op.stringOp .add ⟨a.toArray⟩ ⟨b.toArray⟩).run Tryd.prog w = .ok (.string ⟨(a ++ b).toArray⟩) w := by
  rw [run_string_add_sum w _ _ (by simpa [ByteArray.size] using h)]
  congr 2

theorem digits_at (p : Nat) (hp : p < 16) : (⟨#[48, 49, 50, 51, 52, 53, 54, 55, 56, 57, 97, 98, 99, 100, 101, 102]⟩ : ByteArray).extract p (p + 1) = ⟨#[dig p]⟩ := by
  have e : ∀ q : Fin 16, (⟨#[48, 49, 50, 51, 52, 53, 54, 55, 56, 57, 97, 98, 99, 100, 101, 102]⟩ : ByteArray).extract q.val (q.val + 1) = ⟨#[dig q.val]⟩ := by decide +kernel
  exact e ⟨p, hp⟩
theorem digits_end (g : List UInt8) (p q : Nat) (hq : q < 16) :
    (⟨(g ++ [dig p]).toArray⟩ : ByteArray) ++ (⟨#[48, 49, 50, 51, 52, 53, 54, 55, 56, 57, 97, 98, 99, 100, 101, 102]⟩ : ByteArray).extract q (q + 1) = ⟨(g ++ [dig p, dig q]).toArray⟩ := by
  rw [digits_at q hq]
  apply ByteArray.ext
  simp

theorem cut_digits (w : World) (k k' : IntKind) (p : Nat) (hp : p < 16) :
    (Instr.slice 9 (.string ⟨#[48, 49, 50, 51, 52, 53, 54, 55, 56, 57, 97, 98, 99, 100, 101, 102]⟩) (some (.int k (p : Int))) (some (.int k' ((p : Int) + 1))) none).run Tryd.prog w = .ok (.string ⟨#[dig p]⟩) w := by
  rw [run_slice_string_if w _ _ _ _ _ _ Tryd.underlying9]
  rw [if_pos (by simp [ByteArray.size]; omega), if_pos (by omega)]
  rw [show ((p : Int) + 1).toNat = p + 1 from by omega, Int.toNat_natCast, digits_at p hp]

set_option maxHeartbeats 400000 in
theorem specHexText_any (A : Option Addr) (c : Nat) (l : List UInt8) (w : World) (hs : l.length ≤ 1073741824) (h : Has w w.heap.size A l) :
    Calls Tryd.prog 79 #[.slice A l.length c] w fun e w' => e = .returned (.string ⟨(hexL l).toArray⟩) ∧ ∃ n, w' = w.drewN n := by
  go_enter Tryd.func79, Tryd.ntmps79
  go_wp2
  go_loopw [3, 4] (fun s i wr => ∃ k : Nat, k ≤ l.length ∧ i = .int .i64 k ∧ s = .string ⟨(hexL (l.take k)).toArray⟩ ∧ ∃ n, wr = w.drewN n) (fun _ i _ => l.length - (intOf i).toNat)
  case atStart => exact ⟨0, Nat.zero_le _, rfl, rfl, 0, rfl⟩
  case round =>
    obtain ⟨k, hk, rfl, rfl, n, rfl⟩ := hrel
    by_cases hlt : k < l.length
    · obtain ⟨b, o, x, rfl, hbB, hx, hc⟩ := h.spot hlt
      have HX := Lib.hid (hexL_take l k x hx)
      clear hx h
      have hx255 : (x.toNat : Int) < 256 := by have := x.toNat_lt; omega
      generalize hg : hexL (l.take k) = g at *
      have hgl : g.length ≤ 4294967296 := by rw [← hg, hexL_length]; simp; omega
      clear hg
      obtain ⟨p, hp⟩ : ∃ p : Nat, x.toNat / 16 = p := ⟨_, rfl⟩
      obtain ⟨q, hq⟩ : ∃ q : Nat, x.toNat % 16 = q := ⟨_, rfl⟩
      have hp16 : p < 16 := by have := x.toNat_lt; omega
      have hq16 : q < 16 := by omega
      have e1 : IntKind.u8.wrap ((x.toNat : Int) / 16) = (p : Int) := by rw [IntKind.wrap_u8]; omega
      have e3 : IntKind.u8.wrap ((p : Int) + 1) = (p : Int) + 1 := by rw [IntKind.wrap_u8]; omega
      have c1 := fun W => cut_digits W .u8 .u8 p hp16
      have a1 := fun W => add_text W g [dig p] (by simp; omega)
      have HP := Lib.hid hp
      have HQ := Lib.hid hq
      clear hp hq
      go_wp2
      go_quiet (fail)
      go_wp2
      go_roundw
      case rel => exact ⟨k + 1, by omega, by go_num, by rw [HQ.out, digits_end g p q hq16, HX.out, HP.out, HQ.out], _, rfl⟩
      case measure => simp [intOf]; omega
    · obtain rfl : k = l.length := by omega
      rw [List.take_length]
      go_wp2
      go_ret
      exact ⟨rfl, _, rfl⟩
end Go.Proofs.YtbejafbpipdbjaaDoor
