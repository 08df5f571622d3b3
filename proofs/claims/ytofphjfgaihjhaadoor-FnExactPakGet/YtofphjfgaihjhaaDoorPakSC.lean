/-
  The reference's l4Bytes for every code. Condition: what was met, and the last string, are read from memory that was there.
-/
import Derived.Test.YtofphjfgaihjhaaDoorPakSB
namespace Go.Proofs.YtofphjfgaihjhaaDoor
open Go.RowKit

theorem take1_at {l : List UInt8} {x : UInt8} (h : l[0]? = some x) : l.take 1 = [x] := by
  cases l with
  | nil => simp at h
  | cons y l => simp at h; subst h; rfl
set_option maxRecDepth 100000 in
set_option maxHeartbeats 1000000 in
theorem l4Bytes_any (base cA : Nat) (A : Option Addr) (met : List (List UInt8)) (A' : Option Addr) (c' : Nat) (last : List UInt8) (cd : Nat) (X : Option Nat) (w : World) (hbb : OwnBB w base X (.slice A met.length cA) met) (hl : HasV w X A' last) (hll : last.length ≤ 300) (hm : met.length < 255) (h5 : cd < 512) (h6 : cd ≠ 256) (hX : ∀ q, X = some q → q < w.heap.size) :
    Calls Tryd.prog 40 #[.slice A met.length cA, .slice A' last.length c', .int .i64 (cd : Int)] w (BytesOut X (bytes4 met last cd) w) := by
  by_cases hc : cd < 256
  · obtain ⟨x, rfl⟩ : ∃ x : UInt8, cd = x.toNat := ⟨UInt8.ofNat cd, by simp; omega⟩
    have hx1 : ((x.toNat : Int) < 256) = True := eq_true (by omega)
    have hx2 : IntKind.u8.wrap (x.toNat : Int) = (x.toNat : Int) := by
      show (x.toNat : Int) % 256 = (x.toNat : Int)
      omega
    have hx3 : (x.toNat : Int) % 256 = (x.toNat : Int) := by omega
    have ho : Own (w.alloc (.cells #[.int .u8 (x.toNat : Int)] 5)) w.heap.size (.slice (some ⟨w.heap.size, 0, none⟩) 1 1) [x] := own_lit w x
    have HF : Hid (BytesOut X (bytes4 met last x.toNat) w (.returned (.slice (some ⟨w.heap.size, 0, none⟩) 1 1)) (w.alloc (.cells #[.int .u8 (x.toNat : Int)] 5))) := Lib.hid (by
      have e : bytes4 met last x.toNat = [x] := by unfold bytes4; rw [if_pos hc]; simp
      rw [e]
      exact ⟨_, _, rfl, by simp, ho.hasV (own_ne_X hX ho), (Below.refl _ w).alloc (Nat.le_refl _) _⟩)
    clear hbb hl hll hm h5 h6 hX hc ho
    go_enter Tryd.func40, Tryd.ntmps40
    go_wp2
    go_ret
    exact HF.out
  · obtain ⟨j, rfl⟩ : ∃ j, cd = 257 + j := ⟨cd - 257, by omega⟩
    by_cases hj : j < met.length
    · obtain ⟨g, b, Ab, cb, rfl, hb, hcell, hcb, hbv⟩ := hbb.spot hj
      have HF : Hid (BytesOut X (bytes4 met last (257 + j)) w (.returned (.slice Ab b.length cb)) w) := Lib.hid (by
        have e : bytes4 met last (257 + j) = b := by unfold bytes4; rw [if_neg hc, show 257 + j - 257 = j from by omega, if_pos hj, hb]; rfl
        rw [e]
        exact ⟨_, _, rfl, hcb, hbv, Below.refl _ w⟩)
      obtain ⟨cd, hcd⟩ : ∃ cd : Int, ((257 + j : Nat) : Int) = cd := ⟨_, rfl⟩
      rw [hcd]
      have h1 : ¬ cd < 256 := by omega
      have h3' : cd - 257 = (j : Int) := by omega
      have h3 : (j : Int) < (met.length : Int) := by omega
      have h4 : (met.length : Int) < 255 := by omega
      clear hbb hl hll hm h5 h6 hX hc hb hbv hcb hcd
      go_enter Tryd.func40, Tryd.ntmps40
      go_wp2
      go_ret
      exact HF.out
    · by_cases hq : j = met.length ∧ 0 < last.length
      · obtain ⟨rfl, hlen⟩ := hq
        obtain ⟨lb, lo, x, rfl, -, hx, -⟩ := hl.has.spot hlen
        have e : bytes4 met last (257 + met.length) = last ++ [x] := by
          unfold bytes4
          rw [if_neg hc, show 257 + met.length - 257 = met.length from by omega, if_neg hj, if_pos ⟨rfl, hlen, h5⟩, take1_at hx]
        rw [e]
        exact l4Bytes_new cA A met lb lo c' last x X w hx hll hm hl.has hX
      · have ho : Own (w.alloc (.cells #[] 5)) w.heap.size (.slice (some ⟨w.heap.size, 0, none⟩) 0 0) [] := own_empty (Nat.le_refl _)
        have HF : Hid (BytesOut X (bytes4 met last (257 + j)) w (.returned (.slice (some ⟨w.heap.size, 0, none⟩) 0 0)) (w.alloc (.cells #[] 5))) := Lib.hid (by
          have e : bytes4 met last (257 + j) = [] := by
            unfold bytes4
            rw [if_neg hc, show 257 + j - 257 = j from by omega, if_neg hj, if_neg (fun q => hq ⟨q.1, q.2.1⟩)]
          rw [e]
          exact ⟨_, _, rfl, by simp, .inl rfl, (Below.refl _ w).alloc (Nat.le_refl _) _⟩)
        obtain ⟨cd, hcd⟩ : ∃ cd : Int, ((257 + j : Nat) : Int) = cd := ⟨_, rfl⟩
        rw [hcd]
        have h1 : ¬ cd < 256 := by omega
        have h3' : cd - 257 = (j : Int) := by omega
        have h3 : ¬ (j : Int) < (met.length : Int) := by omega
        have h4 : (j : Int) < 255 := by omega
        by_cases hjm : j = met.length
        · have hl0 : ¬ 0 < (last.length : Int) := by omega
          have hjI : ((j : Int) == (met.length : Int)) = true := beq_iff_eq.2 (by omega)
          clear hbb hl hll hm h5 h6 hX hc hq hcd ho hj hjm
          go_enter Tryd.func40, Tryd.ntmps40
          go_wp2
          go_ret
          exact HF.out
        · have hjI : ((j : Int) == (met.length : Int)) = false := beq_eq_false_iff_ne.2 (by omega)
          clear hbb hl hll hm h5 h6 hX hc hq hcd ho hj hjm
          go_enter Tryd.func40, Tryd.ntmps40
          go_wp2
          go_ret
          exact HF.out
end Go.Proofs.YtofphjfgaihjhaaDoor
