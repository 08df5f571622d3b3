/-
  The program's BitGet: a reader of bits with a place that keeps its first error. It returns the number that the bits make, or 0 and false. Conditions: at most 2^30 bytes; the three errors are not nil.
-/
import Derived.Test.YtofphjfgaihjhaaDoorBitG
import Derived.Test.YtofphjfgaihjhaaDoorPush
import Derived.Test.YtofphjfgaihjhaaDoorBitE
namespace Go.Proofs.YtofphjfgaihjhaaDoor
open Go.RowKit

/-- Block g is a reader of the bytes l that stands at place a and has the error e. -/
def RdB (w : World) (g : Nat) (A : Option Addr) (c : Nat) (l : List UInt8) (a : Int) (e : Value) : Prop :=
  w.heap[g]? = some (.cells #[.slice A l.length c, .int .i64 a, e] 64 (0, 0)) ∧ Has w g A l
section
variable {w w' : World} {g : Nat} {A : Option Addr} {c : Nat} {l : List UInt8} {a : Int} {e : Value}
theorem RdB.lt (h : RdB w g A c l a e) : g < w.heap.size := (Array.getElem?_eq_some_iff.1 h.1).1
theorem RdB.c0 (h : RdB w g A c l a e) : w.cell? ⟨g, 0, none⟩ = some (.slice A l.length c) := by rw [cell_of_row w g 0 _ _ _ h.1]; rfl
theorem RdB.c1 (h : RdB w g A c l a e) : w.cell? ⟨g, 1, none⟩ = some (.int .i64 a) := by rw [cell_of_row w g 1 _ _ _ h.1]; rfl
theorem RdB.c2 (h : RdB w g A c l a e) : w.cell? ⟨g, 2, none⟩ = some e := by rw [cell_of_row w g 2 _ _ _ h.1]; rfl
theorem RdB.free (h : RdB w g A c l a e) (i : Nat) : w.frozen? ⟨g, i, none⟩ = false := by simp [World.frozen?, h.1]
theorem RdB.drewN (h : RdB w g A c l a e) (n : Nat) : RdB (w.drewN n) g A c l a e := h
theorem RdB.set1 (h : RdB w g A c l a e) (b : Int) : RdB (w.setCell ⟨g, 1, none⟩ (.int .i64 b)) g A c l b e := by
  refine ⟨?_, h.2.kept fun q hq => World.cell?_of_block (Below.heap_setCell w _ _ q.block (by simp; omega))⟩
  have := heap_setCell_same w g 1 _ _ (.int .i64 b) h.1
  simpa using this
theorem RdB.set2 (h : RdB w g A c l a e) (v : Value) : RdB (w.setCell ⟨g, 2, none⟩ v) g A c l a v := by
  refine ⟨?_, h.2.kept fun q hq => World.cell?_of_block (Below.heap_setCell w _ _ q.block (by simp; omega))⟩
  have := heap_setCell_same w g 2 _ _ v h.1
  simpa using this
end

theorem and_bit (x s bt : Nat) (hx : x < 256) (hb : x / 2 ^ s % 2 = bt) : bits .and .u8 ((x : Int) / 2 ^ s) 1 = (bt : Int) := by
  have e2 : (x : Int) / 2 ^ s = ((x / 2 ^ s : Nat) : Int) := by simp
  have hy : x / 2 ^ s < 256 := Nat.lt_of_le_of_lt (Nat.div_le_self _ _) hx
  rw [e2]
  generalize x / 2 ^ s = y at *
  show IntKind.u8.wrap ((BitVec.ofInt 8 (y : Int) &&& BitVec.ofInt 8 1).toNat : Int) = _
  rw [BitVec.toNat_and, BitVec.ofInt_natCast, show (BitVec.ofInt 8 1).toNat = 1 from rfl, BitVec.toNat_ofNat, Nat.mod_eq_of_lt (by omega), Nat.and_one_is_mod, hb, IntKind.wrap_u8]
  omega

set_option maxHeartbeats 1000000 in
theorem getOne_bit (g : Nat) (A : Option Addr) (c : Nat) (l : List UInt8) (p : Nat) (w : World) (h : RdB w g A c l p .nilIface) (hs : l.length ≤ 1073741824) (hp : p / 8 < l.length) :
    Calls Tryd.prog 50 #[.pointer (some ⟨g, 0, none⟩)] w fun e w' => e = .returned (.int .i64 (bitAt l p : Int)) ∧ RdB w' g A c l ((p : Int) + 1) .nilIface ∧ w.grownBy w' (some g) := by
  obtain ⟨i, hi⟩ : ∃ i, p / 8 = i := ⟨_, rfl⟩
  obtain ⟨s, hs'⟩ : ∃ s, p % 8 = s := ⟨_, rfl⟩
  obtain ⟨b, o, x, rfl, hbB, hx, hc⟩ := h.2.spot (k := i) (by omega)
  have hbit := bitAt_of (l := l) (a := p) (x := x) (by rw [hi]; exact hx)
  have hbl := bitAt_lt l p
  rw [hs'] at hbit
  generalize bitAt l p = bt at *
  have c0 := h.c0
  have c1 := h.c1
  have f1 := h.free 1
  have ho := and_bit x.toNat s bt x.toNat_lt hbit
  have t1 : (p : Int) / 8 = (i : Int) := by omega
  have t2 : (p : Int) % 8 = (s : Int) := by omega
  have hi2 : ¬ ((l.length : Int) ≤ (i : Int)) := by omega
  have HR := Lib.hid fun n => ((h.drewN n).set1 ((p : Int) + 1))
  have hbg : ¬ b = g := by omega
  have u1 := IntWalk.i64_in ((p : Int) + 1) (by omega)
  have u2 := IntWalk.i64_in (i : Int) (by omega)
  have hs8 : (s : Int) < 8 := by omega
  clear hx hbit hi hs' h hp hs
  go_enter Tryd.func50, Tryd.ntmps50
  go_wp2
  go_quiet (fail)
  generalize nq = n1 at *
  go_wp2
  go_quiet (fail)
  generalize nq = n2 at *
  go_wp2
  go_ret
  exact ⟨rfl, HR.out _, grown_draw _ _ _ _ _⟩

set_option maxHeartbeats 1000000 in
theorem getOne_end (g : Nat) (A : Option Addr) (c : Nat) (l : List UInt8) (p : Nat) (w : World) (h : RdB w g A c l p .nilIface) (hp : l.length ≤ p / 8) (hp3 : p < 9223372036854775808) (he : ErrV w 2) :
    Calls Tryd.prog 50 #[.pointer (some ⟨g, 0, none⟩)] w fun e w' => e = .returned (.int .i64 0) ∧ ∃ u v, RdB w' g A c l (p : Int) (.iface u v) ∧ w.grownBy w' (some g) := by
  obtain ⟨i, hi⟩ : ∃ i, p / 8 = i := ⟨_, rfl⟩
  obtain ⟨u, v, ce⟩ := he
  have c0 := h.c0
  have c1 := h.c1
  have c2 := h.c2
  have f2 := h.free 2
  have t1 : (p : Int) / 8 = (i : Int) := by omega
  have hi2 : (l.length : Int) ≤ (i : Int) := by omega
  have HR := Lib.hid fun n => ((h.drewN n).set2 (.iface u v))
  have u2 := IntWalk.i64_in (i : Int) (by omega)
  clear hi h hp hp3
  go_enter Tryd.func50, Tryd.ntmps50
  go_wp2
  go_quiet (fail)
  generalize nq = n1 at *
  go_wp2
  go_ret
  exact ⟨rfl, u, v, HR.out _, grown_draw _ _ _ _ _⟩

theorem or_nat (a b : Nat) (ha : a < 4611686018427387904) (hb : b < 4611686018427387904) : bits .or .i64 (a : Int) (b : Int) = ((a ||| b : Nat) : Int) := by
  have hx : a ||| b < 2 ^ 62 := Nat.or_lt_two_pow ha hb
  show IntKind.i64.wrap ((BitVec.ofInt 64 (a : Int) ||| BitVec.ofInt 64 (b : Int)).toNat : Int) = _
  rw [BitVec.toNat_or, BitVec.ofInt_natCast, BitVec.ofInt_natCast, BitVec.toNat_ofNat, BitVec.toNat_ofNat, Nat.mod_eq_of_lt (by omega), Nat.mod_eq_of_lt (by omega)]
  exact IntWalk.i64_in _ (by omega)
theorem or_step (m k bt : Nat) (hm : m < 2 ^ k) (hk : k < 12) (hb : bt ≤ 1) : bits .or .i64 (m : Int) (wrap64 ((bt : Int) * 2 ^ k)) = ((m + bt * 2 ^ k : Nat) : Int) := by
  have e4 : (bt : Int) * 2 ^ k = ((bt * 2 ^ k : Nat) : Int) := by simp
  have h1 := two_pow_le k (Nat.le_of_lt hk)
  have h2 : bt * 2 ^ k ≤ 1 * 2 ^ k := Nat.mul_le_mul_right _ hb
  have h3 : bt * 2 ^ k < 8192 := Nat.lt_of_le_of_lt h2 (by rw [Nat.one_mul]; exact Nat.lt_of_le_of_lt h1 (by decide))
  have h4 := Nat.two_pow_add_eq_or_of_lt hm bt
  rw [e4, w64 _ (Nat.lt_trans h3 (by decide)), or_nat _ _ (Nat.lt_of_lt_of_le hm (Nat.le_trans h1 (by decide))) (Nat.lt_trans h3 (by decide))]
  rw [Nat.or_comm, Nat.mul_comm bt, ← h4, Nat.add_comm]

/-- What get leaves: a reader without an error just if so many bits are there. -/
def Got (w : World) (g : Nat) (A : Option Addr) (c : Nat) (l : List UInt8) (ok : Bool) : Prop :=
  (ok = true ∧ ∃ a, RdB w g A c l a .nilIface) ∨ (ok = false ∧ ∃ a u v, RdB w g A c l a (.iface u v))

theorem get_err (g : Nat) (A : Option Addr) (c : Nat) (l : List UInt8) (a b : Int) (u : TypeId) (v : Value) (w : World) (h : RdB w g A c l a (.iface u v)) :
    Calls Tryd.prog 34 #[.pointer (some ⟨g, 0, none⟩), .int .i64 b] w fun e w' => e = .returned (.int .i64 0) ∧ w' = w := by
  have c2 := h.c2
  clear h
  go_enter Tryd.func34, Tryd.ntmps34
  go_wp2
  go_loop [5, 6] (fun n i => n = .int .i64 0 ∧ i = .int .i64 0) (fun _ _ => 0)
  case atStart => exact ⟨rfl, rfl⟩
  case round =>
    obtain ⟨rfl, rfl⟩ := hrel
    by_cases hb : 0 < b
    all_goals
      go_wp2
      go_ret
      exact ⟨rfl, rfl⟩

theorem get_bad (g : Nat) (A : Option Addr) (c : Nat) (l : List UInt8) (a b : Int) (w : World) (h : RdB w g A c l a .nilIface) (hb : ¬ (1 ≤ b ∧ b ≤ 12)) (he : ErrV w 1) (hg : 1 < g) :
    Calls Tryd.prog 34 #[.pointer (some ⟨g, 0, none⟩), .int .i64 b] w fun e w' => e = .returned (.int .i64 0) ∧ (∃ u v, RdB w' g A c l a (.iface u v)) ∧ w.grownBy w' (some g) := by
  obtain ⟨u, v, ce⟩ := he
  have c2 := h.c2
  have f2 := h.free 2
  have hd : decide (1 ≤ b ∧ b ≤ 12) = false := decide_eq_false hb
  have hr := h.set2 (.iface u v)
  have HR := Lib.hid hr
  have d2 := hr.c2
  have hgr := grown_cell w g 2 (.iface u v)
  have HG := Lib.hid hgr
  have hne : ¬ g = 1 := by omega
  clear h hg hr hgr
  go_enter Tryd.func34, Tryd.ntmps34
  go_wp2_with fail
  refine (bitWidthOk_any _ _).mono ?_
  rintro e w' ⟨rfl, rfl⟩
  go_wp2
  generalize w'.setCell ⟨g, 2, none⟩ (.iface u v) = w2 at *
  go_loop [5, 6] (fun n i => n = .int .i64 0 ∧ i = .int .i64 0) (fun _ _ => 0)
  case atStart => exact ⟨rfl, rfl⟩
  case round =>
    obtain ⟨rfl, rfl⟩ := hrel
    clear ce c2 f2
    by_cases hb0 : 0 < b
    all_goals
      go_wp2
      go_ret
      exact ⟨rfl, ⟨u, v, HR.out⟩, HG.out⟩
end Go.Proofs.YtofphjfgaihjhaaDoor
