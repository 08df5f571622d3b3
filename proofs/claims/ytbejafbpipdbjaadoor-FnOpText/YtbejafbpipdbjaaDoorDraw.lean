/-
  What inputs are drawn from: l20Open makes a reader, pick draws a number in its bounds. Conditions: fewer than 10^9 draws, bounds below 10^9.
-/
import Derived.Test.YtbejafbpipdbjaaDoorBase
import Derived.Laws.BitsAllLaws
import Derived.Laws.BitsLemmas
namespace Go.Proofs.YtbejafbpipdbjaaDoor
set_option maxRecDepth 4000
open Go.RowKit

/-- Block g is a reader of bytes that stands at place p. -/
def Rdr (w : World) (g p : Nat) : Prop :=
  ∃ A c, ∃ l : List UInt8, w.heap[g]? = some (.cells #[.slice A l.length c, .int .i64 (p : Int)] 118 (0, 0)) ∧ Has w g A l ∧ l.length ≤ 2000

theorem Rdr.lt {w : World} {g p : Nat} (h : Rdr w g p) : g < w.heap.size := by
  obtain ⟨A, c, l, hh, _⟩ := h
  exact (Array.getElem?_eq_some_iff.1 hh).1
theorem Rdr.kept {w w' : World} {g p : Nat} (h : Rdr w g p) (hk : ∀ k, k ≤ g → w'.heap[k]? = w.heap[k]?) : Rdr w' g p := by
  obtain ⟨A, c, l, hh, hl, hn⟩ := h
  refine ⟨A, c, l, (hk g (Nat.le_refl _)).trans hh, hl.kept fun q hq => World.cell?_of_block (hk q.block (Nat.le_of_lt hq)), hn⟩
theorem Rdr.below {w w' : World} {g p B : Nat} (h : Rdr w g p) (hb : Below B w w') (hg : g < B) : Rdr w' g p := h.kept fun k hk => hb.block k (by omega)
theorem Rdr.grown {w w' : World} {g p : Nat} (h : Rdr w g p) {row : Option Nat} (hg : w.grownBy w' row) (hr : ∀ k, row = some k → g < k) : Rdr w' g p :=
  h.kept fun k hk => hg.block k (by have := h.lt; omega) (fun e => by have := hr k e.symm; omega)
theorem Rdr.alloc {w : World} {g p : Nat} (h : Rdr w g p) (o : Obj) : Rdr (w.alloc o) g p := h.grown (World.grownBy_alloc w o none) (fun _ e => by cases e)
theorem Rdr.drewN {w : World} {g p : Nat} (h : Rdr w g p) (n : Nat) : Rdr (w.drewN n) g p := h

theorem rdr_new {w : World} {A : Option Addr} {l : List UInt8} (c : Nat) (h : Has w w.heap.size A l) (hn : l.length ≤ 2000) : Rdr (w.alloc (.cells #[.slice A l.length c, .int .i64 0] 118)) w.heap.size 0 :=
  ⟨A, c, l, heap_alloc_new w _, h.kept fun q hq => World.cell?_of_block (Below.heap_alloc w _ q.block hq), hn⟩

set_option maxHeartbeats 400000 in
theorem l20Open_any (A : Option Addr) (c : Nat) (l : List UInt8) (w : World) (hs : l.length ≤ 1073741824) (hc : l.length ≤ c) (h : Has w w.heap.size A l) :
    Calls Tryd.prog 64 #[.slice A l.length c] w fun e w' => e = .returned (.pointer (some ⟨w.heap.size, 0, none⟩)) ∧ Rdr w' w.heap.size 0 ∧ Below w.heap.size w w' := by
  by_cases hb : 2000 < l.length
  · have hb1 : (2000 : Int) < (l.length : Int) := by omega
    go_enter Tryd.func64, Tryd.ntmps64
    go_wp2
    go_ret
    have e : (l.take 2000).length = 2000 := by simp; omega
    have hr := rdr_new c (h.take 2000) (by omega)
    rw [e] at hr
    exact ⟨rfl, hr, (Below.refl _ _).alloc (Nat.le_refl _) _⟩
  · have hb1 : (l.length : Int) ≤ 2000 := by omega
    go_enter Tryd.func64, Tryd.ntmps64
    go_wp2
    go_ret
    exact ⟨rfl, rdr_new c h (by omega), (Below.refl _ _).alloc (Nat.le_refl _) _⟩

theorem tmod_nat (a : Nat) (n : Int) (hn : 1 ≤ n) : ∃ k : Nat, (a : Int).tmod n = (k : Int) ∧ (a : Int) % n = (k : Int) ∧ (k : Int) < n := by
  obtain ⟨m, rfl⟩ := Int.eq_ofNat_of_zero_le (show 0 ≤ n by omega)
  refine ⟨a % m, ?_, by simp, ?_⟩
  · rw [Int.tmod_eq_emod_of_nonneg (by omega)]; simp
  · have := Nat.mod_lt a (show 0 < m by omega); omega
theorem xor_nat (a b : Nat) (ha : a < 4611686018427387904) (hb : b < 4611686018427387904) : bits .xor .i64 (a : Int) (b : Int) = ((a ^^^ b : Nat) : Int) := by
  have hx : a ^^^ b < 2 ^ 62 := Nat.xor_lt_two_pow ha hb
  show IntKind.i64.wrap ((BitVec.ofInt 64 (a : Int) ^^^ BitVec.ofInt 64 (b : Int)).toNat : Int) = _
  rw [BitVec.toNat_xor, BitVec.ofInt_natCast, BitVec.ofInt_natCast, BitVec.toNat_ofNat, BitVec.toNat_ofNat, Nat.mod_eq_of_lt (by omega), Nat.mod_eq_of_lt (by omega)]
  exact IntWalk.i64_in _ (by omega)

/-- What pick answers: a number in its bounds; the reader stands one place further, and nothing else has changed. -/
def Picked (w : World) (g p : Nat) (n : Int) (e : Ending) (w' : World) : Prop :=
  ∃ k : Nat, e = .returned (.int .i64 (k : Int)) ∧ (1 ≤ n → (k : Int) < n) ∧ (n < 1 → k = 0) ∧ Rdr w' g (p + 1) ∧ w.grownBy w' (some g) ∧ w'.heap.size = w.heap.size

theorem rdr_step {w : World} {g p : Nat} (A : Option Addr) (c : Nat) (l : List UInt8) (hh : w.heap[g]? = some (.cells #[.slice A l.length c, .int .i64 (p : Int)] 118 (0, 0))) (hl : Has w g A l) (hn : l.length ≤ 2000) (m : Nat) :
    Rdr ((w.setCell ⟨g, 1, none⟩ (.int .i64 ((p : Int) + 1))).drewN m) g (p + 1) ∧ w.grownBy ((w.setCell ⟨g, 1, none⟩ (.int .i64 ((p : Int) + 1))).drewN m) (some g) ∧ ((w.setCell ⟨g, 1, none⟩ (.int .i64 ((p : Int) + 1))).drewN m).heap.size = w.heap.size := by
  refine ⟨⟨A, c, l, ?_, hl.kept fun q hq => World.cell?_of_block (Below.heap_setCell w _ _ q.block (by simp; omega)), hn⟩, ⟨rfl, rfl, rfl, by simp, fun k hk hne => Below.heap_setCell w _ _ k (fun e => hne (by rw [e]))⟩, by simp⟩
  have := heap_setCell_same w g 1 _ _ (.int .i64 ((p : Int) + 1)) hh
  simpa using this

set_option maxHeartbeats 1000000 in
theorem pick_any (g p : Nat) (n : Int) (w : World) (h : Rdr w g p) (hp : p ≤ 1000000000) (hn : n ≤ 1000000000) (hn0 : -1000000000 ≤ n) :
    Calls Tryd.prog 65 #[.pointer (some ⟨g, 0, none⟩), .int .i64 n] w (Picked w g p n) := by
  obtain ⟨A, c, l, hh, hl, hlen⟩ := h
  have hst := fun m => rdr_step A c l hh hl hlen m
  have c0 : w.cell? ⟨g, 0, none⟩ = some (.slice A l.length c) := by rw [cell_of_row w g 0 _ _ _ hh]; rfl
  have c1 : w.cell? ⟨g, 1, none⟩ = some (.int .i64 (p : Int)) := by rw [cell_of_row w g 1 _ _ _ hh]; rfl
  have f1 : w.frozen? ⟨g, 1, none⟩ = false := by simp [World.frozen?, hh]
  have HST := Lib.hid hst
  clear hst hh
  by_cases h1 : n < 1
  · go_enter Tryd.func65, Tryd.ntmps65
    go_wp2
    go_ret
    exact ⟨0, rfl, fun h => by omega, fun _ => rfl, HST.out 0⟩
  · by_cases h2 : l.length = 0
    · have h2b : ((l.length : Int) == 0) = true := beq_iff_eq.2 (by omega)
      go_enter Tryd.func65, Tryd.ntmps65
      go_wp2
      go_ret
      exact ⟨0, rfl, fun h => by omega, fun _ => rfl, HST.out 0⟩
    · have h2b : ((l.length : Int) == 0) = false := beq_eq_false_iff_ne.2 (by omega)
      have hne : ¬ (n = 0) := by omega
      by_cases h3 : p < l.length
      · obtain ⟨b, o, x, rfl, hbB, hx, hc⟩ := hl.spot h3
        have hbg : ¬ b = g := by omega
        clear hx hl
        go_enter Tryd.func65, Tryd.ntmps65
        go_wp2
        go_ret
        obtain ⟨k, hk1, _, hk2⟩ := tmod_nat x.toNat n h1
        refine ⟨k, ?_, fun _ => hk2, fun h => by omega, HST.out 0⟩
        have e : wrap64 (x.toNat : Int) = (x.toNat : Int) := by have := x.toNat_lt; unfold wrap64; omega
        show Ending.returned (.int .i64 ((wrap64 (x.toNat : Int)).tmod n)) = _
        rw [e, hk1]
      · obtain ⟨i1, hi1⟩ : ∃ i : Nat, p % l.length = i := ⟨_, rfl⟩
        obtain ⟨i2, hi2⟩ : ∃ i : Nat, (p * 7 + 3) % l.length = i := ⟨_, rfl⟩
        obtain ⟨q, hq⟩ : ∃ i : Nat, p / l.length = i := ⟨_, rfl⟩
        have hi1l : i1 < l.length := by rw [← hi1]; exact Nat.mod_lt _ (by omega)
        have hi2l : i2 < l.length := by rw [← hi2]; exact Nat.mod_lt _ (by omega)
        have hqp : q ≤ p := by rw [← hq]; exact Nat.div_le_self _ _
        obtain ⟨b, o, x1, rfl, hbB, hx, hc1⟩ := hl.spot hi1l
        obtain ⟨b', o', x2, hA, hbB', hx', hc2⟩ := hl.spot hi2l
        simp only [Option.some.injEq, Addr.mk.injEq, and_true] at hA
        obtain ⟨rfl, rfl⟩ := hA
        have hbg : ¬ b = g := by omega
        have l1 := x1.toNat_lt
        have l2 := x2.toNat_lt
        have tm : ∀ a b : Nat, (a : Int).tmod (b : Int) = ((a % b : Nat) : Int) := fun a b => by rw [Int.tmod_eq_emod_of_nonneg (by omega)]; simp
        have td : ∀ a b : Nat, (a : Int).tdiv (b : Int) = ((a / b : Nat) : Int) := fun a b => by rw [Int.tdiv_eq_ediv_of_nonneg (by omega)]; simp
        have t1 : (p : Int).tmod (l.length : Int) = (i1 : Int) := by rw [tm, hi1]
        have t2 : ((p : Int) * 7 + 3).tmod (l.length : Int) = (i2 : Int) := by rw [show ((p : Int) * 7 + 3) = ((p * 7 + 3 : Nat) : Int) from by omega, tm, hi2]
        have t3 : (p : Int).tdiv (l.length : Int) = (q : Int) := by rw [td, hq]
        have u1 := IntWalk.i64_in (x1.toNat : Int) (by omega)
        have u2 := IntWalk.i64_in (x2.toNat : Int) (by omega)
        have u3 := IntWalk.i64_in ((x1.toNat : Int) * 131) (by omega)
        have u4 := IntWalk.i64_in ((p : Int) * 7) (by omega)
        have u5 := IntWalk.i64_in ((p : Int) * 7 + 3) (by omega)
        have u6 := IntWalk.i64_in ((x2.toNat : Int) * 1117) (by omega)
        have u7 := IntWalk.i64_in ((x1.toNat : Int) * 131 + (x2.toNat : Int) * 1117) (by omega)
        have u8 := IntWalk.i64_in ((p : Int) * 29) (by omega)
        have u9 := IntWalk.i64_in ((x1.toNat : Int) * 131 + (x2.toNat : Int) * 1117 + (p : Int) * 29) (by omega)
        have u10 := IntWalk.i64_in ((q : Int)) (by omega)
        have u11 := IntWalk.i64_in ((q : Int) * 53) (by omega)
        have u12 := IntWalk.i64_in ((x1.toNat : Int) * 131 + (x2.toNat : Int) * 1117 + (p : Int) * 29 + (q : Int) * 53) (by omega)
        have HI1 := Lib.hid hi1
        have HI2 := Lib.hid hi2
        have HQ := Lib.hid hq
        clear hx hx' hl tm td hi1 hi2 hq
        go_enter Tryd.func65, Tryd.ntmps65
        go_wp2
        go_quiet (fail)
        clear u1 u2 u3 u4 u5 u6 u7 u8 u9 u10 u11 u12 t1 t2 t3
        obtain ⟨X, hX⟩ : ∃ X : Nat, (x1.toNat : Int) * 131 + (x2.toNat : Int) * 1117 + (p : Int) * 29 + (q : Int) * 53 = (X : Int) := ⟨x1.toNat * 131 + x2.toNat * 1117 + p * 29 + q * 53, by omega⟩
        have hXb : X ≤ 1000000000000 := by omega
        rw [hX]
        clear hX
        have eX := xor_nat X (X / 64) (by omega) (by omega)
        rw [Int.natCast_ediv] at eX
        have eX' : bits .xor .i64 (X : Int) ((X : Int) / 64) = ((X ^^^ (X / 64) : Nat) : Int) := eX
        clear eX
        obtain ⟨k, _, hk1, hk2⟩ := tmod_nat (X ^^^ (X / 64)) n (by omega)
        generalize X ^^^ (X / 64) = Y at *
        have HK := Lib.hid hk1
        clear hk1
        go_wp2
        go_ret
        exact ⟨k, by rw [← HK.out]; rfl, fun _ => hk2, fun h => by omega, HST.out _⟩
theorem below_of_grown {w w1 w2 : World} {g B : Nat} (hb : Below B w w1) (hg : w1.grownBy w2 (some g)) (hB : B ≤ g) (hz : B ≤ w1.heap.size) : Below B w w2 :=
  hb.grown hg hz (fun k hk => by injection hk with hk; omega)
end Go.Proofs.YtbejafbpipdbjaaDoor
