/-
  The program's writer of bits: putOne writes one bit more, or keeps its first error. Conditions: the errors are not nil; a bit is 0 or 1.
-/
import Derived.Test.YtnnpjcbdcjdojaaBitP
import Derived.Test.YtnnpjcbdcjdojaaBitE
import Derived.Test.YtnnpjcbdcjdojaaPush
import Derived.Test.YtnnpjcbdcjdojaaOwnSet
import Derived.StillTailTactics
namespace Go.Proofs.Ytnnpjcbdcjdojaa
set_option maxRecDepth 4000
open Go.RowKit

/-- Block g is a writer that has written the bytes l, stands at place a and has the error e; its bytes lie behind block g. -/
def WrB (w : World) (g : Nat) (v : Value) (l : List UInt8) (a : Int) (e : Value) : Prop :=
  w.heap[g]? = some (.cells #[v, .int .i64 a, e] 153 (0, 0)) ∧ Own w (g + 1) v l
section
variable {w w' : World} {g : Nat} {v : Value} {l : List UInt8} {a : Int} {e : Value}
theorem WrB.lt (h : WrB w g v l a e) : g < w.heap.size := (Array.getElem?_eq_some_iff.1 h.1).1
theorem WrB.c0 (h : WrB w g v l a e) : w.cell? ⟨g, 0, none⟩ = some v := by rw [cell_of_row w g 0 _ _ _ h.1]; rfl
theorem WrB.c1 (h : WrB w g v l a e) : w.cell? ⟨g, 1, none⟩ = some (.int .i64 a) := by rw [cell_of_row w g 1 _ _ _ h.1]; rfl
theorem WrB.c2 (h : WrB w g v l a e) : w.cell? ⟨g, 2, none⟩ = some e := by rw [cell_of_row w g 2 _ _ _ h.1]; rfl
theorem WrB.free (h : WrB w g v l a e) (i : Nat) : w.frozen? ⟨g, i, none⟩ = false := by simp [World.frozen?, h.1]
theorem WrB.drew (h : WrB w g v l a e) : WrB w.drew g v l a e := h
theorem WrB.set1 (h : WrB w g v l a e) (b : Int) : WrB (w.setCell ⟨g, 1, none⟩ (.int .i64 b)) g v l b e := by
  refine ⟨?_, h.2.keep (grown_cell w g 1 _) ?_⟩
  · have := heap_setCell_same w g 1 _ _ (.int .i64 b) h.1
    simpa using this
  · cases hv : v.ownBlock with
    | none => exact .inl rfl
    | some q => exact .inr fun e => by have := (World.ownsRow.lt h.2 q hv).1; injection e with e; omega
theorem WrB.set2 (h : WrB w g v l a e) (x : Value) : WrB (w.setCell ⟨g, 2, none⟩ x) g v l a x := by
  refine ⟨?_, h.2.keep (grown_cell w g 2 _) ?_⟩
  · have := heap_setCell_same w g 2 _ _ x h.1
    simpa using this
  · cases hv : v.ownBlock with
    | none => exact .inl rfl
    | some q => exact .inr fun e => by have := (World.ownsRow.lt h.2 q hv).1; injection e with e; omega
/-- Another slice in its field. -/
theorem WrB.set0 {v' : Value} {m : List UInt8} (h : w.heap[g]? = some (.cells #[v, .int .i64 a, e] 153 (0, 0))) (ho : Own w (g + 1) v' m) : WrB (w.setCell ⟨g, 0, none⟩ v') g v' m a e := by
  refine ⟨?_, ho.keep (grown_cell w g 0 _) ?_⟩
  · have := heap_setCell_same w g 0 _ _ v' h
    simpa using this
  · cases hv : v'.ownBlock with
    | none => exact .inl rfl
    | some q => exact .inr fun e => by have := (World.ownsRow.lt ho q hv).1; injection e with e; omega
/-- One byte of its bytes stored. -/
theorem WrB.byte {g5 c : Nat} (h : WrB w g (.slice (some ⟨g5, 0, none⟩) l.length c) l a e) (k : Nat) (b : UInt8) : WrB (w.setCell ⟨g5, k, none⟩ (.int .u8 (b.toNat : Int))) g (.slice (some ⟨g5, 0, none⟩) l.length c) (l.set k b) a e := by
  have hl := (World.ownsRow.lt h.2 g5 rfl).1
  refine ⟨?_, (h.2.set k b).1⟩
  rw [Below.heap_setCell w _ _ g (by simp; omega)]
  exact h.1
end
theorem below_cell {B g i : Nat} {w w' : World} {v : Value} (h : Below B w w') (hg : B ≤ g) : Below B w (w'.setCell ⟨g, i, none⟩ v) := h.setCell hg _
theorem below_drew1 {B : Nat} {a w : World} (h : Below B a w) : Below B a w.drew := ⟨h.os, h.tape, h.output, h.size, h.block⟩

/-- What lies neither in block g nor in v's stays, and v' does not lie there. -/
def Leaves (w w' : World) (g : Nat) (v v' : Value) : Prop := ∀ k, k < w.heap.size → k ≠ g → v.ownBlock ≠ some k → w'.heap[k]? = w.heap[k]? ∧ v'.ownBlock ≠ some k
theorem Leaves.refl (w : World) (g : Nat) (v : Value) : Leaves w w g v v := fun _ _ _ h => ⟨rfl, h⟩
theorem Leaves.cell {w w' : World} {g : Nat} {v v' : Value} (h : Leaves w w' g v v') (i : Nat) (x : Value) : Leaves w (w'.setCell ⟨g, i, none⟩ x) g v v' := fun k h1 h2 h3 =>
  ⟨(Below.heap_setCell w' _ _ k (fun e => h2 (by rw [e]))).trans (h k h1 h2 h3).1, (h k h1 h2 h3).2⟩
theorem Leaves.own {w w' : World} {g g5 : Nat} {v v' : Value} (h : Leaves w w' g v v') (hv : v'.ownBlock = some g5) (i : Nat) (x : Value) : Leaves w (w'.setCell ⟨g5, i, none⟩ x) g v v' := fun k h1 h2 h3 =>
  ⟨(Below.heap_setCell w' _ _ k (fun e => (h k h1 h2 h3).2 (by rw [hv, e]))).trans (h k h1 h2 h3).1, (h k h1 h2 h3).2⟩
theorem Leaves.drew {w w' : World} {g : Nat} {v v' : Value} (h : Leaves w w' g v v') : Leaves w w'.drew g v v' := h
theorem Leaves.trans {w w1 w2 : World} {g : Nat} {v v1 v2 : Value} (h : Leaves w w1 g v v1) (h' : Leaves w1 w2 g v1 v2) (hs : w.heap.size ≤ w1.heap.size) : Leaves w w2 g v v2 := fun k h1 h2 h3 =>
  ⟨(h' k (by omega) h2 (h k h1 h2 h3).2).1.trans (h k h1 h2 h3).1, (h' k (by omega) h2 (h k h1 h2 h3).2).2⟩

set_option maxHeartbeats 1000000 in
theorem putOne_full (g : Nat) (v : Value) (l : List UInt8) (z : Int) (w : World) (h : WrB w g v l 3200 .nilIface) (he : ErrV w 4) :
    Calls Try.prog 137 #[.pointer (some ⟨g, 0, none⟩), .int .i64 z] w fun e w' => e = .returned (.tuple #[]) ∧ (∃ x y, WrB w' g v l 3200 (.iface x y)) ∧ Below g w w' ∧ Leaves w w' g v v := by
  obtain ⟨x, y, ce⟩ := he
  have c1 := h.c1
  have c2 := h.c2
  have f2 := h.free 2
  have HR := Lib.hid (h.set2 (.iface x y))
  clear h
  go_enter Try.func137, Try.ntmps137
  go_wp2
  (try simp only [Exit.inBlock, Exit.then])
  exact bodyPost_ret (results_none Try.results137 _ _ _) rfl ⟨rfl, ⟨x, y, HR.out⟩, below_cell (Below.refl _ _) (Nat.le_refl _), (Leaves.refl w g v).cell 2 _⟩

theorem put_or (x bt s : Nat) (hx : x < 2 ^ s) (hb : bt < 2) (hs : s < 8) : bits .or .u8 (x : Int) (wrap64 ((bt : Int) * 2 ^ min s 64) % 256) = ((x + bt * 2 ^ s : Nat) : Int) := by
  have h3 := step_lt hx hb hs
  have h4 := Nat.two_pow_add_eq_or_of_lt hx bt
  rw [Nat.min_eq_left (by omega)]
  have e3 : (bt : Int) * 2 ^ s = ((bt * 2 ^ s : Nat) : Int) := by simp
  rw [e3, Nat.mul_comm bt] at *
  rw [Nat.add_comm x, h4]
  have hx8 := pow8 s hs
  generalize 2 ^ s * bt = y at *
  generalize 2 ^ s = z at *
  rw [w64 y (by omega), show (y : Int) % 256 = (y : Int) from by omega]
  show IntKind.u8.wrap ((BitVec.ofInt 8 (x : Int) ||| BitVec.ofInt 8 (y : Int)).toNat : Int) = _
  rw [BitVec.toNat_or, BitVec.ofInt_natCast, BitVec.ofInt_natCast, BitVec.toNat_ofNat, BitVec.toNat_ofNat, Nat.mod_eq_of_lt (by omega), Nat.mod_eq_of_lt (by omega), IntKind.wrap_u8, Nat.or_comm]
  have : y ||| x < 2 ^ 8 := Nat.or_lt_two_pow (by omega) (by omega)
  omega
set_option maxHeartbeats 2000000 in
theorem putOne_bit (g : Nat) (v : Value) (l : List UInt8) (a bt : Nat) (w : World) (h : WrB w g v l a .nilIface) (ha : a < 3200) (hb : bt < 2) (hgood : Good l a) :
    Calls Try.prog 137 #[.pointer (some ⟨g, 0, none⟩), .int .i64 (bt : Int)] w fun e w' => e = .returned (.tuple #[]) ∧ (∃ v', WrB w' g v' (pushBit l a bt) ((a : Int) + 1) .nilIface ∧ Leaves w w' g v v') ∧ Below g w w' := by
  obtain ⟨A3, c3, hv3, -, -⟩ := h.2.has
  subst hv3
  have ha2 : ¬ ((a : Int) = 3200) := by omega
  have ha3 : ((a : Int) == 3200) = false := beq_eq_false_iff_ne.2 ha2
  have hgw := h.lt
  have c0 := h.c0
  have c1 := h.c1
  have HW := Lib.hid h
  have HG := Lib.hid hgood
  have hll := hgood.1
  clear h hgood
  by_cases h8 : a % 8 = 0
  · have h8' : ((a : Int) % 8 == 0) = true := beq_iff_eq.2 (by omega)
    have hln : (l ++ [0]).length = l.length + 1 := by simp
    have HGR : Hid (l ++ [0] = grow l a) := Lib.hid (by unfold grow; rw [if_pos h8])
    have HL : Hid (l.length ≤ 1000) := Lib.hid (by omega)
    have HLL := Lib.hid hll
    have HGW := Lib.hid hgw
    clear hll hgw
    go_enter Try.func137, Try.ntmps137
    go_wp2_with (at_builtin; refine wpList_push1L rfl (.tmp 23) (.tmp 24) rfl (g + 1) _ l rfl HW.out.2 0 w.heap.size rfl rfl (by have := HL.out; omega) HGW.out ?_; intro g5 c5 w5 ho5 hg5 hor5; have hh5 := (hg5.block g (by have := HGW.out; simp; omega) (fun e => by have := (World.ownsRow.lt HW.out.2 g e.symm).1; omega)).trans ((Below.heap_alloc w _ g HGW.out).trans HW.out.1); have f5 : w5.frozen? ⟨g, 0, none⟩ = false := (by simp [World.frozen?, hh5]); have k5 : w5.cell? ⟨g, 0, none⟩ = some (.slice A3 l.length c3) := (by rw [cell_of_row w5 g 0 _ _ _ hh5]; rfl); have hB5 : Below g w w5 := (((Below.refl g w).alloc (Nat.le_of_lt HGW.out) _).grown hg5 (by have := HGW.out; simp; omega) (fun q hq => by have := (World.ownsRow.lt HW.out.2 q hq).1; omega)); have HL5 : Hid (∀ n c, Leaves w w5 g (.slice A3 l.length c3) (.slice (some ⟨g5, 0, none⟩) n c)) := Lib.hid (fun n c k h1 h2 h3 => ⟨(hg5.block k (by simp; omega) (fun e => h3 e.symm)).trans (Below.heap_alloc w _ k h1), fun e => by simp only [Value.ownBlock, Option.some.injEq] at e; rcases hor5 with h | h; exact h3 (h.trans (by rw [e])); omega⟩); clear hg5 hor5)
    rw [← hln, HGR.out] at ho5 ⊢
    obtain ⟨n5, hn5⟩ : ∃ n5, (grow l a).length = n5 := ⟨_, rfl⟩
    rw [hn5] at ho5 ⊢
    have h6 := WrB.set0 hh5 ho5
    have hB6 := below_cell (i := 0) (v := .slice (some ⟨g5, 0, none⟩) n5 c5) hB5 (Nat.le_refl g)
    have HL6 := Lib.hid ((HL5.out n5 c5).cell 0 (.slice (some ⟨g5, 0, none⟩) n5 c5))
    clear HL5
    clear hh5 ho5 hB5 f5 k5 HGR HL HLL HGW c0 c1 hln
    generalize w5.setCell ⟨g, 0, none⟩ (.slice (some ⟨g5, 0, none⟩) n5 c5) = w6 at *
    have hgl := grow_length HG.out
    rw [hn5] at hgl
    obtain ⟨ix, hix⟩ : ∃ ix, a / 8 = ix := ⟨_, rfl⟩
    obtain ⟨s, hs8⟩ : ∃ s, a % 8 = s := ⟨_, rfl⟩
    obtain ⟨x, hx, hx2⟩ := grow_at HG.out
    have hlt3 := step_lt hx2 hb (Nat.mod_lt a (by omega))
    have hpb := pushBit_of (bit := bt) hx
    have hw6 : WrB w6.drew g (.slice (some ⟨g5, 0, none⟩) (grow l a).length c5) (grow l a) a .nilIface := by rw [hn5]; exact h6.drew
    have hst := hw6.byte (a / 8) (UInt8.ofNat (x.toNat + bt * 2 ^ (a % 8)))
    have hne : ¬ g5 = g := by have := (World.ownsRow.lt h6.2 g5 rfl).1; omega
    have hgg : g ≤ g5 := by have := (World.ownsRow.lt h6.2 g5 rfl).1; omega
    have hpv := put_or x.toNat bt (a % 8) hx2 hb (Nat.mod_lt a (by omega))
    rw [byte_nat hlt3.1, ← hpv, ← hpb, hn5, hix, hs8] at hst
    have HST := Lib.hid (hst.set1 ((a : Int) + 1))
    have HLS := Lib.hid (((HL6.out.drew).own rfl ix (.int .u8 (bits .or .u8 (x.toNat : Int) (wrap64 ((bt : Int) * 2 ^ min s 64) % 256)))).cell 1 (.int .i64 ((a : Int) + 1)))
    clear HL6
    have HBS := Lib.hid (below_cell (i := 1) (v := .int .i64 ((a : Int) + 1)) (below_cell (i := ix) (v := .int .u8 (bits .or .u8 (x.toNat : Int) (wrap64 ((bt : Int) * 2 ^ min s 64) % 256))) (below_drew1 hB6) hgg) (Nat.le_refl g))
    rw [hix] at hx
    have cg : w6.drew.cell? ⟨g5, ix, none⟩ = some (.int .u8 (x.toNat : Int)) := by
      rw [World.ownsRow.cellAt hw6.2 ix (by rw [hn5]; omega)]
      simp [hx, bv]
    have fg : w6.drew.frozen? ⟨g5, ix, none⟩ = false := World.ownsRow.frozenAt hw6.2 ix
    have k0 := h6.drew.c0
    have k1 := h6.drew.c1
    have f1 := h6.drew.free 1
    have t1 : (a : Int) / 8 = (ix : Int) := by omega
    have t2 : (a : Int).tmod 8 = (s : Int) := by rw [← hs8]; exact tmod_cast2 a 8
    have px : 0 ≤ (ix : Int) ∧ (ix : Int) < (n5 : Int) := by omega
    have u1 := IntWalk.i64_in (ix : Int) (by omega)
    have ha4 : (a : Int) < 3200 := by omega
    clear hst hpb hx hgl hlt3 hx2 hw6 h6 hB6 h8 h8' hix hs8 hpv hgg ha hb hn5 HG HW
    refine wp_region_still_tail 20 (by kernel_rfl) (by kernel_rfl) ?_
    simp only [List.take_succ_cons, List.take_zero, List.drop_succ_cons, List.drop_zero]
    change wpStill _ _ w6.drew _ _ _
    repeat still_step
    refine wpStill_nil ?_
    change wpList _ _ _ _ _ w6.drew
    generalize w6.drew = w7 at *
    go_wp2_with fail
    exact bodyPost_end (results_none Try.results137 _ _ _) rfl ⟨rfl, ⟨_, HST.out, HLS.out⟩, HBS.out⟩
  · have h8' : ((a : Int) % 8 == 0) = false := beq_eq_false_iff_ne.2 (by omega)
    have hgr : grow l a = l := by unfold grow; rw [if_neg h8]
    have h6 := HW.out
    obtain ⟨g5, rfl, -, -⟩ := h6.2.nonnil (by omega)
    rw [← hgr] at h6
    obtain ⟨n5, hn5⟩ : ∃ n5, (grow l a).length = n5 := ⟨_, rfl⟩
    rw [hn5] at h6
    have hB6 := Below.refl g w
    have hln : l.length = n5 := by rw [← hn5, hgr]
    have HL6 : Hid (Leaves w w g (.slice (some ⟨g5, 0, none⟩) l.length c3) (.slice (some ⟨g5, 0, none⟩) n5 c3)) := Lib.hid (by rw [hln]; exact Leaves.refl _ _ _)
    clear hln
    rw [← hgr, hn5] at c0
    clear hll hgw hgr
    go_enter Try.func137, Try.ntmps137
    go_wp2_with fail
    clear c0 c1
    have hgl := grow_length HG.out
    rw [hn5] at hgl
    obtain ⟨ix, hix⟩ : ∃ ix, a / 8 = ix := ⟨_, rfl⟩
    obtain ⟨s, hs8⟩ : ∃ s, a % 8 = s := ⟨_, rfl⟩
    obtain ⟨x, hx, hx2⟩ := grow_at HG.out
    have hlt3 := step_lt hx2 hb (Nat.mod_lt a (by omega))
    have hpb := pushBit_of (bit := bt) hx
    have hw6 : WrB w.drew g (.slice (some ⟨g5, 0, none⟩) (grow l a).length c3) (grow l a) a .nilIface := by rw [hn5]; exact h6.drew
    have hst := hw6.byte (a / 8) (UInt8.ofNat (x.toNat + bt * 2 ^ (a % 8)))
    have hne : ¬ g5 = g := by have := (World.ownsRow.lt h6.2 g5 rfl).1; omega
    have hgg : g ≤ g5 := by have := (World.ownsRow.lt h6.2 g5 rfl).1; omega
    have hpv := put_or x.toNat bt (a % 8) hx2 hb (Nat.mod_lt a (by omega))
    rw [byte_nat hlt3.1, ← hpv, ← hpb, hn5, hix, hs8] at hst
    have HST := Lib.hid (hst.set1 ((a : Int) + 1))
    have HLS := Lib.hid (((HL6.out.drew).own rfl ix (.int .u8 (bits .or .u8 (x.toNat : Int) (wrap64 ((bt : Int) * 2 ^ min s 64) % 256)))).cell 1 (.int .i64 ((a : Int) + 1)))
    clear HL6
    have HBS := Lib.hid (below_cell (i := 1) (v := .int .i64 ((a : Int) + 1)) (below_cell (i := ix) (v := .int .u8 (bits .or .u8 (x.toNat : Int) (wrap64 ((bt : Int) * 2 ^ min s 64) % 256))) (below_drew1 hB6) hgg) (Nat.le_refl g))
    rw [hix] at hx
    have cg : w.drew.cell? ⟨g5, ix, none⟩ = some (.int .u8 (x.toNat : Int)) := by
      rw [World.ownsRow.cellAt hw6.2 ix (by rw [hn5]; omega)]
      simp [hx, bv]
    have fg : w.drew.frozen? ⟨g5, ix, none⟩ = false := World.ownsRow.frozenAt hw6.2 ix
    have k0 := h6.drew.c0
    have k1 := h6.drew.c1
    have f1 := h6.drew.free 1
    have t1 : (a : Int) / 8 = (ix : Int) := by omega
    have t2 : (a : Int).tmod 8 = (s : Int) := by rw [← hs8]; exact tmod_cast2 a 8
    have px : 0 ≤ (ix : Int) ∧ (ix : Int) < (n5 : Int) := by omega
    have u1 := IntWalk.i64_in (ix : Int) (by omega)
    have ha4 : (a : Int) < 3200 := by omega
    clear hst hpb hx hgl hlt3 hx2 hw6 h6 hB6 h8 h8' hix hs8 hpv hgg ha hb hn5 HG HW
    refine wp_region_still_tail 20 (by kernel_rfl) (by kernel_rfl) ?_
    simp only [List.take_succ_cons, List.take_zero, List.drop_succ_cons, List.drop_zero]
    change wpStill _ _ w.drew _ _ _
    repeat still_step
    refine wpStill_nil ?_
    change wpList _ _ _ _ _ w.drew
    generalize w.drew = w7 at *
    go_wp2_with fail
    exact bodyPost_end (results_none Try.results137 _ _ _) rfl ⟨rfl, ⟨_, HST.out, HLS.out⟩, HBS.out⟩
end Go.Proofs.Ytnnpjcbdcjdojaa
