/-
  The program's writeOne takes one byte more. Conditions: the program's two tables are the standard's; a hash under way; fewer than 2^32 bytes.
-/
import Derived.Test.YtbejafbpipdbjaaDoorShaIB
namespace Go.Proofs.YtbejafbpipdbjaaDoor
set_option maxRecDepth 4000
open Go.RowKit

/-- Block g is a hash that the bytes l were written to. -/
def Fed (w : World) (g : Nat) (l : List UInt8) : Prop :=
  ∃ blk, HashAt w g (blocks l (l.length / 64)).list blk l.length ∧ blk.take (l.length % 64) = l.drop (64 * (l.length / 64))
theorem Fed.lt {w : World} {g : Nat} {l : List UInt8} (h : Fed w g l) : g < w.heap.size := h.elim fun _ h => h.1.lt
theorem Fed.below {w w' : World} {g B : Nat} {l : List UInt8} (h : Fed w g l) (hb : Below B w w') (hB : g < B) : Fed w' g l := h.elim fun blk h => ⟨blk, h.1.below hb hB, h.2⟩
/-- A byte that leaves the block open. -/
theorem Fed.open {w : World} {g : Nat} {l blk : List UInt8} {b : UInt8} (hn : l.length % 64 ≠ 63) (hb : blk.take (l.length % 64) = l.drop (64 * (l.length / 64)))
    (h : HashAt w g (blocks l (l.length / 64)).list (blk.set (l.length % 64) b) (l.length + 1)) : Fed w g (l ++ [b]) := by
  have e1 : (l ++ [b]).length = l.length + 1 := by simp
  have e2 : (l.length + 1) / 64 = l.length / 64 := by omega
  have e3 : (l.length + 1) % 64 = l.length % 64 + 1 := by omega
  have hbl : (blk.set (l.length % 64) b).length = 64 := h.2.2
  rw [List.length_set] at hbl
  refine ⟨blk.set (l.length % 64) b, ?_, ?_⟩
  · rw [e1, e2, blocks_append l [b] _ (by omega)]
    exact h
  · rw [e1, e2, e3, List.drop_append_of_le_length (by omega), ← hb, List.take_succ_eq_append_getElem (by rw [List.length_set]; omega), List.take_set_of_le (Nat.le_refl _)]
    simp
/-- A byte that fills the block. -/
theorem Fed.full {w : World} {g : Nat} {l blk : List UInt8} {b : UInt8} (hn : l.length % 64 = 63) (hb : blk.take (l.length % 64) = l.drop (64 * (l.length / 64)))
    (h : HashAt w g (mix (blocks l (l.length / 64)) (blk.set (l.length % 64) b)).list (blk.set (l.length % 64) b) (l.length + 1)) : Fed w g (l ++ [b]) := by
  have e1 : (l ++ [b]).length = l.length + 1 := by simp
  have e2 : (l.length + 1) / 64 = l.length / 64 + 1 := by omega
  have e3 : (l.length + 1) % 64 = 0 := by omega
  have hbl : (blk.set (l.length % 64) b).length = 64 := h.2.2
  rw [List.length_set] at hbl
  have e4 : blk.set (l.length % 64) b = l.drop (64 * (l.length / 64)) ++ [b] := by
    rw [← hb]
    have h1 : (blk.set (l.length % 64) b).take 64 = blk.set (l.length % 64) b := List.take_of_length_le (by rw [List.length_set]; omega)
    rw [← h1, hn, show (64 : Nat) = 63 + 1 from rfl, List.take_succ_eq_append_getElem (by rw [List.length_set]; omega), List.take_set_of_le (Nat.le_refl _)]
    simp
  refine ⟨blk.set (l.length % 64) b, ?_, ?_⟩
  · rw [e1, e2, blocks, blocks_append l [b] _ (by omega), List.drop_append_of_le_length (by omega), ← e4, List.take_of_length_le (by rw [List.length_set]; omega)]
    exact h
  · rw [e1, e2, e3, List.take_zero, List.drop_eq_nil_of_le (by rw [e1]; omega)]

set_option maxRecDepth 100000 in
set_option maxHeartbeats 4000000 in
theorem writeOne_any (g : Nat) (l : List UInt8) (b : UInt8) (w : World) (hl : l.length < 4294967295) (hg : 7 + 1 ≤ g) (hT : Tabs w) (h : Fed w g l) :
    Calls Tryd.prog 118 #[.pointer (some ⟨g, 0, none⟩), .int .u8 (b.toNat : Int)] w fun e w' => e = .returned (.tuple #[]) ∧ Fed w' g (l ++ [b]) ∧ w.grownBy w' (some g) := by
  obtain ⟨blk, ha, hb⟩ := h
  obtain ⟨N, hN⟩ : ∃ N, l.length = N := ⟨_, rfl⟩
  obtain ⟨r, hr⟩ : ∃ r, N % 64 = r := ⟨_, rfl⟩
  obtain ⟨M, hM⟩ : ∃ M, N + 1 = M := ⟨_, rfl⟩
  obtain ⟨q, hq⟩ : ∃ q, M % 64 = q := ⟨_, rfl⟩
  have hr64 : r < 64 := by omega
  have pr : 0 ≤ (r : Int) ∧ (r : Int) < 64 := by omega
  have e1 : (N : Int).tmod 64 = (r : Int) := by rw [Int.tmod_eq_emod_of_nonneg (by omega)]; omega
  have e2 : (M : Int).tmod 64 = (q : Int) := by rw [Int.tmod_eq_emod_of_nonneg (by omega)]; omega
  have e3 : IntKind.u64.wrap ((N : Int) + 1) = (M : Int) := by rw [IntKind.wrap_u64]; omega
  have HO := Lib.hid fun w' => @Fed.open w' g l blk b
  have HF := Lib.hid fun w' => @Fed.full w' g l blk b
  rw [hN] at ha hb HO HF
  rw [hr] at hb HO HF
  rw [hM] at HO HF
  have HB := Lib.hid hb
  obtain ⟨s, hs⟩ : ∃ s, blocks l (N / 64) = s := ⟨_, rfl⟩
  have hsOk : s.Ok := by rw [← hs]; exact blocks_ok _ _
  rw [hs] at ha HO HF
  clear hb
  obtain ⟨p, hp⟩ : ∃ p, blk[r]? = some p := ⟨_, List.getElem?_eq_getElem (by have := ha.2.2; omega)⟩
  have ha1 : HashAt w.drew g s.list blk N := ha
  have c1 := ha1.many
  have c2 := ha1.byte r p hp
  have f2 := ha1.free (8 + r)
  have ha2 := ha1.setByte r b hr64
  have ha3 := ha2.setMany M
  have HA3 := Lib.hid ha3
  have c0 := ha.many
  have f0 := ha.free 72
  have HG : Hid (w.grownBy ((w.drew.setCell ⟨g, 8 + r, none⟩ (.int .u8 (b.toNat : Int))).setCell ⟨g, 72, none⟩ (.int .u64 (M : Int))) (some g)) := Lib.hid (grown_set (grown_set (only_drew1 (only_below (Below.refl _ w)) |> fun h => ⟨h.os, h.tape, h.output, h.size, fun k hk _ => h.block k hk (by simp)⟩) _ _) _ _)
  have HT := Lib.hid hT
  have HGe : Hid (∀ k, some g = some k → 7 + 1 ≤ k) := Lib.hid fun k e => by cases e; exact hg
  have HOk := Lib.hid hsOk
  have HE : Hid (q = 0 ↔ r = 63) := Lib.hid (by omega)
  clear ha ha1 ha2 ha3 hp hN hr hM hq hs hT hsOk hl
  go_enter Tryd.func118, Tryd.ntmps118
  go_wp2_with fail
  refine wp_region_still_tail 10 (by kernel_rfl) (by kernel_rfl) ?_
  simp only [List.take_succ_cons, List.take_zero, List.drop_succ_cons, List.drop_zero]
  change wpStill _ _ w.drew _ _ _
  repeat still_step
  refine wpStill_nil ?_
  clear e1 pr c1
  by_cases hq0 : (q : Int) = 0
  · go_wp2_with fail
    refine (mixBlock_any g M s (blk.set r b) _ HOk.out (HT.out.grown HG.out HGe.out) HA3.out).mono ?_
    rintro e w2 ⟨rfl, k1, k2⟩
    have HK : Hid (Fed w2 g (l ++ [b]) ∧ w.grownBy w2 (some g)) := Lib.hid ⟨HF.out w2 (HE.out.1 (by omega)) HB.out k1, grown_trans HG.out k2⟩
    clear k1 k2
    go_wp2
    exact bodyPost_end (results_none Tryd.results118 _ _ _) rfl ⟨rfl, HK.out.1, HK.out.2⟩
  · go_wp2_with fail
    exact bodyPost_end (results_none Tryd.results118 _ _ _) rfl ⟨rfl, HO.out _ (fun e => hq0 (by have := HE.out.2 e; omega)) HB.out HA3.out, HG.out⟩
end Go.Proofs.YtbejafbpipdbjaaDoor
