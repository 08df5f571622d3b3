/-
  The program's mixBlock mixes a block into eight words. Conditions: the program's two tables are the standard's; a hash under way.
-/
import Derived.Test.YtbejafbpipdbjaaDoorShaIM
namespace Go.Proofs.YtbejafbpipdbjaaDoor
set_option maxRecDepth 4000
open Go.RowKit

theorem info8w : (Tryd.prog.info? 174).map (·.size) = some 8 := by kernel_rfl
theorem info64b : (Tryd.prog.info? 131).map (·.size) = some 64 := by kernel_rfl
/-- Eight words as an array's cells. -/
def Eight.cells (s : Eight) : List Value := s.list.map (kv .u32)
theorem Eight.agg_eq (s : Eight) : s.agg = .agg s.cells.toArray := rfl
theorem HashAt.range {w : World} {g n : Nat} {s : Eight} {blk : List UInt8} (h : HashAt w g s.list blk n) : w.rangeAt g 0 s.cells := fun j v hv => by
  simp only [Eight.cells, List.getElem?_map, Option.map_eq_some_iff] at hv
  obtain ⟨x, hx, rfl⟩ := hv
  rw [Nat.zero_add]
  exact h.word j x hx
theorem HashAt.range8 {w : World} {g n : Nat} {ws : List Nat} {blk : List UInt8} (h : HashAt w g ws blk n) : w.rangeAt g 8 (blk.map bv) := fun j v hv => by
  simp only [List.getElem?_map, Option.map_eq_some_iff] at hv
  obtain ⟨x, hx, rfl⟩ := hv
  exact h.byte j x hx

section
variable {P : Program}
/-- In a region that draws its order: a whole row is loaded. -/
theorem wpStill_load_mid {ops : Array Oper} {w : World} {Q : Act → Prop} {a : Act} {o : Oper} {rest : List Oper} (hw : Region.wanted o (yielded ops a.tmps) = true) (ty : TypeId) (x : Operand) (ho : o.op = .load ty x)
    (b c : Nat) (hx : a.eval x = .pointer (some ⟨b, c, none⟩)) (cs : List Value) (d : TypeDesc) (hc : w.rangeAt b c cs) (hu : P.underlying ty = some d) (hd : d.isRow = true)
    (hi : (P.info? ty).map (·.size) = some cs.length) (h : wpStill P ops w Q rest (a.put o.dst (.agg cs.toArray))) : wpStill P ops w Q (o :: rest) a := by
  refine wpStill_step fun K hK => ?_
  rw [if_pos hw]
  unfold Oper.still execOp
  simp only [ho, hx, Instr.loadAt, Instr.sureAddr, Sem.run_bind, Sem.run_pure, Result.andThen_ok, run_loadVar_mid w b c ty cs d hc hu hd hi]
  exact ⟨rfl, hK _ h⟩
end
theorem at64 (cs : List Value) (k : Nat) (x : Nat) (hk : k < 64) (hx : cs[k]? = some (.int .u32 (x : Int))) (w : World) : (Instr.index 185 (.agg cs.toArray) (.int .i64 (k : Int))).run Tryd.prog w = .ok (.int .u32 (x : Int)) w := by
  have h1 : (0 : Int) ≤ (k : Int) ∧ (k : Int) < 64 := by omega
  simp [Instr.index, run_underlying Tryd.underlying185, asIntOf, part, hk, hx, go_sem]
theorem at8 (cs : List Value) (k : Nat) (x : Nat) (hk : k < 8) (hx : cs[k]? = some (.int .u32 (x : Int))) (w : World) : (Instr.index 174 (.agg cs.toArray) (.int .i64 (k : Int))).run Tryd.prog w = .ok (.int .u32 (x : Int)) w := by
  have h1 : (0 : Int) ≤ (k : Int) ∧ (k : Int) < 8 := by omega
  simp [Instr.index, run_underlying Tryd.underlying174, asIntOf, part, hk, hx, go_sem]
theorem Eight.step_mod (s : Eight) (x : Nat) : s.step (x % 4294967296) = s.step x := by
  have h : t1Of s (x % 4294967296) = t1Of s x := by unfold t1Of; omega
  simp only [Eight.step, h]
theorem rounds_step (s : Eight) (ws : List Nat) (k x y : Nat) (hx : round64[k]? = some x) (hy : ws[k]? = some y) : rounds s ws (k + 1) = (rounds s ws k).step ((x + y) % 4294967296) := by
  rw [Eight.step_mod, rounds, List.getD, hx, List.getD, hy]
  rfl

/-- What stands in the call's own block behind k rounds. -/
def Mixed (w : World) (s : Eight) (blk : List UInt8) (k : Nat) (wr : World) : Prop :=
  wr.heap[w.heap.size]? = some (.cells (rounds s (sched blk 64) k).cells.toArray 174 (0, 0)) ∧ Below w.heap.size w wr ∧ w.heap.size < wr.heap.size
theorem Mixed.range {w wr : World} {s : Eight} {blk : List UInt8} {k : Nat} (h : Mixed w s blk k wr) : wr.rangeAt w.heap.size 0 (rounds s (sched blk 64) k).cells := fun j v hv => by
  rw [Nat.zero_add, cell_of_row wr _ j _ _ _ h.1]
  simpa using hv
theorem grown_set {a w : World} {g : Nat} (h : a.grownBy w (some g)) (i : Nat) (v : Value) : a.grownBy (w.setCell ⟨g, i, none⟩ v) (some g) :=
  ⟨h.os, h.tape, h.output, by simpa using h.size, fun k hk hne => (Below.heap_setCell w _ v k (fun e => hne (by rw [e]))).trans (h.block k hk hne)⟩
theorem range_held (w : World) (g k c : Nat) (o : Obj) (cs : Array Value) {vs : List Value} (hne : g ≠ k) (hg : g < w.heap.size) (h : w.rangeAt g c vs) : ((w.alloc o).setRow k cs).rangeAt g c vs :=
  fun j v hv => (World.cell?_of_block ((setRow_other _ _ _ _ hne).trans (Below.heap_alloc _ _ _ hg))).trans (h j v hv)
set_option maxRecDepth 100000 in
set_option maxHeartbeats 4000000 in
theorem mixBlock_any (g n : Nat) (s : Eight) (blk : List UInt8) (w : World) (hs : s.Ok) (hT : Tabs w) (h : HashAt w g s.list blk n) :
    Calls Tryd.prog 139 #[.pointer (some ⟨g, 0, none⟩)] w fun e w' => e = .returned (.tuple #[]) ∧ HashAt w' g (mix s blk).list blk n ∧ w.grownBy w' (some g) := by
  have hbl := h.2.2
  have hgw := h.lt
  have hr := h.range
  have hr8 := h.range8
  have hin1 : (Tryd.prog.info? 174).map (·.size) = some s.cells.length := info8w
  have hin2 : (Tryd.prog.info? 131).map (·.size) = some (blk.map bv).length := by rw [List.length_map, hbl]; exact info64b
  have HR := Lib.hid hr
  have HR8 := Lib.hid hr8
  clear hr hr8
  go_enter Tryd.func139, Tryd.ntmps139
  go_wp2_with (first
    | (refine wpList_load_mid rfl 174 (.tmp 9) rfl g 0 rfl s.cells _ HR.out Tryd.underlying174 rfl hin1 ?_)
    | (refine wpList_store_row rfl 174 (.tmp 2) (.tmp 10) rfl w.heap.size s.cells.toArray rfl rfl 174 _ (heap_alloc_new w _) hin1 rfl (all_oneCell_toArray (kvs_one _ _)) ?_)
    | (refine wpList_load_mid rfl 131 (.tmp 13) rfl g 8 rfl (blk.map bv) _ (range_held _ _ _ _ _ _ (Nat.ne_of_lt hgw) hgw HR8.out) Tryd.underlying131 rfl hin2 ?_))
  refine (shaSchedule_any blk _ hbl).mono ?_
  rintro e w1 ⟨rfl, hb1⟩
  have hT1 : ∀ wr : World, Below w.heap.size w wr → Tabs wr := fun wr hb => hT.below hb hT.2.2
  generalize hwp : ((w.alloc (.cells #[.int .u32 0, .int .u32 0, .int .u32 0, .int .u32 0, .int .u32 0, .int .u32 0, .int .u32 0, .int .u32 0] 174)).setRow w.heap.size s.cells.toArray) = wp at hb1
  have M0 : Mixed w s blk 0 w1 := by
    have hb0 : Below w.heap.size w wp := by rw [← hwp]; exact below_setRow ((Below.refl _ w).alloc (Nat.le_refl _) _) (Nat.le_refl _) _
    have hz : wp.heap.size = w.heap.size + 1 := by rw [← hwp]; simp [World.setRow]
    have hh : wp.heap[w.heap.size]? = some (.cells s.cells.toArray 174 (0, 0)) := by rw [← hwp]; exact setRow_heap _ _ _ _ _ _ (heap_alloc_new w _)
    exact ⟨(hb1.block _ (by omega)).trans hh, hb0.trans (hb1.mono (by omega)), by have := hb1.size; omega⟩
  clear hb1 hwp
  go_wp2_with fail
  go_loopw [16] (fun i wr => ∃ k : Nat, k ≤ 64 ∧ i = .int .i64 k ∧ Mixed w s blk k wr) (fun i _ => 64 - (intOf i).toNat)
  case atStart => exact ⟨0, by omega, rfl, M0⟩
  case round =>
    clear M0
    obtain ⟨k, hk, rfl, hm⟩ := hrel
    by_cases hlt : k < 64
    · obtain ⟨x, hx⟩ : ∃ x, round64[k]? = some x := ⟨_, List.getElem?_eq_getElem (by exact hlt)⟩
      obtain ⟨y, hy⟩ : ∃ y, (sched blk 64)[k]? = some y := ⟨_, List.getElem?_eq_getElem (by rw [sched_length]; exact hlt)⟩
      have hix := at64 ((sched blk 64).map (kv .u32)) k y hlt (by rw [List.getElem?_map, hy]; rfl)
      change ∀ w, (Instr.index 185 (.agg (planA (sched blk 64))) (.int .i64 (k : Int))).run Tryd.prog w = _ at hix
      have hcx : wr.drew.cell? ⟨7, k, none⟩ = _ := (hT1 wr hm.2.1).round k x hx
      have pk : 0 ≤ (k : Int) ∧ (k : Int) < 64 := by omega
      obtain ⟨q, hq⟩ : ∃ q, (x + y) % 4294967296 = q := ⟨_, rfl⟩
      have hadd := wrap32u x y
      rw [hq] at hadd
      have HN := Lib.hid (rounds_step s (sched blk 64) k x y hx hy)
      rw [hq] at HN
      have HM := Lib.hid hm
      have HRM : Hid (wr.drew.rangeAt w.heap.size 0 (rounds s (sched blk 64) k).cells) := Lib.hid hm.range
      have HOk := Lib.hid (rounds_ok hs (sched blk 64) k)
      have hinM : (Tryd.prog.info? 174).map (·.size) = some (rounds s (sched blk 64) k).cells.length := info8w
      clear hx hy hm hq hT hT1
      go_wp2_with fail
      refine wp_region_still_tail 6 (by kernel_rfl) (by kernel_rfl) ?_
      simp only [List.take_succ_cons, List.take_zero, List.drop_succ_cons, List.drop_zero]
      change wpStill _ _ wr.drew _ _ _
      refine wpStill_load_mid rfl 174 (.tmp 2) rfl w.heap.size 0 rfl _ _ HRM.out Tryd.underlying174 rfl hinM ?_
      repeat still_step
      refine wpStill_nil ?_
      go_wp2_with fail
      refine (shaRound_any _ q _ HOk.out).mono ?_
      rintro e w2 ⟨rfl, hb2⟩
      have HN1 := HN.out
      clear HN
      obtain ⟨t1, ht1⟩ : ∃ t, rounds s (sched blk 64) (k + 1) = t := ⟨_, rfl⟩
      rw [← HN1, ht1]
      have hh2 : w2.heap[w.heap.size]? = some (.cells (rounds s (sched blk 64) k).cells.toArray 174 (0, 0)) := (hb2.block _ HM.out.2.2).trans HM.out.1
      have hN : Mixed w s blk (k + 1) (w2.setRow w.heap.size t1.cells.toArray) :=
        ⟨by rw [ht1]; exact setRow_heap _ _ _ _ _ _ hh2, below_setRow (HM.out.2.1.drew.trans (hb2.mono (Nat.le_of_lt HM.out.2.2))) (Nat.le_refl _) _, by
          have h1 := HM.out.2.2
          have h2 : wr.heap.size ≤ w2.heap.size := hb2.size
          simp only [World.setRow, Array.size_modify]
          omega⟩
      have HNN := Lib.hid hN
      have HH2 := Lib.hid hh2
      clear hb2 hh2 hN hix hcx hadd pk ht1 HN1 HM HOk HRM hinM
      generalize rounds s (sched blk 64) k = t0 at *
      rw [Eight.agg_eq t1]
      go_wp2_with (refine wpList_store_row rfl 174 (.tmp 2) (.tmp 26) rfl w.heap.size t1.cells.toArray rfl rfl 174 _ HH2.out info8w rfl (all_oneCell_toArray (kvs_one _ _)) ?_)
      go_roundw
      case rel => exact ⟨k + 1, by omega, by go_num, HNN.out⟩
      case measure => simp [intOf]; omega
    · obtain rfl : k = 64 := by omega
      rw [show ((64 : Nat) : Int) = 64 from rfl]
      have HM := Lib.hid hm
      have hHa : HashAt wr g (plusTo s (rounds s (sched blk 64) 64) 0) blk n := h.below hm.2.1 hgw
      have hGr : w.grownBy wr (some g) := ⟨hm.2.1.os, hm.2.1.tape, hm.2.1.output, hm.2.1.size, fun i hi _ => hm.2.1.block i hi⟩
      have HRM : Hid (wr.rangeAt w.heap.size 0 (rounds s (sched blk 64) 64).cells) := Lib.hid hm.range
      have hinM : (Tryd.prog.info? 174).map (·.size) = some (rounds s (sched blk 64) 64).cells.length := info8w
      have HP8 : Hid ((mix s blk).list = plusTo s (rounds s (sched blk 64) 64) 8) := Lib.hid rfl
      generalize rounds s (sched blk 64) 64 = t at *
      clear hm hT hT1 h
      go_wp2_with (refine wpList_load_mid rfl 174 (.tmp 2) rfl w.heap.size 0 rfl _ _ HRM.out Tryd.underlying174 rfl hinM ?_)
      go_loopw [29] (fun i wq => ∃ k : Nat, k ≤ 8 ∧ i = .int .i64 k ∧ HashAt wq g (plusTo s t k) blk n ∧ w.grownBy wq (some g)) (fun i _ => 8 - (intOf i).toNat)
      case atStart => exact ⟨0, by omega, rfl, hHa, hGr⟩
      case round =>
        clear hHa hGr
        obtain ⟨k, hk, rfl, ha, hgr⟩ := hrel
        by_cases hlt : k < 8
        · obtain ⟨x, hx⟩ : ∃ x, (plusTo s t k)[k]? = some x := ⟨_, List.getElem?_eq_getElem (by rw [plusTo_length s t k hk]; exact hlt)⟩
          obtain ⟨y, hy⟩ : ∃ y, t.list[k]? = some y := ⟨_, List.getElem?_eq_getElem (by exact hlt)⟩
          have hix := at8 t.cells k y hlt (by rw [Eight.cells, List.getElem?_map, hy]; rfl)
          have hcx : wr.drew.cell? ⟨g, k, none⟩ = _ := ha.word k x hx
          have hfx : wr.drew.frozen? ⟨g, k, none⟩ = _ := ha.free k
          have pk : 0 ≤ (k : Int) ∧ (k : Int) < 8 := by omega
          obtain ⟨q, hq⟩ : ∃ q, (x + y) % 4294967296 = q := ⟨_, rfl⟩
          have hadd := wrap32u x y
          rw [hq] at hadd
          have hst := plusTo_step s t k x y hlt hx hy
          rw [hq] at hst
          have HA : Hid (HashAt (wr.drew.setCell ⟨g, k, none⟩ (.int .u32 (q : Int))) g (plusTo s t (k + 1)) blk n) := Lib.hid (by
            have := (ha.drewN 1).setWord k q hlt
            rw [hst] at this
            exact this)
          have HG : Hid (w.grownBy (wr.drew.setCell ⟨g, k, none⟩ (.int .u32 (q : Int))) (some g)) := Lib.hid (grown_set (only_drew1 hgr) _ _)
          clear hx hy hq ha hgr hst
          go_wp2_with fail
          refine wp_region_still_tail 11 (by kernel_rfl) (by kernel_rfl) ?_
          simp only [List.take_succ_cons, List.take_zero, List.drop_succ_cons, List.drop_zero]
          change wpStill _ _ wr.drew _ _ _
          repeat still_step
          refine wpStill_nil ?_
          clear hix hadd pk
          go_wp2
          go_roundw
          case rel => exact ⟨k + 1, by omega, by go_num, HA.out, HG.out⟩
          case measure => simp [intOf]; omega
        · obtain rfl : k = 8 := by omega
          rw [show ((8 : Nat) : Int) = 8 from rfl]
          rw [← HP8.out] at ha
          have HA := Lib.hid ha
          have HG := Lib.hid hgr
          clear ha hgr
          go_wp2
          exact bodyPost_end (results_none Tryd.results139 _ _ _) rfl ⟨rfl, HA.out, HG.out⟩
end Go.Proofs.YtbejafbpipdbjaaDoor
