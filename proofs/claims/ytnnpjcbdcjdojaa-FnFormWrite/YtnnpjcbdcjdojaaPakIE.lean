/-
  The program's dictionary of a packer, made and entered into. Condition: the block holds such a dictionary, and what is entered was not met.
-/
import Derived.Test.YtnnpjcbdcjdojaaPakIT
import Derived.Test.YtnnpjcbdcjdojaaBitPI
import Derived.StillTailTactics
import Derived.BigRegion
import Derived.WalkSpells
import Derived.Deep.CutRange
namespace Go.Proofs.Ytnnpjcbdcjdojaa
set_option maxRecDepth 4000
open Go.RowKit Go.Maps

/-- The cells of a new dictionary. -/
def trie0 : Array Value := (List.replicate 512 (Value.map none) ++ [Value.int .i64 257]).toArray
theorem trie0_built : Try.zeroCells152.setIfInBounds 512 (.int .i64 257) = trie0 := by kernel_rfl
theorem trie0_at (c : Nat) (h : c < 512) : trie0[c]? = some (.map none) := by
  unfold trie0
  rw [List.getElem?_toArray, List.getElem?_append_left (by rw [List.length_replicate]; exact h), List.getElem?_replicate, if_pos h]
theorem trie0_next : trie0[512]? = some (.int .i64 257) := by
  unfold trie0
  rw [List.getElem?_toArray, List.getElem?_append_right (by rw [List.length_replicate]; exact Nat.le_refl _), List.length_replicate]
  rfl
theorem trie0_size : trie0.size = 513 := by
  unfold trie0
  rw [List.size_toArray, List.length_append, List.length_replicate]
  rfl
theorem trie_new (w : World) : TrieB (w.alloc (.cells trie0 152)) w.heap.size w.heap.size [] := by
  refine ⟨Nat.le_refl _, trie0, heap_alloc_new w _, trie0_size, trie0_next, fun c hc => .inl ⟨trie0_at c hc, fun b => child4_none c b⟩, fun c c' k h h' => ?_⟩
  exfalso
  have hc : c < 513 := by have := (Array.getElem?_eq_some_iff.1 h).1; rw [trie0_size] at this; exact this
  by_cases h5 : c < 512
  · rw [trie0_at c h5] at h
    cases h
  · have : c = 512 := by omega
    subst this
    rw [trie0_next] at h
    cases h
set_option maxRecDepth 100000 in
set_option maxHeartbeats 1000000 in
theorem newPakTrie_any (w : World) : Calls Try.prog 127 #[] w fun e w' => e = .returned (.pointer (some ⟨w.heap.size, 0, none⟩)) ∧ TrieB w' w.heap.size w.heap.size [] ∧ Below w.heap.size w w' := by
  have HT := Lib.hid (trie_new w)
  have HB := Lib.hid ((Below.refl _ w).alloc (Nat.le_refl _) (.cells trie0 152))
  have HQ := Lib.hid trie0_built
  generalize trie0 = t0 at *
  go_enter Try.func127, Try.ntmps127
  go_wp2_with fail
  go_ret
  rw [HQ.out]
  exact ⟨rfl, HT.out, HB.out⟩

/-- What was there before, dictionaries and maps aside, stays. -/
def Stays (w w' : World) : Prop := ∀ (b : Nat) cs t fr, w.heap[b]? = some (.cells cs t fr) → t ≠ 152 → w'.heap[b]? = w.heap[b]?
theorem map_ne_trie {w : World} {g k : Nat} {cs : Array Value} {t : TypeId} {fr : Nat × Nat} {es : Array MapEntry} {cl : Nat} (h1 : w.heap[g]? = some (.cells cs t fr)) (h2 : w.heap[k]? = some (.map es cl)) : g ≠ k := fun e => by
  subst e
  rw [h1] at h2
  cases h2
/-- The dictionary with its map at a code made, if there was none. -/
theorem TrieB.made {w : World} {base g c : Nat} {met : List (List UInt8)} (h : TrieB w base g met) (hc : c < 512) (h0 : w.cell? ⟨g, c, none⟩ = some (.map none)) : TrieB ((w.alloc (.map #[] 0)).setCell ⟨g, c, none⟩ (.map (some w.heap.size))) base g met ∧ ((w.alloc (.map #[] 0)).setCell ⟨g, c, none⟩ (.map (some w.heap.size))).cell? ⟨g, c, none⟩ = some (.map (some w.heap.size)) := by
  have hlt := h.lt
  obtain ⟨hb, cs, k1, k2, k3, k4, k5⟩ := h
  have a1 : (w.alloc (.map #[] 0)).heap[g]? = some (.cells cs 152 (0, 0)) := (Below.heap_alloc w _ g hlt).trans k1
  have a2 := heap_setCell_same _ g c _ _ (.map (some w.heap.size)) a1
  rw [cell_of_row w _ c _ _ _ k1] at h0
  have hcs : c < cs.size := by omega
  refine ⟨⟨hb, _, a2, by rw [Array.size_setIfInBounds]; exact k2, ?_, fun c' hc' => ?_, fun c1 c2 k e1 e2 => ?_⟩, ?_⟩
  · rw [Array.getElem?_setIfInBounds_ne (by omega)]; exact k3
  · by_cases hcc : c = c'
    · subst hcc
      rcases k4 c hc with ⟨e, hn⟩ | ⟨k, e, -, -⟩
      · refine .inr ⟨w.heap.size, Array.getElem?_setIfInBounds_self_of_lt hcs, by omega, ?_⟩
        exact ((mapIs_new w _ hn).mono (Nat.zero_le _)).kept (heap_setCell_other _ _ _ _ (by simp; omega))
      · rw [h0] at e; cases e
    · rw [Array.getElem?_setIfInBounds_ne hcc]
      rcases k4 c' hc' with h | ⟨k, e, hk, hm⟩
      · exact .inl h
      · refine .inr ⟨k, e, hk, hm.kept ?_⟩
        obtain ⟨es, cl, hkm⟩ := hm.lt
        have hne := map_ne_trie k1 hkm
        rw [heap_setCell_other _ _ _ _ (by simp; omega)]
        exact Below.heap_alloc w _ k (Array.getElem?_eq_some_iff.1 hkm).1
  · have hnew : ∀ c' : Nat, cs[c']? ≠ some (Value.map (some w.heap.size)) := by
      intro c' e
      by_cases h5 : c' < 512
      · rcases k4 c' h5 with ⟨e', -⟩ | ⟨k', e', -, hm⟩
        · rw [e] at e'; cases e'
        · rw [e] at e'
          injection e' with e'
          injection e' with e'
          injection e' with e'
          obtain ⟨es, cl, hkm⟩ := hm.lt
          have := (Array.getElem?_eq_some_iff.1 hkm).1
          omega
      · by_cases h6 : c' = 512
        · subst h6; rw [k3] at e; cases e
        · have := (Array.getElem?_eq_some_iff.1 e).1
          omega
    by_cases q1 : c = c1
    · by_cases q2 : c = c2
      · omega
      · subst q1
        rw [Array.getElem?_setIfInBounds_self_of_lt hcs] at e1
        injection e1 with e1
        injection e1 with e1
        injection e1 with e1
        rw [Array.getElem?_setIfInBounds_ne q2, ← e1] at e2
        exact absurd e2 (hnew c2)
    · rw [Array.getElem?_setIfInBounds_ne q1] at e1
      by_cases q2 : c = c2
      · subst q2
        rw [Array.getElem?_setIfInBounds_self_of_lt hcs] at e2
        injection e2 with e2
        injection e2 with e2
        injection e2 with e2
        rw [← e2] at e1
        exact absurd e1 (hnew c1)
      · rw [Array.getElem?_setIfInBounds_ne q2] at e2
        exact k5 c1 c2 k e1 e2
  · rw [cell_of_row _ _ c _ _ _ a2]
    exact Array.getElem?_setIfInBounds_self_of_lt hcs
/-- One entry more. -/
theorem TrieB.put {w : World} {base g c k : Nat} {met : List (List UInt8)} {s : List UInt8} {x : UInt8} (h : TrieB w base g met) (hd : Dict met) (hcd : code4 met s = some c) (hs : s ≠ []) (hn : s ++ [x] ∉ met) (hc : c < 512) (hk : w.cell? ⟨g, c, none⟩ = some (.map (some k))) :
    base ≤ k ∧ g ≠ k ∧ ∃ D : DataW Unit, w.ownsMap Try.prog 5 (plainElem Try.prog 3) k met.length D ∧ ∀ w', w'.ownsMap Try.prog 5 (plainElem Try.prog 3) k (met.length + 1) (D.put (key8 x) (.lit (.int .i64 (257 + (met.length : Int))))) → w.grownBy w' (some k) →
      TrieB (w'.setCell ⟨g, 512, none⟩ (.int .i64 (257 + (met.length : Int) + 1))) base g (met ++ [s ++ [x]]) := by
  obtain ⟨hb, cs, k1, k2, k3, k4, k5⟩ := h
  rw [cell_of_row w _ c _ _ _ k1] at hk
  have hold := child4_old hd hcd hs hn
  have hnew := child4_new hcd hn
  rcases k4 c hc with ⟨e, -⟩ | ⟨k', e, hbk, hm⟩
  · rw [hk] at e; cases e
  · rw [hk] at e
    injection e with e
    injection e with e
    injection e with e
    subst e
    obtain ⟨esk, clk, hkm⟩ := hm.lt
    have hgk := map_ne_trie k1 hkm
    obtain ⟨D, ho, hD⟩ := hm
    refine ⟨hbk, hgk, D, ho, fun w' ho' hg => ?_⟩
    have hgl := (Array.getElem?_eq_some_iff.1 k1).1
    have a1 : w'.heap[g]? = some (.cells cs 152 (0, 0)) := (hg.block g hgl (fun e => hgk (Option.some.inj e))).trans k1
    have a2 := heap_setCell_same _ g 512 _ _ (.int .i64 (257 + (met.length : Int) + 1)) a1
    have hll : (met ++ [s ++ [x]]).length = met.length + 1 := by simp
    refine ⟨hb, _, a2, by rw [Array.size_setIfInBounds]; exact k2, ?_, fun c' hc' => ?_, fun c1 c2 kk e1 e2 => ?_⟩
    · rw [Array.getElem?_setIfInBounds_self_of_lt (by omega), hll]
      simp
      omega
    · rw [Array.getElem?_setIfInBounds_ne (by omega), hll]
      by_cases hcc : c' = c
      · subst hcc
        refine .inr ⟨k, hk, hbk, ?_⟩
        refine MapIs.kept (w := w') ?_ (heap_setCell_other _ _ _ _ (by simp; omega))
        refine MapIs.put ho.isMap hD x (257 + met.length) (by rw [show ((257 + met.length : Nat) : Int) = 257 + (met.length : Int) from by omega]; exact ho') hnew fun b hbx => hold c' b (fun q => hbx q.2)
      · have hsame : ∀ b, child4 (met ++ [s ++ [x]]) c' b = child4 met c' b := fun b => hold c' b (fun q => hcc q.1)
        rcases k4 c' hc' with ⟨e, h⟩ | ⟨k', e, hbk', hm'⟩
        · exact .inl ⟨e, fun b => by rw [hsame b]; exact h b⟩
        · refine .inr ⟨k', e, hbk', ?_⟩
          have hkk : k' ≠ k := fun q => hcc (k5 c' c k (by rw [← q]; exact e) hk)
          obtain ⟨es, cl, hkm'⟩ := hm'.lt
          have hgk' := map_ne_trie k1 hkm'
          refine ((hm'.mono (Nat.le_succ _)).same hsame).kept ?_
          rw [heap_setCell_other _ _ _ _ (by simp; omega)]
          exact hg.block k' (Array.getElem?_eq_some_iff.1 hkm').1 (fun q => hkk (Option.some.inj q))
    · have n1 : c1 ≠ 512 := fun q => by subst q; rw [Array.getElem?_setIfInBounds_self_of_lt (by omega)] at e1; cases e1
      have n2 : c2 ≠ 512 := fun q => by subst q; rw [Array.getElem?_setIfInBounds_self_of_lt (by omega)] at e2; cases e2
      rw [Array.getElem?_setIfInBounds_ne (by omega)] at e1 e2
      exact k5 c1 c2 kk e1 e2
theorem TrieB.next {w : World} {base g : Nat} {met : List (List UInt8)} (h : TrieB w base g met) : w.cell? ⟨g, 512, none⟩ = some (.int .i64 (257 + (met.length : Int))) := by
  obtain ⟨-, cs, k1, -, k3, -⟩ := h
  rw [cell_of_row w _ 512 _ _ _ k1]
  exact k3
theorem TrieB.free {w : World} {base g : Nat} {met : List (List UInt8)} (h : TrieB w base g met) (i : Nat) : w.frozen? ⟨g, i, none⟩ = false := by
  obtain ⟨-, cs, k1, -⟩ := h
  simp [World.frozen?, k1]
/-- What enter leaves. -/
def EnterOut (base g : Nat) (met : List (List UInt8)) (w : World) (e : Ending) (w' : World) : Prop := e = .returned (.tuple #[]) ∧ TrieB w' base g met ∧ Stays w w' ∧ Below base w w'
set_option maxRecDepth 100000 in
set_option maxHeartbeats 2000000 in
theorem enter_any (base g c : Nat) (met : List (List UInt8)) (s : List UInt8) (x : UInt8) (w : World) (hT : TrieB w base g met) (hd : Dict met) (hcd : code4 met s = some c) (hs : s ≠ []) (hn : s ++ [x] ∉ met) (hm : met.length < 255) (hbw : base ≤ w.heap.size) :
    Calls Try.prog 129 #[.pointer (some ⟨g, 0, none⟩), .int .i64 (c : Int), .int .u8 (x.toNat : Int)] w (EnterOut base g (met ++ [s ++ [x]]) w) := by
  have hc5 : c < 512 := by have := (code4_str hcd).2.2; omega
  have hcI : (c : Int) < 512 := by omega
  have hmI : 257 + (met.length : Int) < 512 := by omega
  have hmm : met.length < maxLen := by unfold maxLen; omega
  have HMM := Lib.hid hmm
  have HDI := Lib.hid hd
  have HCD := Lib.hid hcd
  have HS := Lib.hid hs
  have HN := Lib.hid hn
  have HC5 := Lib.hid hc5
  have hnx := hT.next
  clear hd hcd hs hn hc5 hm hmm
  have hq := fun (w : World) (r : Option Nat) => run_eql_map_nil w 149 _ _ r Try.underlying149
  have hmk := @run_makeMap Try.prog
  rcases hT.at c HC5.out with ⟨hk0, -⟩ | ⟨k, hk0, -⟩
  · obtain ⟨hT1, hk1⟩ := hT.made HC5.out hk0
    have hfr := (hT.below ((Below.refl _ w).alloc (Nat.le_refl _) (.map #[] 0)) (Nat.le_refl _)).free c
    have hne : ¬ w.heap.size = g := by have := hT.lt; omega
    have hka : (w.alloc (.map #[] 0)).cell? ⟨g, c, none⟩ = some (.map none) := (World.cell?_of_block (a := ⟨g, c, none⟩) (Below.heap_alloc w _ g hT.lt)).trans hk0
    have hw1 : Below base w ((w.alloc (.map #[] 0)).setCell ⟨g, c, none⟩ (.map (some w.heap.size))) := ((Below.refl _ w).alloc hbw _).setCell hT.1 _
    have hs1 : Stays w ((w.alloc (.map #[] 0)).setCell ⟨g, c, none⟩ (.map (some w.heap.size))) := by
      intro b cs t fr hb ht
      rw [heap_setCell_other _ _ _ _ (fun e => by
        simp at e
        subst e
        obtain ⟨-, cs0, k1, -⟩ := hT
        rw [hb] at k1
        injection k1 with k1
        injection k1 with _ e2 _
        exact ht e2)]
      exact Below.heap_alloc w _ b (Array.getElem?_eq_some_iff.1 hb).1
    have HW1 := Lib.hid hw1
    have HS1 := Lib.hid hs1
    have HT1 := Lib.hid hT1
    have HK1 := Lib.hid hk1
    clear hw1 hs1 hT1 hT hk1
    go_enter Try.func129, Try.ntmps129
    go_upto_region 3 with fail
    generalize (w.alloc (.map #[] 0)).setCell ⟨g, c, none⟩ (.map (some w.heap.size)) = w1 at *
    have hT1 := HT1.out
    have hk1 := HK1.out
    obtain ⟨hbk, hgk, D, hD, hput⟩ := hT1.put HDI.out HCD.out HS.out HN.out HC5.out hk1
    have HO : Hid (w1.drew.ownsMap Try.prog 5 (plainElem Try.prog 3) w.heap.size met.length D) := Lib.hid hD
    have HP := Lib.hid hput
    have HBK := Lib.hid hbk
    have hnx' : w1.drew.cell? ⟨g, 512, none⟩ = some (.int .i64 (257 + (met.length : Int))) := hT1.next
    have hkc' : w1.drew.cell? ⟨g, c, none⟩ = some (.map (some w.heap.size)) := hk1
    have HT := Lib.hid hT1
    clear hbk hD hput hT1 hk1 HT1 HK1 hnx hk0 hfr hne hka hq hmk
    refine wp_region_still_tail 11 (by kernel_rfl) (by kernel_rfl) ?_
    simp only [List.take_succ_cons, List.take_zero, List.drop_succ_cons, List.drop_zero]
    change wpStill _ _ w1.drew _ _ _
    repeat still_step
    refine wpStill_nil ?_
    change wpList _ _ _ _ _ w1.drew
    have hwf : (Lit.int .i64 (257 + (met.length : Int))).wf = true := WalkArith.wf_i64 (by omega)
    have HWF := Lib.hid hwf
    have HGK := Lib.hid hgk
    clear hgk hwf hkc' hnx'
    go_upto_region 4 with (at_mapUpdate; refine wpList_mapUpdate_own _ rfl _ _ _ 149 rfl 5 3 law8 Try.underlying149 _ w.heap.size met.length D rfl HO.out HMM.out _ _ _ rfl rfl (key8_of x) _ [] (plainElem_int Try.underlying3 HWF.out) ?_; intro w5 ho5 hg5)
    have hg6 : w1.grownBy w5 (some w.heap.size) := ⟨hg5.os, hg5.tape, hg5.output, hg5.size, hg5.block⟩
    have hgb : w5.heap[g]? = w1.heap[g]? := hg6.block g HT.out.lt (fun e => HGK.out (Option.some.inj e))
    have hnx5 : w5.cell? ⟨g, 512, none⟩ = some (.int .i64 (257 + (met.length : Int))) := (World.cell?_of_block (a := ⟨g, 512, none⟩) hgb).trans HT.out.next
    have hfr5 : w5.frozen? ⟨g, 512, none⟩ = false := (World.frozen?_of_block (a := ⟨g, 512, none⟩) hgb).trans (HT.out.free 512)
    have HPO := Lib.hid (HP.out w5 ho5 hg6)
    have HB6 := Lib.hid (below_cell (i := 512) (v := .int .i64 (257 + (met.length : Int) + 1)) (HW1.out.grown hg6 (Nat.le_trans hbw HW1.out.size) (fun q hq => by injection hq with hq; have := HBK.out; omega)) HT.out.1)
    have HST : Hid (Stays w (w5.setCell ⟨g, 512, none⟩ (.int .i64 (257 + (met.length : Int) + 1)))) := Lib.hid (by
      intro b cs t fr hb ht
      have e1 := HS1.out b cs t fr hb ht
      have hb1 : w1.heap[b]? = some (.cells cs t fr) := e1.trans hb
      have hgl := HT.out
      rw [heap_setCell_other _ _ _ _ (fun e => by
        simp at e
        subst e
        obtain ⟨-, cs0, k1, -⟩ := hgl
        rw [hb1] at k1
        injection k1 with k1
        injection k1 with _ e2 _
        exact ht e2)]
      rw [hg6.block b (Array.getElem?_eq_some_iff.1 hb1).1 (fun e => by
        obtain ⟨es, cl, hm, -⟩ := HO.out
        exact map_ne_trie (w := w1) hb1 hm (Option.some.inj e)), e1])
    clear ho5 hg5 hg6 hgb HP HO HT HW1 HS1
    go_wp2
    exact bodyPost_end (results_none Try.results129 _ _ _) rfl ⟨rfl, HPO.out, HST.out, HB6.out⟩
  · have HW1 := Lib.hid (Below.refl base w)
    have HS1 : Hid (Stays w w) := Lib.hid (fun b cs t fr hb ht => rfl)
    go_enter Try.func129, Try.ntmps129
    go_upto_region 3 with fail
    obtain ⟨hbk, hgk, D, hD, hput⟩ := hT.put HDI.out HCD.out HS.out HN.out HC5.out hk0
    have HO : Hid (w.drew.ownsMap Try.prog 5 (plainElem Try.prog 3) k met.length D) := Lib.hid hD
    have HP := Lib.hid hput
    have HBK := Lib.hid hbk
    have hnx' : w.drew.cell? ⟨g, 512, none⟩ = some (.int .i64 (257 + (met.length : Int))) := hT.next
    have hkc' : w.drew.cell? ⟨g, c, none⟩ = some (.map (some k)) := hk0
    have HT := Lib.hid hT
    clear hbk hD hput hT hk0 hnx hq hmk
    refine wp_region_still_tail 11 (by kernel_rfl) (by kernel_rfl) ?_
    simp only [List.take_succ_cons, List.take_zero, List.drop_succ_cons, List.drop_zero]
    change wpStill _ _ w.drew _ _ _
    repeat still_step
    refine wpStill_nil ?_
    change wpList _ _ _ _ _ w.drew
    have hwf : (Lit.int .i64 (257 + (met.length : Int))).wf = true := WalkArith.wf_i64 (by omega)
    have HWF := Lib.hid hwf
    have HGK := Lib.hid hgk
    clear hgk hwf hkc' hnx'
    go_upto_region 4 with (at_mapUpdate; refine wpList_mapUpdate_own _ rfl _ _ _ 149 rfl 5 3 law8 Try.underlying149 _ k met.length D rfl HO.out HMM.out _ _ _ rfl rfl (key8_of x) _ [] (plainElem_int Try.underlying3 HWF.out) ?_; intro w5 ho5 hg5)
    have hg6 : w.grownBy w5 (some k) := ⟨hg5.os, hg5.tape, hg5.output, hg5.size, hg5.block⟩
    have hgb : w5.heap[g]? = w.heap[g]? := hg6.block g HT.out.lt (fun e => HGK.out (Option.some.inj e))
    have hnx5 : w5.cell? ⟨g, 512, none⟩ = some (.int .i64 (257 + (met.length : Int))) := (World.cell?_of_block (a := ⟨g, 512, none⟩) hgb).trans HT.out.next
    have hfr5 : w5.frozen? ⟨g, 512, none⟩ = false := (World.frozen?_of_block (a := ⟨g, 512, none⟩) hgb).trans (HT.out.free 512)
    have HPO := Lib.hid (HP.out w5 ho5 hg6)
    have HB6 := Lib.hid (below_cell (i := 512) (v := .int .i64 (257 + (met.length : Int) + 1)) (HW1.out.grown hg6 (Nat.le_trans hbw HW1.out.size) (fun q hq => by injection hq with hq; have := HBK.out; omega)) HT.out.1)
    have HST : Hid (Stays w (w5.setCell ⟨g, 512, none⟩ (.int .i64 (257 + (met.length : Int) + 1)))) := Lib.hid (by
      intro b cs t fr hb ht
      have e1 := HS1.out b cs t fr hb ht
      have hb1 : w.heap[b]? = some (.cells cs t fr) := e1.trans hb
      have hgl := HT.out
      rw [heap_setCell_other _ _ _ _ (fun e => by
        simp at e
        subst e
        obtain ⟨-, cs0, k1, -⟩ := hgl
        rw [hb1] at k1
        injection k1 with k1
        injection k1 with _ e2 _
        exact ht e2)]
      rw [hg6.block b (Array.getElem?_eq_some_iff.1 hb1).1 (fun e => by
        obtain ⟨es, cl, hm, -⟩ := HO.out
        exact map_ne_trie (w := w) hb1 hm (Option.some.inj e)), e1])
    clear ho5 hg5 hg6 hgb HP HO HT HW1 HS1
    go_wp2
    exact bodyPost_end (results_none Try.results129 _ _ _) rfl ⟨rfl, HPO.out, HST.out, HB6.out⟩
end Go.Proofs.Ytnnpjcbdcjdojaa
