/-
  The program's macSum is the sum of a masked key and bytes, macKey the key of one block. Condition: the program's two tables are the standard's.
-/
import Derived.Test.YtbejafbpipdbjaaDoorShaB
namespace Go.Proofs.YtbejafbpipdbjaaDoor
set_option maxRecDepth 4000
open Go.RowKit

theorem atB (k : List UInt8) (i : Nat) (x : UInt8) (hi : i < 64) (hx : k[i]? = some x) (w : World) : (Instr.index 131 (.agg (k.map bv).toArray) (.int .i64 (i : Int))).run Tryd.prog w = .ok (.int .u8 (x.toNat : Int)) w := by
  have h1 : (0 : Int) ≤ (i : Int) ∧ (i : Int) < 64 := by omega
  simp [Instr.index, run_underlying Tryd.underlying131, asIntOf, part, hi, hx, bv, go_sem]
theorem xor8 (x m : UInt8) : bits .xor .u8 (x.toNat : Int) (m.toNat : Int) = ((x ^^^ m).toNat : Int) := by
  rw [u8_xor_nat _ _ x.toNat_lt m.toNat_lt, UInt8.toNat_xor]
theorem range_new (w : World) (l : List Value) (t : TypeId) : (w.alloc (.cells l.toArray t)).rangeAt w.heap.size 0 l := fun j v hv => by
  rw [Nat.zero_add, cell_of_row _ _ j _ _ _ (heap_alloc_new w _)]
  simpa using hv
theorem mapTake (k : List UInt8) (f : UInt8 → UInt8) (i : Nat) (x : UInt8) (hx : k[i]? = some x) : (k.take i).map f ++ [f x] = (k.take (i + 1)).map f := by
  rw [List.take_add_one, hx]; simp

set_option maxRecDepth 100000 in
set_option maxHeartbeats 1000000 in
theorem macSum_any (k : List UInt8) (m : UInt8) (A : Option Addr) (c : Nat) (l : List UInt8) (w : World) (hk : k.length = 64) (hl : l.length ≤ 10000) (hT : Tabs w) (h : Has w w.heap.size A l) :
    Calls Tryd.prog 97 #[.agg (k.map bv).toArray, .int .u8 (m.toNat : Int), .slice A l.length c] w fun e w' => ∃ v, e = .returned v ∧ Own w' w.heap.size v (sha (k.map (· ^^^ m) ++ l)) ∧ Below w.heap.size w w' := by
  have h2 := hT.2.2
  have hin : (Tryd.prog.info? 131).map (·.size) = some (k.map bv).length := by rw [List.length_map, hk]; exact info64b
  have hb0 : Below w.heap.size w (w.alloc (.cells (k.map bv).toArray 131)) := (Below.refl _ w).alloc (Nat.le_refl _) _
  have hT0 := hT.below hb0 h2
  have hz0 : (w.alloc (.cells (k.map bv).toArray 131)).heap.size = w.heap.size + 1 := by simp
  have HR0 := Lib.hid (range_new w (k.map bv) 131)
  have HB0 := Lib.hid hb0
  have HT0 := Lib.hid hT0
  have HZ0 := Lib.hid hz0
  clear hb0 hT0 hz0
  go_enter Tryd.func97, Tryd.ntmps97
  go_wp2_with fail
  refine (newShaHash_any _ HT0.out).mono ?_
  rw [HZ0.out]
  rintro e w1 ⟨rfl, hf1, hb1⟩
  have hb1' : Below w.heap.size w w1 := HB0.out.trans (hb1.mono (by omega))
  have hT1 : Tabs w1 := hT.below hb1' h2
  have hr1 : w1.rangeAt w.heap.size 0 (k.map bv) := fun j v hv => (hb1.cell (p := ⟨w.heap.size, 0 + j, none⟩) (Nat.lt_succ_self _)).trans (HR0.out j v hv)
  have HR1 := Lib.hid hr1
  have hh1 : Has w1 (w.heap.size + 1) A l := (h.below hb1').wider (by omega)
  have hg1 := hf1.lt
  clear hr1 HR0 HB0 HT0 HZ0 hb1
  go_wp2_with (refine wpList_load_mid rfl 131 (.tmp 3) rfl w.heap.size 0 rfl (k.map bv) _ HR1.out Tryd.underlying131 rfl hin ?_)
  go_loopw [12] (fun i wr => ∃ j : Nat, j ≤ 64 ∧ i = .int .i64 j ∧ Fed wr (w.heap.size + 1) ((k.take j).map (· ^^^ m)) ∧ w1.grownBy wr (some (w.heap.size + 1))) (fun i _ => 64 - (intOf i).toNat)
  case atStart => exact ⟨0, by omega, rfl, hf1, ⟨rfl, rfl, rfl, Nat.le_refl _, fun _ _ _ => rfl⟩⟩
  case round =>
    clear hf1
    obtain ⟨j, hj, rfl, hf, hgr⟩ := hrel
    have hTr : Tabs wr := hT1.grown hgr (fun q e => by cases e; omega)
    have HF := Lib.hid hf
    have HG := Lib.hid hgr
    have HTr := Lib.hid hTr
    by_cases hlt : j < 64
    · obtain ⟨x, hx⟩ : ∃ x, k[j]? = some x := ⟨_, List.getElem?_eq_getElem (by omega)⟩
      have hix := atB k j x hlt hx
      have hxo := xor8 x m
      have HX := Lib.hid (mapTake k (· ^^^ m) j x hx)
      have HL : Hid (((k.take j).map (· ^^^ m)).length < 4294967295) := Lib.hid (by rw [List.length_map, List.length_take]; omega)
      generalize x ^^^ m = y at *
      clear hf hgr hx hTr hT h hT1
      go_wp2_with fail
      refine (writeOne_any (w.heap.size + 1) _ y _ HL.out (by omega) HTr.out HF.out).mono ?_
      rintro e w2 ⟨rfl, k1, k2⟩
      rw [HX.out] at k1
      have k3 := grown_trans HG.out k2
      clear k2 hix hxo
      go_wp2
      go_roundw
      case rel => exact ⟨j + 1, by omega, by go_num, k1, k3⟩
      case measure => simp [intOf]; omega
    · obtain rfl : j = 64 := by omega
      rw [show ((64 : Nat) : Int) = 64 from rfl]
      rw [List.take_of_length_le (by omega)] at hf
      have hm64 : (k.map (· ^^^ m)).length = 64 := by rw [List.length_map, hk]
      obtain ⟨km, hkm⟩ : ∃ km, k.map (· ^^^ m) = km := ⟨_, rfl⟩
      rw [hkm] at hf hm64
      have HKM := Lib.hid hkm
      clear hkm
      have hhr := hh1.grownAt hgr (by omega)
      have hzr := hgr.size
      clear HF HG HTr hh1 hT h hT1
      go_wp2_with fail
      refine (write_any (w.heap.size + 1) A c km l _ (by omega) (by omega) hTr hf hhr).mono ?_
      rintro e w3 ⟨rfl, hf3, hg3⟩
      have hT3 : Tabs w3 := hTr.grown hg3 (fun q e => by cases e; omega)
      have hg13 := grown_trans hgr hg3
      clear hf hgr hhr hg3 hTr
      go_wp2_with fail
      refine (sum_any (w.heap.size + 1) (km ++ l) w3 (by rw [List.length_append]; omega) (by omega) hT3 hf3).mono ?_
      rintro e w4 ⟨v, rfl, ho4, hg4⟩
      have hz4 := hg13.size
      have hg14 := grown_trans hg13 hg4
      have hb4 : Below w.heap.size w w4 := hb1'.grown hg14 (by omega) (fun q e => by cases e; omega)
      have ho5 : Own w4 w.heap.size v (sha (km ++ l)) := by
        refine ⟨ho4.1, ?_⟩
        rcases ho4.2 with hn | ⟨g, cap, cur, e, hg, rest⟩
        · exact .inl hn
        · exact .inr ⟨g, cap, cur, e, Nat.le_trans (by omega) hg, rest⟩
      clear hf3 hT3 hg13 hg14 hg4 ho4
      go_wp2
      go_ret
      exact ⟨_, rfl, by rw [HKM.out]; exact ho5, hb4⟩
end Go.Proofs.YtbejafbpipdbjaaDoor
