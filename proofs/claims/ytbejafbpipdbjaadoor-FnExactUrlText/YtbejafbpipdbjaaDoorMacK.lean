/-
  The program's macKey is the key of one block. Condition: the program's two tables are the standard's.
-/
import Derived.Test.YtbejafbpipdbjaaDoorMacS
namespace Go.Proofs.YtbejafbpipdbjaaDoor
set_option maxRecDepth 4000
open Go.RowKit

theorem two_new (w : World) (o1 o2 : Obj) : ((w.alloc o1).alloc o2).heap[w.heap.size]? = some o1 ∧ ((w.alloc o1).alloc o2).heap[w.heap.size + 1]? = some o2 := by
  have e1 : (w.alloc o1).heap.size = w.heap.size + 1 := by simp
  refine ⟨?_, ?_⟩
  · rw [Below.heap_alloc _ _ _ (by omega)]
    exact heap_alloc_new w o1
  · rw [← e1]
    exact heap_alloc_new _ o2
/-- A block of noughts. -/
def noughts : List Value := List.replicate 64 (.int .u8 0)
theorem Has.src {w : World} {B : Nat} {A : Option Addr} {l : List UInt8} (h : Has w B A l) (hp : 0 < (l.map bv).length) : ∃ ad, A = some ad ∧ ∀ j v, (l.map bv)[j]? = some v → w.cell? (ad.add j) = some v := by
  rcases h with rfl | ⟨b, o, rfl, _, hc⟩
  · simp at hp
  · refine ⟨_, rfl, fun j v hv => ?_⟩
    rw [List.getElem?_map, Option.map_eq_some_iff] at hv
    obtain ⟨x, hx, rfl⟩ := hv
    rw [plain_add]
    exact hc j x hx
theorem noughts_splice (j : List UInt8) : splice noughts 0 (j.map bv) = (j ++ List.replicate (64 - j.length) 0).map bv := by
  have h : noughts.drop j.length = List.replicate (64 - j.length) (.int .u8 0) := List.drop_replicate
  unfold splice
  rw [List.length_map, Nat.zero_add, h, List.take_zero, List.nil_append, List.map_append, List.map_replicate]
  rfl
theorem noughts_length : noughts.length = 64 := rfl

set_option maxRecDepth 100000 in
set_option maxHeartbeats 2000000 in
/-- The way behind the choice: the block is filled and handed back. -/
theorem macKey_any (A : Option Addr) (c : Nat) (l : List UInt8) (w : World) (hl : l.length ≤ 500) (hT : Tabs w) (h : Has w w.heap.size A l) :
    Calls Tryd.prog 96 #[.slice A l.length c] w fun e w' => e = .returned (.agg ((key64 l).map bv).toArray) ∧ Below w.heap.size w w' := by
  have hin : (Tryd.prog.info? 131).map (·.size) = some ((key64 l).map bv).length := by rw [List.length_map, key64_length]; exact info64b
  have hin' : (Tryd.prog.info? 131).map (·.size) = some ((key64 l).map bv).toArray.size := by rw [List.size_toArray]; exact hin
  have hsz : (Tryd.prog.info? 5).map (·.size) = some 1 := by kernel_rfl
  obtain ⟨a1, a2⟩ := two_new w (.cells noughts.toArray 131) (.cells noughts.toArray 131)
  have HB : Hid (Below w.heap.size w ((w.alloc (.cells noughts.toArray 131)).alloc (.cells noughts.toArray 131))) := Lib.hid (((Below.refl _ w).alloc (Nat.le_refl _) _).alloc (by simp) _)
  have HZ : Hid (((w.alloc (.cells noughts.toArray 131)).alloc (.cells noughts.toArray 131)).heap.size = w.heap.size + 2) := Lib.hid (by simp)
  have A1 := Lib.hid a1
  have A2 := Lib.hid a2
  clear a1 a2
  by_cases hlt : 64 < l.length
  · have HK : Hid (key64 l = sha l ++ List.replicate (64 - (sha l).length) 0) := Lib.hid (by unfold key64; simp [hlt])
    have HS : Hid (shaOut l = sha l) := Lib.hid (by unfold shaOut; rw [if_neg (by omega)])
    have hsl := sha_length l
    generalize key64 l = kk at *
    go_enter Tryd.func96, Tryd.ntmps96
    go_wp2_with fail
    refine (implShaSum_any A c l ((w.alloc (.cells noughts.toArray 131)).alloc (.cells noughts.toArray 131)) (by omega) (hT.below HB.out hT.2.2) (h.carry HB.out (Nat.le_refl _) HB.out.size)).mono ?_
    rw [HS.out, HZ.out]
    rintro e w1 ⟨v, rfl, ho, hb⟩
    obtain ⟨A1', c1, rfl, -, h1⟩ := ho.has
    rw [hsl]
    have hp1 := (hb.block w.heap.size (by omega)).trans A1.out
    have hp2 := (hb.block (w.heap.size + 1) (by omega)).trans A2.out
    have HBB : Hid (Below w.heap.size w w1) := Lib.hid (HB.out.trans (hb.mono (by omega)))
    have HP1 := Lib.hid hp1
    have HP2 := Lib.hid hp2
    have HSRC := Lib.hid h1.src
    clear hp1 hp2 hb ho A1 A2 HB HZ hT h h1
    generalize sha l = sl at *
    have hmin : (sl.map bv).length = Nat.min 32 64 := by rw [List.length_map, hsl]; rfl
    have hfit : 0 + (sl.map bv).length ≤ noughts.length := by rw [List.length_map, hsl]; decide
    have hold : noughts.toArray.size = (kk.map bv).toArray.size := by rw [List.size_toArray, List.size_toArray, noughts_length, List.length_map, HK.out, List.length_append, List.length_replicate]; omega
    have HMIN := Lib.hid hmin
    have HFIT := Lib.hid hfit
    have HOLD := Lib.hid hold
    clear hmin hfit hold
    go_wp2_with (first
      | ((refine wpList_copy_splice rfl (.tmp 9) (.tmp 10) 44 44 rfl 5 Tryd.underlying44 hsz (some ⟨w.heap.size + 1, 0, none⟩) A1' 64 64 32 c1 rfl rfl (w.heap.size + 1) 0 noughts 131 HP2.out (sl.map bv) HMIN.out (fun hp => ⟨rfl, HSRC.out hp⟩) HFIT.out (bvs_one _) (w.heap.size + 1) _ (Below.refl _ _) (Nat.le_refl _) ?_; intro w3 HG3 hb3; rw [noughts_splice, ← HK.out] at HG3))
      | (refine wpList_load_mid rfl 131 (.tmp 3) rfl (w.heap.size + 1) 0 rfl (kk.map bv) _ (fun j v hv => by rw [Nat.zero_add, cell_of_row _ _ j _ _ _ HG3.out]; simpa using hv) Tryd.underlying131 rfl hin ?_)
      | (refine wpList_store_row rfl 131 (.tmp 2) (.tmp 12) rfl w.heap.size (kk.map bv).toArray rfl rfl 131 noughts.toArray ((hb3.block w.heap.size (by omega)).trans HP1.out) hin' HOLD.out (all_oneCell_toArray (bvs_one _)) ?_))
    exact bodyPost_ret (results_cell_row rfl _ _ w.heap.size 131 (kk.map bv).toArray (0, 0) _ rfl (setRow_heap _ _ _ _ _ _ ((hb3.block w.heap.size (by omega)).trans HP1.out)) Tryd.underlying131 rfl hin') rfl ⟨rfl, below_setRow (HBB.out.trans (hb3.mono (by omega))) (Nat.le_refl _) _⟩
  · have HK : Hid (key64 l = l ++ List.replicate (64 - l.length) 0) := Lib.hid (by unfold key64; simp [hlt])
    have hmin : (l.map bv).length = Nat.min l.length 64 := by rw [List.length_map]; exact (Nat.min_eq_left (by omega)).symm
    have hfit : 0 + (l.map bv).length ≤ noughts.length := by rw [List.length_map, noughts_length]; omega
    have hold : noughts.toArray.size = ((key64 l).map bv).toArray.size := by rw [List.size_toArray, List.size_toArray, noughts_length, List.length_map, key64_length]
    have HMIN := Lib.hid hmin
    have HFIT := Lib.hid hfit
    have HOLD := Lib.hid hold
    have HSRC := Lib.hid (h.carry HB.out (Nat.le_refl _) HB.out.size).src
    clear hmin hfit hold hT h HZ
    generalize key64 l = kk at *
    obtain ⟨w1, hw1⟩ : ∃ w1, (w.alloc (.cells noughts.toArray 131)).alloc (.cells noughts.toArray 131) = w1 := ⟨_, rfl⟩
    rw [hw1] at A1 A2 HB HSRC
    go_enter Tryd.func96, Tryd.ntmps96
    go_wp2_with (first
      | ((refine wpList_copy_splice (w := (w.alloc (.cells noughts.toArray 131)).alloc (.cells noughts.toArray 131)) rfl (.tmp 9) (.tmp 10) 44 44 rfl 5 Tryd.underlying44 hsz (some ⟨w.heap.size + 1, 0, none⟩) A 64 64 l.length c rfl rfl (w.heap.size + 1) 0 noughts 131 (by rw [hw1]; exact A2.out) (l.map bv) HMIN.out (fun hp => ⟨rfl, by rw [hw1]; exact HSRC.out hp⟩) HFIT.out (bvs_one _) (w.heap.size + 1) w1 (by rw [hw1]; exact Below.refl _ _) (Nat.le_refl _) ?_; intro w3 HG3 hb3; rw [noughts_splice, ← HK.out] at HG3))
      | (refine wpList_load_mid rfl 131 (.tmp 3) rfl (w.heap.size + 1) 0 rfl (kk.map bv) _ (fun j v hv => by rw [Nat.zero_add, cell_of_row _ _ j _ _ _ HG3.out]; simpa using hv) Tryd.underlying131 rfl hin ?_)
      | (refine wpList_store_row rfl 131 (.tmp 2) (.tmp 12) rfl w.heap.size (kk.map bv).toArray rfl rfl 131 noughts.toArray ((hb3.block w.heap.size (by omega)).trans A1.out) hin' HOLD.out (all_oneCell_toArray (bvs_one _)) ?_))
    exact bodyPost_ret (results_cell_row rfl _ _ w.heap.size 131 (kk.map bv).toArray (0, 0) _ rfl (setRow_heap _ _ _ _ _ _ ((hb3.block w.heap.size (by omega)).trans A1.out)) Tryd.underlying131 rfl hin') rfl ⟨rfl, below_setRow (HB.out.trans (hb3.mono (by omega))) (Nat.le_refl _) _⟩
end Go.Proofs.YtbejafbpipdbjaaDoor
