/-
  The program's sum fills up and returns the sum of what was written. Conditions: the program's two tables are the standard's; a hash under way; at most 100000 bytes.
-/
import Derived.Test.YtbejafbpipdbjaaDoorShaIX
namespace Go.Proofs.YtbejafbpipdbjaaDoor
set_option maxRecDepth 4000
open Go.RowKit

theorem Fed.words {w : World} {g : Nat} {l : List UInt8} (h : Fed w g l) : w.rangeAt g 0 (blocks l (l.length / 64)).cells := h.elim fun _ h => h.1.range
theorem laid4 (w : World) (t : TypeId) (l : List UInt8) : Has (w.alloc (.cells (l.map bv).toArray t)) (w.heap.size + 1) (some ⟨w.heap.size, 0, none⟩) l :=
  .inr ⟨_, _, rfl, Nat.lt_succ_self _, fun i x hx => by have := laid_new w l t i x hx; rw [plain_add] at this; exact this⟩
set_option maxRecDepth 100000 in
set_option maxHeartbeats 4000000 in
theorem sum_any (g : Nat) (l : List UInt8) (w : World) (hl : l.length ≤ 100000) (hg : 7 + 1 ≤ g) (hT : Tabs w) (h : Fed w g l) :
    Calls Tryd.prog 120 #[.pointer (some ⟨g, 0, none⟩)] w fun e w' => ∃ v, e = .returned v ∧ Own w' w.heap.size v (sha l) ∧ w.grownBy w' (some g) := by
  obtain ⟨i0, hi, hz0, hz1, hz2⟩ := info_parts info8
  have hzl : zeros l.length < 64 := Nat.mod_lt _ (by decide)
  have hz56 : (l.length + 1 + zeros l.length) % 64 = 56 := by unfold zeros; omega
  have hzn : ∀ z, z < zeros l.length → (l.length + 1 + z) % 64 ≠ 56 := by unfold zeros; intro z hz; omega
  have HZN := Lib.hid hzn
  have HZ56 := Lib.hid hz56
  have hgw := h.lt
  have c0 := h.many
  have HT := Lib.hid hT
  have HTg : Hid (∀ wr, w.grownBy wr (some g) → Tabs wr) := Lib.hid fun wr hgr => hT.grown hgr (fun q e => by cases e; exact hg)
  obtain ⟨L8, hL8⟩ : ∃ L, 8 * l.length = L := ⟨_, rfl⟩
  have hw8 : IntKind.u64.wrap (8 * (l.length : Int)) = (L8 : Int) := by rw [IntKind.wrap_u64]; omega
  clear hzn hz56 hT
  go_enter Tryd.func120, Tryd.ntmps120
  go_wp2_with fail
  refine (writeOne_any g l 128 _ (by omega) hg HT.out h).mono ?_
  rintro e w1 ⟨rfl, hf1, hg1⟩
  have hf1 : Fed w1 g (padTo l 0) := hf1
  clear h c0 hw8
  go_wp2_with fail
  go_loopw [20] (fun _ wr => ∃ z : Nat, z ≤ zeros l.length ∧ Fed wr g (padTo l z) ∧ w.grownBy wr (some g)) (fun _ wr => zeros l.length + l.length + 1 - (match wr.cell? ⟨g, 72, none⟩ with | some (.int _ i) => i.toNat | _ => 0))
  case atStart => exact ⟨0, by omega, hf1, hg1⟩
  case round =>
    clear hf1 hg1
    obtain ⟨z, hz, hf, hgr⟩ := hrel
    have c1 := hf.many
    rw [padTo_length] at c1
    obtain ⟨m, hm⟩ : ∃ m, l.length + 1 + z = m := ⟨_, rfl⟩
    rw [hm] at c1
    obtain ⟨r, hr⟩ : ∃ r, m % 64 = r := ⟨_, rfl⟩
    have e1 : (m : Int).tmod 64 = (r : Int) := by rw [Int.tmod_eq_emod_of_nonneg (by omega)]; omega
    have HF := Lib.hid hf
    have HG := Lib.hid hgr
    by_cases hlt : z < zeros l.length
    · have hr56 : ¬ (r : Int) = 56 := by have := HZN.out z hlt; omega
      have HL : Hid ((padTo l z).length < 4294967295) := Lib.hid (by rw [padTo_length]; omega)
      clear hf hgr
      go_wp2_with fail
      refine (writeOne_any g (padTo l z) 0 _ HL.out hg (HTg.out _ HG.out) HF.out).mono ?_
      rintro e w2 ⟨rfl, k1, k2⟩
      rw [← padTo_succ] at k1
      have k3 := grown_trans HG.out k2
      have c2 := k1.many
      rw [padTo_length] at c2
      clear k2
      have M1 : (match wr.cell? ⟨g, 72, none⟩ with | some (.int _ i) => i.toNat | _ => 0) = m := by rw [c1]; simp
      have M2 : (match w2.cell? ⟨g, 72, none⟩ with | some (.int _ i) => i.toNat | _ => 0) = m + 1 := by rw [c2]; simp; omega
      have HM1 := Lib.hid M1
      have HM2 := Lib.hid M2
      clear c1 c2 M1 M2
      go_wp2
      go_roundw
      case rel => exact ⟨z + 1, by omega, k1, k3⟩
      case measure => rw [HM1.out, HM2.out]; omega
    · obtain rfl : z = zeros l.length := by omega
      have hr56 : (r : Int) = 56 := by have := HZ56.out; omega
      rw [← padLen_none] at hf
      clear HF
      go_wp2_with fail
      clear c1 hm hr e1 hr56 HG HZN HZ56 hlt hz
      go_loopw [4] (fun i wr => ∃ j : Nat, j ≤ 8 ∧ i = .int .i64 (56 - 8 * (j : Int)) ∧ Fed wr g (padLen l j) ∧ w.grownBy wr (some g)) (fun i _ => (intOf i + 8).toNat)
      case atStart => exact ⟨0, by omega, rfl, hf, hgr⟩
      case round =>
        clear hf hgr
        obtain ⟨j, hj, rfl, hf, hgr⟩ := hrel
        have HF := Lib.hid hf
        have HG := Lib.hid hgr
        by_cases hlt : j < 8
        · have HL : Hid ((padLen l j).length < 4294967295) := Lib.hid (by rw [padLen_length l j hj]; omega)
          have HS := Lib.hid (padLen_succ l j hlt)
          have e8 : IntKind.u8.wrap ((L8 : Int) / 2 ^ (8 * (7 - j))) = ((UInt8.ofNat ((8 * l.length) >>> (8 * (7 - j)))).toNat : Int) := by
            rw [IntKind.wrap_u8, Nat.shiftRight_eq_div_pow, hL8, show (L8 : Int) / 2 ^ (8 * (7 - j)) = ((L8 / 2 ^ (8 * (7 - j)) : Nat) : Int) from by simp]
            simp
          generalize UInt8.ofNat ((8 * l.length) >>> (8 * (7 - j))) = x at *
          have hj0 : 0 ≤ 56 - 8 * (j : Int) := by omega
          have hj1 : 8 * (j : Int) ≤ 56 := by omega
          have tn : (56 - 8 * (j : Int)).toNat = 8 * (7 - j) := by omega
          clear hf hgr
          go_wp2_with fail
          refine (writeOne_any g (padLen l j) x _ HL.out hg (HTg.out _ HG.out) HF.out).mono ?_
          rintro e w2 ⟨rfl, k1, k2⟩
          rw [← HS.out] at k1
          have k3 := grown_trans HG.out k2
          clear k2 e8 tn
          go_wp2
          go_roundw
          case rel => exact ⟨j + 1, by omega, by go_num, k1, k3⟩
          case measure => simp [intOf]; omega
        · obtain rfl : j = 8 := by omega
          rw [show (56 - 8 * ((8 : Nat) : Int)) = -8 from rfl]
          rw [padLen_all] at hf
          have hrg := hf.words
          have HSH : Hid (sha l = out32 (blocks (whole l) ((whole l).length / 64))) := Lib.hid rfl
          generalize blocks (whole l) ((whole l).length / 64) = s at *
          have HRG := Lib.hid hrg
          have hsz := hgr.size
          have hin1 : (Tryd.prog.info? 174).map (·.size) = some s.cells.length := info8w
          clear hrg hf HF hL8 HTg HT HG
          obtain ⟨W9, hW9⟩ : ∃ W9, W9 = wr := ⟨_, rfl⟩
          subst hW9
          have hgW : g < W9.heap.size := by omega
          go_wp2_with (first
            | (at_make; refine wpList_make_own _ rfl _ _ 44 rfl W9.heap.size 5 i0 (.int .u8 0) 1 Tryd.underlying44 hi hz0 hz1 _ _ _ 32 rfl rfl (by omega) (by rw [hz2]; omega) (by unfold maxLen; omega) (Nat.le_refl _) ?_; intro w3 hown hgrow)
            | (refine wpList_load_mid rfl 174 (.tmp 36) rfl g 0 rfl s.cells _ (fun j v hv => (World.cell?_of_block (hgrow.block g hgW (by simp))).trans (HRG.out j v hv)) Tryd.underlying174 rfl hin1 ?_))
          have hb3 : Below W9.heap.size W9 w3 := (Below.refl _ W9).grown hgrow (Nat.le_refl _) (fun _ e => by cases e)
          have ho3 : Own w3 W9.heap.size (.slice (some ⟨W9.heap.size, 0, none⟩) 0 32) (outTo s 0) := hown
          clear hown hgrow HRG hin1 hi hz0 hz1 hz2
          go_loopw [5, 38] (fun v i w' => ∃ k : Nat, k ≤ 8 ∧ i = .int .i64 k ∧ Own w' W9.heap.size v (outTo s k) ∧ Below W9.heap.size W9 w') (fun _ i _ => 8 - (intOf i).toNat)
          case atStart => exact ⟨0, by omega, rfl, ho3, hb3⟩
          case round =>
            clear ho3 hb3
            obtain ⟨k, hk, rfl, hown, hbel⟩ := hrel
            have hws := hbel.size
            by_cases hlt6 : k < 8
            · obtain ⟨y, hy⟩ : ∃ y, s.list[k]? = some y := ⟨_, List.getElem?_eq_getElem (by exact hlt6)⟩
              have hix := at8 s.cells k y hlt6 (by rw [Eight.cells, List.getElem?_map, hy]; rfl)
              have HO := Lib.hid (outTo_succ s k y hy)
              have hol := outTo_length s k hk
              obtain ⟨b0, e0, b1, e1, b2, e2, b3, e3, hb4⟩ := out4_bytes y
              rw [hb4] at HO
              clear hy hb4
              go_wp2_with (at_builtin; refine wpList_pushAll rfl (.tmp 41) (.tmp 53) rfl W9.heap.size u5 (outTo s k) rfl (hown.alloc _) (wr.heap.size + 1) (some ⟨wr.heap.size, 0, none⟩) 4 [b0, b1, b2, b3] rfl (laid4 wr 5 [b0, b1, b2, b3]) (by simp; omega) (by simp; omega) ?_; intro v4 w4 ho4 hg4)
              have hb4 : Below W9.heap.size W9 w4 := (hbel.alloc hws _).grown hg4 (by simp; omega) (fun q hq => (World.ownsRow.lt hown q hq).1)
              rw [← HO.out] at ho4
              clear hg4 hown hix e0 e1 e2 e3 hol
              go_wp2
              go_roundw
              case rel => exact ⟨k + 1, by omega, by go_num, ho4, hb4⟩
              case measure => simp [intOf]; omega
            · obtain rfl : k = 8 := by omega
              rw [outTo_all, ← HSH.out] at hown
              have hg10 : w.grownBy wr (some g) := ⟨hbel.os.trans hgr.os, hbel.tape.trans hgr.tape, hbel.output.trans hgr.output, by omega, fun q hq hne => (hbel.block q (by omega)).trans (hgr.block q hq hne)⟩
              have ho10 : Own wr w.heap.size u5 (sha l) := by
                refine ⟨hown.1, ?_⟩
                rcases hown.2 with hn | ⟨g, cap, cur, e, hg, rest⟩
                · exact .inl hn
                · exact .inr ⟨g, cap, cur, e, Nat.le_trans hsz hg, rest⟩
              clear hown hbel
              go_wp2
              go_ret
              exact ⟨_, rfl, ho10, hg10⟩
end Go.Proofs.YtbejafbpipdbjaaDoor
