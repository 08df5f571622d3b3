/-
  The reference reads an operation. Condition: the text has at most 2^20 bytes.
-/
import Derived.Test.YtbejafbpipdbjaaDoorUrlX
import Derived.Test.YtbejafbpipdbjaaDoorRes
namespace Go.Proofs.YtbejafbpipdbjaaDoor
set_option maxRecDepth 4000
open Go.RowKit

/-- The numbers read so far. -/
def fk (P : List (List UInt8)) (k i : Nat) : Int := if i < k then numAt P i else 0
def allV (P : List (List UInt8)) (k : Nat) : Array Value := #[.int .i64 (fk P k 1), .int .i64 (fk P k 2), .int .i64 (fk P k 3), .int .i64 (fk P k 4)]
theorem allV_set (P : List (List UInt8)) (k : Nat) (h1 : 1 ≤ k) (h4 : k < 5) : (allV P k).setIfInBounds (k - 1) (.int .i64 (numAt P k)) = allV P (k + 1) := by
  have : k = 1 ∨ k = 2 ∨ k = 3 ∨ k = 4 := by omega
  rcases this with rfl | rfl | rfl | rfl <;> simp [allV, fk]
theorem drew_below' {B : Nat} {a w : World} (h : Below B a w) : Below B a w.drew := ⟨h.os, h.tape, h.output, h.size, h.block⟩
def cand (P : List (List UInt8)) (i : Nat) : Op := ⟨i, numAt P 1, numAt P 2, numAt P 3, numAt P 4⟩
theorem fk_end {P : List (List UInt8)} {k i : Nat} (h : P.length ≤ k ∨ 5 ≤ k) (hi : i ≤ 4) : fk P k i = numAt P i := by
  unfold fk
  split
  · rfl
  · unfold numAt
    rw [List.getElem?_eq_none (by omega)]
theorem cutL_mem {c : UInt8} {l x : List UInt8} (h : x ∈ cutL c l) : x.length ≤ l.length := by
  induction l generalizing x with
  | nil =>
    simp [cutL] at h
    simp [h]
  | cons a l ih =>
    rw [cutL] at h
    split at h
    · rcases List.mem_cons.mp h with rfl | h
      · simp
      · have := ih h
        simp
        omega
    · rcases List.mem_cons.mp h with rfl | h
      · have := ih (x := (cutL c l).headD []) (by rw [cutL_cons]; simp)
        simp only [List.length_cons]
        omega
      · have := ih (List.mem_of_mem_tail h)
        simp
        omega
theorem grown_cellU (w : World) (g i : Nat) (v : Value) : w.grownBy (w.setCell ⟨g, i, none⟩ v) (some g) := ⟨rfl, rfl, rfl, by simp, fun k _ hne => Below.heap_setCell w _ _ k (fun e => hne (by rw [e]))⟩
theorem below_of_grown_at' {w w' : World} {g B : Nat} (h : w.grownBy w' (some g)) (hB : B ≤ g) (hs : B ≤ w.heap.size) : Below B w w' := (Below.refl _ w).grown h hs fun q hq => by injection hq with hq; omega
theorem fin_uy {W : World} {R : Nat} {v0 v1 v2 v3 v4 : Value} (h : Box W R #[v0, v1, v2, v3, v4] 25) (a b c d e : Value) :
    Box (((((W.setCell ⟨R, 0, none⟩ a).setCell ⟨R, 1, none⟩ b).setCell ⟨R, 2, none⟩ c).setCell ⟨R, 3, none⟩ d).setCell ⟨R, 4, none⟩ e) R #[a, b, c, d, e] 25 := ((((h.set 0 a).set 1 b).set 2 c).set 3 d).set 4 e
theorem grown_uy (W : World) (R : Nat) (a b c d e : Value) : W.grownBy (((((W.setCell ⟨R, 0, none⟩ a).setCell ⟨R, 1, none⟩ b).setCell ⟨R, 2, none⟩ c).setCell ⟨R, 3, none⟩ d).setCell ⟨R, 4, none⟩ e) (some R) :=
  grown_trans (grown_trans (grown_trans (grown_trans (grown_cellU _ _ _ _) (grown_cellU _ _ _ _)) (grown_cellU _ _ _ _)) (grown_cellU _ _ _ _)) (grown_cellU _ _ _ _)
theorem cand_ok {l : List UInt8} {o : Op} (h : opTx o = l) (hl : l ≠ []) : opB o = true ∧ opT o = l := by
  unfold opTx at h
  split at h
  · exact ⟨by assumption, h⟩
  · exact absurd h.symm hl
theorem cand_all {l : List UInt8} {P : List (List UInt8)} {o : Op} (hP : cutL 46 l = P) (ho : opB o = true) (he : opT o = l) (hall : ∀ i, 1 ≤ i → i < 9 → ¬ (opTx (cand P i) = l ∧ l ≠ [])) : False := by
  obtain ⟨m', h9, h1, hk, ha, hb, hc, hd⟩ := opT_cut ho
  obtain ⟨m, rfl⟩ := Int.eq_ofNat_of_zero_le (show 0 ≤ m' by omega)
  rw [he, hP] at ha hb hc hd
  have e : cand P m = o := by
    obtain ⟨k, a, b, c, d⟩ := o
    unfold cand
    simp only at hk ha hb hc hd
    rw [hk, ha, hb, hc, hd]
  refine hall m (by omega) (by omega) ⟨?_, ?_⟩
  · rw [e]
    unfold opTx
    rw [if_pos ho, he]
  · obtain ⟨c, t, hh, _⟩ := opT_head ho
    rw [← he, hh]
    simp
set_option maxHeartbeats 2000000 in
/-- OpRead of the reference. -/
theorem specOpRead_any (l : List UInt8) (w : World) (hl : l.length ≤ 1048576) :
    Calls Tryd.prog 14 #[.string (bs l)] w fun e w' =>
      ((∃ o, opB o = true ∧ opT o = l ∧ e = .returned (.tuple #[o.v, .bool true])) ∨ ((∀ o, opB o = true → opT o ≠ l) ∧ e = .returned (.tuple #[.agg #[.int .i64 0, .int .i64 0, .int .i64 0, .int .i64 0, .int .i64 0], .bool false]))) ∧ Below w.heap.size w w' := by
  have b0 := (Below.refl _ w).alloc (Nat.le_refl _) (.cells #[.int .i64 0, .int .i64 0, .int .i64 0, .int .i64 0, .int .i64 0] 25)
  have HB0 := Lib.hid b0
  have HR0 : Hid (Box (w.alloc (.cells #[.int .i64 0, .int .i64 0, .int .i64 0, .int .i64 0, .int .i64 0] 25)) w.heap.size #[.int .i64 0, .int .i64 0, .int .i64 0, .int .i64 0, .int .i64 0] 25) := Lib.hid (Box.new w _ _)
  have CC := Lib.hid fun u => l7Cut_any l 46 u hl
  obtain ⟨P, hP⟩ : ∃ P, cutL 46 l = P := ⟨_, rfl⟩
  have HP := Lib.hid hP
  rw [hP] at CC
  have HL := Lib.hid hl
  have CT := Lib.hid specOpText_any
  have hq : ∀ a b : List UInt8, ((bs a).toList == (bs b).toList) = decide (a = b) := bs_eq
  have h46 : ((46 : UInt8).toNat : Int) = 46 := rfl
  clear b0 hP hl
  go_enter Tryd.func14, Tryd.ntmps14
  go_wp2_with fail
  refine (CC.out _).mono ?_
  rintro e w1 ⟨A, cp, rfl, hPl, hown, b1⟩
  have HPL := Lib.hid hPl
  have HO1 := Lib.hid (hown.lower (base := (w.alloc (.cells #[.int .i64 0, .int .i64 0, .int .i64 0, .int .i64 0, .int .i64 0] 25)).heap.size) HB0.out.size)
  have HB1 := Lib.hid (HB0.out.trans (b1.mono HB0.out.size))
  have HR1 := Lib.hid (HR0.out.next b1)
  clear hPl hown b1 HR0
  go_wp2_with fail
  have HN1 := Lib.hid fun (u : World) (p : List UInt8) (hp : p.length ≤ 1048576) => l7Num_any p u hp
  have hbA : Below w1.heap.size w1 (w1.alloc (.cells #[.int .i64 0, .int .i64 0, .int .i64 0, .int .i64 0] 3)) := (Below.refl _ w1).alloc (Nat.le_refl _) _
  have HY0 : Hid (Box (w1.alloc (.cells #[.int .i64 0, .int .i64 0, .int .i64 0, .int .i64 0] 3)) w1.heap.size (allV P 1) 3) := Lib.hid (Box.new w1 _ _)
  have HBA := Lib.hid hbA
  have HAS := Lib.hid (El.Own.reads (E := strE) HO1.out)
  have HML := Lib.hid fun (p : List UInt8) (hp : p ∈ P) => (show p.length ≤ 1048576 from by
    have := cutL_mem (c := 46) (l := l) (x := p) (by rw [HP.out]; exact hp)
    have := HL.out
    omega)
  clear hbA
  go_loopw [6] (fun i wr => ∃ k : Nat, 1 ≤ k ∧ k ≤ 5 ∧ i = .int .i64 (k : Int) ∧ Box wr w1.heap.size (allV P k) 3 ∧ Below w1.heap.size w1 wr) (fun i _ => 5 - (intOf i).toNat)
  case atStart => exact ⟨1, by decide, by decide, rfl, HY0.out, HBA.out⟩
  case round =>
    obtain ⟨k, hk1, hk5, rfl, hy, hb⟩ := hrel
    have HY := Lib.hid hy
    have HB := Lib.hid hb
    clear hy hb HY0 HBA
    by_cases hlt : k < P.length
    · by_cases h5 : k < 5
      · obtain ⟨j, rfl⟩ : ∃ j : Nat, k = j + 1 := ⟨k - 1, by omega⟩
        obtain ⟨b, o, p, rfl, hbB, hp, hc⟩ := (HAS.out.below HB.out).spot hlt
        have c0 : wr.cell? ⟨b, o + (j + 1), none⟩ = some (.string (bs p)) := by
          have := hc 0 _ rfl
          simpa [strE] using this
        have hlI : (j : Int) + 1 < (P.length : Int) := by omega
        have h5I : (j : Int) + 1 < 5 := by omega
        have CN := Lib.hid (HN1.out wr p (HML.out p (List.mem_of_getElem? hp)))
        have HNA : Hid (num4 p = numAt P (j + 1)) := Lib.hid (by unfold numAt; rw [hp])
        have hjI : (j : Int) + 1 - 1 = (j : Int) := by omega
        have hj4 : (j : Int) < 4 := by omega
        clear hp hc hbB
        go_wp2_with fail
        refine CN.out.mono ?_
        rintro e w2 ⟨rfl, b2⟩
        have HY2 := Lib.hid (HY.out.next b2)
        have HB2 := Lib.hid (HB.out.trans (b2.mono HB.out.size))
        have fr := HY2.out.free j
        obtain ⟨y, hyc⟩ : ∃ y, w2.cell? ⟨w1.heap.size, j, none⟩ = some y := by
          have : j = 0 ∨ j = 1 ∨ j = 2 ∨ j = 3 := by omega
          rcases this with rfl | rfl | rfl | rfl
          · exact ⟨_, HY2.out.cell (i := 0) rfl⟩
          · exact ⟨_, HY2.out.cell (i := 1) rfl⟩
          · exact ⟨_, HY2.out.cell (i := 2) rfl⟩
          · exact ⟨_, HY2.out.cell (i := 3) rfl⟩
        clear b2 c0
        go_wp2_with fail
        go_roundw
        case rel =>
          refine ⟨j + 2, by omega, by omega, by go_num, ?_, HB2.out.trans (below_of_grown_at' (grown_cellU _ _ _ _) (Nat.le_refl _) HB2.out.size)⟩
          have := HY2.out.set j (.int .i64 (num4 p))
          have e := allV_set P (j + 1) hk1 h5
          rw [Nat.add_sub_cancel] at e
          rw [HNA.out] at this ⊢
          rw [e] at this
          exact this
        case measure => simp [intOf]; omega
      · have hlI : (k : Int) < (P.length : Int) := by omega
        have h5I : ¬ (k : Int) < 5 := by omega
        go_wp2_with fail
        have HYE : Hid (Box wr w1.heap.size #[.int .i64 (numAt P 1), .int .i64 (numAt P 2), .int .i64 (numAt P 3), .int .i64 (numAt P 4)] 3) := Lib.hid (by
          have := HY.out
          unfold allV at this
          rwa [fk_end (.inr (by omega)) (by decide), fk_end (.inr (by omega)) (by decide), fk_end (.inr (by omega)) (by decide), fk_end (.inr (by omega)) (by decide)] at this)
        obtain ⟨wA, hwA⟩ : ∃ x, x = wr := ⟨_, rfl⟩
        subst hwA
        have HBB := HB
        clear HB HY
        go_loopw [7] (fun v wq => ∃ j : Nat, 1 ≤ j ∧ j ≤ 9 ∧ v = .int .i64 (j : Int) ∧ (∀ i, 1 ≤ i → i < j → ¬ (opTx (cand P i) = l ∧ l ≠ [])) ∧ Box wq w1.heap.size #[.int .i64 (numAt P 1), .int .i64 (numAt P 2), .int .i64 (numAt P 3), .int .i64 (numAt P 4)] 3 ∧ Below w1.heap.size w1 wq) (fun v _ => 9 - (intOf v).toNat)
        case atStart => exact ⟨1, by decide, by decide, rfl, fun i h1 h2 => by omega, HYE.out, HBB.out⟩
        case round =>
          obtain ⟨wq, hwq⟩ : ∃ x, x = wr := ⟨_, rfl⟩
          subst hwq
          obtain ⟨j, hj1, hj9, rfl, hall, hy, hb⟩ := hrel
          have HALL := Lib.hid hall
          have HY := Lib.hid hy
          have HB := Lib.hid hb
          clear hall hy hb HYE HBB
          by_cases h8 : j ≤ 8
          · have h8I : (j : Int) ≤ 8 := by omega
            have y0 := HY.out.cell (i := 0) (v := .int .i64 (numAt P 1)) rfl
            have y1 := HY.out.cell (i := 1) (v := .int .i64 (numAt P 2)) rfl
            have y2 := HY.out.cell (i := 2) (v := .int .i64 (numAt P 3)) rfl
            have y3 := HY.out.cell (i := 3) (v := .int .i64 (numAt P 4)) rfl
            have hlt1 := HY.out.lt
            have CTj := Lib.hid (CT.out (cand P j))
            unfold Op.v cand at CTj
            have HTE : Hid (opTx (⟨(j : Int), numAt P 1, numAt P 2, numAt P 3, numAt P 4⟩ : Op) = opTx (cand P j)) := Lib.hid rfl
            rw [HTE.out] at CTj
            have hb5 := HB.out.alloc HB.out.size (.cells #[.int .i64 (j : Int), .int .i64 (numAt P 1), .int .i64 (numAt P 2), .int .i64 (numAt P 3), .int .i64 (numAt P 4)] 25)
            have HB5 := Lib.hid (drew_below' hb5)
            have HY5 := Lib.hid ((HY.out.alloc (.cells #[.int .i64 (j : Int), .int .i64 (numAt P 1), .int .i64 (numAt P 2), .int .i64 (numAt P 3), .int .i64 (numAt P 4)] 25)).drew)
            have HQ5 : Hid (Box (wq.alloc (.cells #[.int .i64 (j : Int), .int .i64 (numAt P 1), .int .i64 (numAt P 2), .int .i64 (numAt P 3), .int .i64 (numAt P 4)] 25)).drew wq.heap.size #[.int .i64 (j : Int), .int .i64 (numAt P 1), .int .i64 (numAt P 2), .int .i64 (numAt P 3), .int .i64 (numAt P 4)] 25) := Lib.hid ((Box.new wq _ _).drew)
            clear hb5
            go_wp2_with fail
            go_region
            have hGW := HB.out.size
            generalize (wq.alloc (.cells #[.int .i64 (j : Int), .int .i64 (numAt P 1), .int .i64 (numAt P 2), .int .i64 (numAt P 3), .int .i64 (numAt P 4)] 25)).drew = W5 at *
            generalize wq.heap.size = G at *
            have q0 := HQ5.out.cell (i := 0) (v := .int .i64 (j : Int)) rfl
            have q1 := HQ5.out.cell (i := 1) (v := .int .i64 (numAt P 1)) rfl
            have q2 := HQ5.out.cell (i := 2) (v := .int .i64 (numAt P 2)) rfl
            have q3 := HQ5.out.cell (i := 3) (v := .int .i64 (numAt P 3)) rfl
            have q4 := HQ5.out.cell (i := 4) (v := .int .i64 (numAt P 4)) rfl
            clear y0 y1 y2 y3 hlt1
            go_wp2_with fail
            refine (CTj.out _).mono ?_
            rintro e w6 ⟨rfl, b6⟩
            have HB6 := Lib.hid (HB5.out.trans (b6.mono HB5.out.size))
            have HY6 := Lib.hid (HY5.out.next b6)
            have HQ6 := Lib.hid (HQ5.out.next b6)
            have q0 := HQ6.out.cell (i := 0) (v := .int .i64 (j : Int)) rfl
            have q1 := HQ6.out.cell (i := 1) (v := .int .i64 (numAt P 1)) rfl
            have q2 := HQ6.out.cell (i := 2) (v := .int .i64 (numAt P 2)) rfl
            have q3 := HQ6.out.cell (i := 3) (v := .int .i64 (numAt P 3)) rfl
            have q4 := HQ6.out.cell (i := 4) (v := .int .i64 (numAt P 4)) rfl
            clear b6
            by_cases he : opTx (cand P j) = l
            · by_cases hl0 : l = []
              · have hemp : (bs l).toList.isEmpty = true := by rw [hl0, bs_toList]; rfl
                have HNO := Lib.hid (show ∀ i, 1 ≤ i → i < j + 1 → ¬ (opTx (cand P i) = l ∧ l ≠ []) from fun i _ _ h => h.2 hl0)
                clear hl0
                go_wp2_with fail
                go_roundw
                case rel => exact ⟨j + 1, by omega, by omega, by go_num, HNO.out, HY6.out, HB6.out⟩
                case measure => simp [intOf]; omega
              · have hemp : (bs l).toList.isEmpty = false := by
                  rw [bs_toList]
                  cases l with
                  | nil => exact absurd rfl hl0
                  | cons x r => rfl
                have HE := Lib.hid (And.intro he hl0)
                have hRq := HR1.out.below HB6.out HR1.out.lt
                have r0 := hRq.cell (i := 0) (v := .int .i64 0) rfl
                have z0 := hRq.free 0
                have r1 := hRq.cell (i := 1) (v := .int .i64 0) rfl
                have z1 := hRq.free 1
                have r2 := hRq.cell (i := 2) (v := .int .i64 0) rfl
                have z2 := hRq.free 2
                have r3 := hRq.cell (i := 3) (v := .int .i64 0) rfl
                have z3 := hRq.free 3
                have r4 := hRq.cell (i := 4) (v := .int .i64 0) rfl
                have z4 := hRq.free 4
                have HRQ := Lib.hid hRq
                clear hRq
                have hRG : w.heap.size < G := by have := HR1.out.lt; omega
                clear hl0
                go_wp2_with fail
                refine bodyPost_ret (v := .tuple #[.agg #[.int .i64 (j : Int), .int .i64 (numAt P 1), .int .i64 (numAt P 2), .int .i64 (numAt P 3), .int .i64 (numAt P 4)], .bool true]) ?_ rfl ?_
                · exact results_row_tmp rfl _ _ w.heap.size 25 #[.int .i64 (j : Int), .int .i64 (numAt P 1), .int .i64 (numAt P 2), .int .i64 (numAt P 3), .int .i64 (numAt P 4)] (0, 0) _ _ rfl rfl (fin_uy HRQ.out _ _ _ _ _) Tryd.underlying25 rfl (by kernel_rfl)
                refine ⟨.inl ⟨cand P j, ?_, ?_, rfl⟩, (HB1.out.trans (HB6.out.mono HB1.out.size)).trans (below_of_grown_at' (grown_uy _ _ _ _ _ _ _) (Nat.le_refl _) (Nat.le_trans HB1.out.size HB6.out.size))⟩
                · exact (cand_ok HE.out.1 HE.out.2).1
                · exact (cand_ok HE.out.1 HE.out.2).2
            · have HNO := Lib.hid (show ∀ i, 1 ≤ i → i < j + 1 → ¬ (opTx (cand P i) = l ∧ l ≠ []) from fun i h1 h2 h => by
                by_cases hij : i = j
                · subst hij
                  exact he h.1
                · exact HALL.out i h1 (by omega) h)
              go_wp2_with fail
              go_roundw
              case rel => exact ⟨j + 1, by omega, by omega, by go_num, HNO.out, HY6.out, HB6.out⟩
              case measure => simp [intOf]; omega
          · obtain rfl : j = 9 := by omega
            have hRq := HR1.out.below HB.out HR1.out.lt
            have r0 := hRq.cell (i := 0) (v := .int .i64 0) rfl
            have r1 := hRq.cell (i := 1) (v := .int .i64 0) rfl
            have r2 := hRq.cell (i := 2) (v := .int .i64 0) rfl
            have r3 := hRq.cell (i := 3) (v := .int .i64 0) rfl
            have r4 := hRq.cell (i := 4) (v := .int .i64 0) rfl
            have z0 := hRq.free 0
            have z1 := hRq.free 1
            have z2 := hRq.free 2
            have z3 := hRq.free 3
            have z4 := hRq.free 4
            have HRQ := Lib.hid hRq
            clear hRq
            go_wp2_with fail
            refine bodyPost_ret (v := .tuple #[.agg #[.int .i64 0, .int .i64 0, .int .i64 0, .int .i64 0, .int .i64 0], .bool false]) ?_ rfl ?_
            · exact results_row_tmp rfl _ _ w.heap.size 25 #[.int .i64 0, .int .i64 0, .int .i64 0, .int .i64 0, .int .i64 0] (0, 0) _ _ rfl rfl (fin_uy HRQ.out _ _ _ _ _) Tryd.underlying25 rfl (by kernel_rfl)
            refine ⟨.inr ⟨fun o ho he => ?_, rfl⟩, (HB1.out.trans (HB.out.mono HB1.out.size)).trans (below_of_grown_at' (grown_uy _ _ _ _ _ _ _) (Nat.le_refl _) (Nat.le_trans HB1.out.size HB.out.size))⟩
            exact cand_all HP.out ho he (fun m h1 h9 => HALL.out m h1 h9)
    · have hlI : ¬ (k : Int) < (P.length : Int) := by omega
      go_wp2_with fail
      have HYE : Hid (Box wr w1.heap.size #[.int .i64 (numAt P 1), .int .i64 (numAt P 2), .int .i64 (numAt P 3), .int .i64 (numAt P 4)] 3) := Lib.hid (by
        have := HY.out
        unfold allV at this
        rwa [fk_end (.inl (by omega)) (by decide), fk_end (.inl (by omega)) (by decide), fk_end (.inl (by omega)) (by decide), fk_end (.inl (by omega)) (by decide)] at this)
      obtain ⟨wA, hwA⟩ : ∃ x, x = wr := ⟨_, rfl⟩
      subst hwA
      have HBB := HB
      clear HB HY
      go_loopw [7] (fun v wq => ∃ j : Nat, 1 ≤ j ∧ j ≤ 9 ∧ v = .int .i64 (j : Int) ∧ (∀ i, 1 ≤ i → i < j → ¬ (opTx (cand P i) = l ∧ l ≠ [])) ∧ Box wq w1.heap.size #[.int .i64 (numAt P 1), .int .i64 (numAt P 2), .int .i64 (numAt P 3), .int .i64 (numAt P 4)] 3 ∧ Below w1.heap.size w1 wq) (fun v _ => 9 - (intOf v).toNat)
      case atStart => exact ⟨1, by decide, by decide, rfl, fun i h1 h2 => by omega, HYE.out, HBB.out⟩
      case round =>
        obtain ⟨wq, hwq⟩ : ∃ x, x = wr := ⟨_, rfl⟩
        subst hwq
        obtain ⟨j, hj1, hj9, rfl, hall, hy, hb⟩ := hrel
        have HALL := Lib.hid hall
        have HY := Lib.hid hy
        have HB := Lib.hid hb
        clear hall hy hb HYE HBB
        by_cases h8 : j ≤ 8
        · have h8I : (j : Int) ≤ 8 := by omega
          have y0 := HY.out.cell (i := 0) (v := .int .i64 (numAt P 1)) rfl
          have y1 := HY.out.cell (i := 1) (v := .int .i64 (numAt P 2)) rfl
          have y2 := HY.out.cell (i := 2) (v := .int .i64 (numAt P 3)) rfl
          have y3 := HY.out.cell (i := 3) (v := .int .i64 (numAt P 4)) rfl
          have hlt1 := HY.out.lt
          have CTj := Lib.hid (CT.out (cand P j))
          unfold Op.v cand at CTj
          have HTE : Hid (opTx (⟨(j : Int), numAt P 1, numAt P 2, numAt P 3, numAt P 4⟩ : Op) = opTx (cand P j)) := Lib.hid rfl
          rw [HTE.out] at CTj
          have hb5 := HB.out.alloc HB.out.size (.cells #[.int .i64 (j : Int), .int .i64 (numAt P 1), .int .i64 (numAt P 2), .int .i64 (numAt P 3), .int .i64 (numAt P 4)] 25)
          have HB5 := Lib.hid (drew_below' hb5)
          have HY5 := Lib.hid ((HY.out.alloc (.cells #[.int .i64 (j : Int), .int .i64 (numAt P 1), .int .i64 (numAt P 2), .int .i64 (numAt P 3), .int .i64 (numAt P 4)] 25)).drew)
          have HQ5 : Hid (Box (wq.alloc (.cells #[.int .i64 (j : Int), .int .i64 (numAt P 1), .int .i64 (numAt P 2), .int .i64 (numAt P 3), .int .i64 (numAt P 4)] 25)).drew wq.heap.size #[.int .i64 (j : Int), .int .i64 (numAt P 1), .int .i64 (numAt P 2), .int .i64 (numAt P 3), .int .i64 (numAt P 4)] 25) := Lib.hid ((Box.new wq _ _).drew)
          clear hb5
          go_wp2_with fail
          go_region
          have hGW := HB.out.size
          generalize (wq.alloc (.cells #[.int .i64 (j : Int), .int .i64 (numAt P 1), .int .i64 (numAt P 2), .int .i64 (numAt P 3), .int .i64 (numAt P 4)] 25)).drew = W5 at *
          generalize wq.heap.size = G at *
          have q0 := HQ5.out.cell (i := 0) (v := .int .i64 (j : Int)) rfl
          have q1 := HQ5.out.cell (i := 1) (v := .int .i64 (numAt P 1)) rfl
          have q2 := HQ5.out.cell (i := 2) (v := .int .i64 (numAt P 2)) rfl
          have q3 := HQ5.out.cell (i := 3) (v := .int .i64 (numAt P 3)) rfl
          have q4 := HQ5.out.cell (i := 4) (v := .int .i64 (numAt P 4)) rfl
          clear y0 y1 y2 y3 hlt1
          go_wp2_with fail
          refine (CTj.out _).mono ?_
          rintro e w6 ⟨rfl, b6⟩
          have HB6 := Lib.hid (HB5.out.trans (b6.mono HB5.out.size))
          have HY6 := Lib.hid (HY5.out.next b6)
          have HQ6 := Lib.hid (HQ5.out.next b6)
          have q0 := HQ6.out.cell (i := 0) (v := .int .i64 (j : Int)) rfl
          have q1 := HQ6.out.cell (i := 1) (v := .int .i64 (numAt P 1)) rfl
          have q2 := HQ6.out.cell (i := 2) (v := .int .i64 (numAt P 2)) rfl
          have q3 := HQ6.out.cell (i := 3) (v := .int .i64 (numAt P 3)) rfl
          have q4 := HQ6.out.cell (i := 4) (v := .int .i64 (numAt P 4)) rfl
          clear b6
          by_cases he : opTx (cand P j) = l
          · by_cases hl0 : l = []
            · have hemp : (bs l).toList.isEmpty = true := by rw [hl0, bs_toList]; rfl
              have HNO := Lib.hid (show ∀ i, 1 ≤ i → i < j + 1 → ¬ (opTx (cand P i) = l ∧ l ≠ []) from fun i _ _ h => h.2 hl0)
              clear hl0
              go_wp2_with fail
              go_roundw
              case rel => exact ⟨j + 1, by omega, by omega, by go_num, HNO.out, HY6.out, HB6.out⟩
              case measure => simp [intOf]; omega
            · have hemp : (bs l).toList.isEmpty = false := by
                rw [bs_toList]
                cases l with
                | nil => exact absurd rfl hl0
                | cons x r => rfl
              have HE := Lib.hid (And.intro he hl0)
              have hRq := HR1.out.below HB6.out HR1.out.lt
              have r0 := hRq.cell (i := 0) (v := .int .i64 0) rfl
              have z0 := hRq.free 0
              have r1 := hRq.cell (i := 1) (v := .int .i64 0) rfl
              have z1 := hRq.free 1
              have r2 := hRq.cell (i := 2) (v := .int .i64 0) rfl
              have z2 := hRq.free 2
              have r3 := hRq.cell (i := 3) (v := .int .i64 0) rfl
              have z3 := hRq.free 3
              have r4 := hRq.cell (i := 4) (v := .int .i64 0) rfl
              have z4 := hRq.free 4
              have HRQ := Lib.hid hRq
              clear hRq
              have hRG : w.heap.size < G := by have := HR1.out.lt; omega
              clear hl0
              go_wp2_with fail
              refine bodyPost_ret (v := .tuple #[.agg #[.int .i64 (j : Int), .int .i64 (numAt P 1), .int .i64 (numAt P 2), .int .i64 (numAt P 3), .int .i64 (numAt P 4)], .bool true]) ?_ rfl ?_
              · exact results_row_tmp rfl _ _ w.heap.size 25 #[.int .i64 (j : Int), .int .i64 (numAt P 1), .int .i64 (numAt P 2), .int .i64 (numAt P 3), .int .i64 (numAt P 4)] (0, 0) _ _ rfl rfl (fin_uy HRQ.out _ _ _ _ _) Tryd.underlying25 rfl (by kernel_rfl)
              refine ⟨.inl ⟨cand P j, ?_, ?_, rfl⟩, (HB1.out.trans (HB6.out.mono HB1.out.size)).trans (below_of_grown_at' (grown_uy _ _ _ _ _ _ _) (Nat.le_refl _) (Nat.le_trans HB1.out.size HB6.out.size))⟩
              · exact (cand_ok HE.out.1 HE.out.2).1
              · exact (cand_ok HE.out.1 HE.out.2).2
          · have HNO := Lib.hid (show ∀ i, 1 ≤ i → i < j + 1 → ¬ (opTx (cand P i) = l ∧ l ≠ []) from fun i h1 h2 h => by
              by_cases hij : i = j
              · subst hij
                exact he h.1
              · exact HALL.out i h1 (by omega) h)
            go_wp2_with fail
            go_roundw
            case rel => exact ⟨j + 1, by omega, by omega, by go_num, HNO.out, HY6.out, HB6.out⟩
            case measure => simp [intOf]; omega
        · obtain rfl : j = 9 := by omega
          have hRq := HR1.out.below HB.out HR1.out.lt
          have r0 := hRq.cell (i := 0) (v := .int .i64 0) rfl
          have r1 := hRq.cell (i := 1) (v := .int .i64 0) rfl
          have r2 := hRq.cell (i := 2) (v := .int .i64 0) rfl
          have r3 := hRq.cell (i := 3) (v := .int .i64 0) rfl
          have r4 := hRq.cell (i := 4) (v := .int .i64 0) rfl
          have z0 := hRq.free 0
          have z1 := hRq.free 1
          have z2 := hRq.free 2
          have z3 := hRq.free 3
          have z4 := hRq.free 4
          have HRQ := Lib.hid hRq
          clear hRq
          go_wp2_with fail
          refine bodyPost_ret (v := .tuple #[.agg #[.int .i64 0, .int .i64 0, .int .i64 0, .int .i64 0, .int .i64 0], .bool false]) ?_ rfl ?_
          · exact results_row_tmp rfl _ _ w.heap.size 25 #[.int .i64 0, .int .i64 0, .int .i64 0, .int .i64 0, .int .i64 0] (0, 0) _ _ rfl rfl (fin_uy HRQ.out _ _ _ _ _) Tryd.underlying25 rfl (by kernel_rfl)
          refine ⟨.inr ⟨fun o ho he => ?_, rfl⟩, (HB1.out.trans (HB.out.mono HB1.out.size)).trans (below_of_grown_at' (grown_uy _ _ _ _ _ _ _) (Nat.le_refl _) (Nat.le_trans HB1.out.size HB.out.size))⟩
          exact cand_all HP.out ho he (fun m h1 h9 => HALL.out m h1 h9)
end Go.Proofs.YtbejafbpipdbjaaDoor
