/-
  The law FnFoldCrop returns true for every list of bytes. Condition: the table of ranges reads as the program's text lays it.
-/
import Derived.Test.YtiemlakjallphabDoorRanL
import Derived.Lib.MinMax
import Derived.Test.YtiemlakjallphabDoorOpsK
import Derived.Test.YtiemlakjallphabDoorFoldN
namespace Go.Proofs.YtiemlakjallphabDoor
set_option maxRecDepth 4000
open Go.RowKit

/-- Parts in parts under way: k of them. -/
def Nest (w : World) (k : Nat) (x y W H : Int) (v : Value) (u : World) : Prop :=
  ∃ (t : List (Int × Int)) (A : Option Addr) (c n : Nat), n = t.length ∧ t.length = k ∧ v = .slice A n c ∧ x = (t.map (·.1)).sum ∧ y = (t.map (·.2)).sum ∧ W = 6 - x ∧ H = 6 - y ∧ (∀ p ∈ t, 0 ≤ p.1 ∧ 0 ≤ p.2) ∧ (nested 6 6 t).all opB = true ∧ opE.Own u w.heap.size (.slice A n c) (nested 6 6 t) ∧ Below w.heap.size w u
theorem nested_length : ∀ (w h : Int) (t : List (Int × Int)), (nested w h t).length = t.length
  | _, _, [] => rfl
  | w, h, (a, b) :: t => by
    show (nested (w - a) (h - b) t).length + 1 = _
    rw [nested_length]
    rfl
theorem nested_fold {t : List (Int × Int)} (hp : ∀ p ∈ t, 0 ≤ p.1 ∧ 0 ≤ p.2) (ht : 1 ≤ t.length) (h5 : t.length ≤ 5) (hal : (nested 6 6 t).all opB = true) (hx : (t.map (·.1)).sum < 6) (hy : (t.map (·.2)).sum < 6) :
    opsFold (nested 6 6 t) = [⟨1, (t.map (·.1)).sum, (t.map (·.2)).sum, 6 - (t.map (·.1)).sum, 6 - (t.map (·.2)).sum⟩] := by
  have hok : opsB (nested 6 6 t) = true := by
    unfold opsB
    rw [hal, Bool.true_and]
    exact decide_eq_true (by rw [nested_length]; exact h5)
  rw [opsFold_ok hok]
  match t, ht, hp, hx, hy with
  | (a, b) :: t, _, hp, hx, hy =>
    have hab := hp (a, b) List.mem_cons_self
    simp only at hab
    simp only [List.map_cons, List.sum_cons] at hx hy ⊢
    show foldR (⟨1, a, b, 6 - a, 6 - b⟩ :: nested (6 - a) (6 - b) t) = _
    rw [foldR_nested t a b (6 - a) (6 - b) hab.1 hab.2 (fun p hq => hp p (List.mem_cons_of_mem _ hq)) hx hy]
    rw [show 6 - a - (t.map (·.1)).sum = 6 - (a + (t.map (·.1)).sum) from by omega, show 6 - b - (t.map (·.2)).sum = 6 - (b + (t.map (·.2)).sum) from by omega]
theorem opB_part {a b c d : Int} (h : 0 ≤ a ∧ a ≤ 5 ∧ 0 ≤ b ∧ b ≤ 5 ∧ 1 ≤ c ∧ c ≤ 6 ∧ 1 ≤ d ∧ d ≤ 6) : opB ⟨1, a, b, c, d⟩ = true := by
  unfold opB
  simp only [if_true, inR]
  simp only [Bool.and_eq_true, decide_eq_true_eq]
  omega
set_option maxHeartbeats 4000000 in
theorem fnFoldCrop_walk (A : Option Addr) (cap : Nat) (l : List UInt8) (w : World) (hR : RangesIn w) (_ : Has w w.heap.size A l) (_ : l.length ≤ cap) :
    Calls Tryd.prog 8 #[.slice A l.length cap] w fun e w' => e = .returned (.bool true) ∧ Below w.heap.size w w' := by
  obtain ⟨n, hn⟩ : ∃ n, l.length = n := ⟨_, rfl⟩
  rw [hn]
  have HR := Lib.hid fun u (hb : Below w.heap.size w u) => hR.below hb hR.1
  clear hn hR
  by_cases hs : n ≤ 1048576
  case neg =>
    have hI : (1048576 : Int) < (n : Int) := by omega
    go_enter Tryd.func8, Tryd.ntmps8
    go_wp2_with fail
    go_ret
    exact ⟨rfl, Below.refl _ _⟩
  have hI : ¬ (1048576 : Int) < (n : Int) := by omega
  obtain ⟨m, hm⟩ : ∃ m : Nat, n % 5 = m := ⟨_, rfl⟩
  have hm5 : m < 5 := by omega
  have hmI : (n : Int) % 5 = (m : Int) := by omega
  have hmT : (n : Int).tmod 5 = (m : Int) := by rw [Int.tmod_eq_emod_of_nonneg (by omega)]; exact hmI
  have HO0 : Hid (Nest w 0 0 0 6 6 (.slice (some ⟨w.heap.size, 0, none⟩) 0 0) (w.alloc (.cells #[] 49))) := Lib.hid ⟨[], _, _, _, rfl, rfl, rfl, rfl, rfl, by simp, by simp, (fun p hp => by simp at hp), rfl, El.own_empty opE (Nat.le_refl _), (Below.refl _ _).alloc (Nat.le_refl _) _⟩
  clear hm
  go_enter Tryd.func8, Tryd.ntmps8
  go_wp2_with fail
  go_loopw [3, 4, 5, 6, 7, 8] (fun vw vh vx vy v i wr => ∃ (k : Nat) (W H x y : Int), k ≤ m + 1 ∧ i = .int .i64 (k : Int) ∧ vw = .int .i64 W ∧ vh = .int .i64 H ∧ vx = .int .i64 x ∧ vy = .int .i64 y ∧ 0 ≤ x ∧ x ≤ 5 ∧ 0 ≤ y ∧ y ≤ 5 ∧ Nest w k x y W H v wr) (fun _ _ _ _ _ i _ => m + 1 - (intOf i).toNat)
  case atStart => exact ⟨0, 6, 6, 0, 0, by omega, rfl, rfl, rfl, rfl, rfl, by omega, by omega, by omega, by omega, HO0.out⟩
  case round =>
    obtain ⟨k, W, H, x, y, hk, rfl, rfl, rfl, rfl, rfl, x0, x5, y0, y5, t, A1, c1, n1, hn1, hk1, rfl, hx, hy, hW, hH, hp, hal, ho, hb⟩ := hrel
    have HT := Lib.hid (And.intro hx (And.intro hy (And.intro hp hal)))
    have HO := Lib.hid ho
    have HB := Lib.hid hb
    have HLN := Lib.hid (And.intro hn1 (And.intro hk1 (And.intro hW hH)))
    have w1 : 1 ≤ W ∧ W ≤ 6 := by omega
    have h1 : 1 ≤ H ∧ H ≤ 6 := by omega
    have hk5 : k ≤ 5 := by omega
    clear hx hy hp hal ho hb
    by_cases hlt : k < m + 1
    · obtain ⟨a, ha⟩ : ∃ a : Int, (wrap64 ((n : Int) / ((k : Int) + 1))).tmod (min W 2) = a := ⟨_, rfl⟩
      obtain ⟨c, hc⟩ : ∃ c : Int, (wrap64 ((n : Int) / ((k : Int) + 2))).tmod (min H 2) = c := ⟨_, rfl⟩
      have q1 : 0 ≤ (n : Int) / ((k : Int) + 1) ∧ (n : Int) / ((k : Int) + 1) ≤ 1048576 := ⟨Int.ediv_nonneg (by omega) (by omega), Int.le_trans (Int.ediv_le_self _ (by omega)) (by omega)⟩
      have q2 : 0 ≤ (n : Int) / ((k : Int) + 2) ∧ (n : Int) / ((k : Int) + 2) ≤ 1048576 := ⟨Int.ediv_nonneg (by omega) (by omega), Int.le_trans (Int.ediv_le_self _ (by omega)) (by omega)⟩
      have ra : 0 ≤ a ∧ a ≤ 1 ∧ a < W := by
        rw [show wrap64 ((n : Int) / ((k : Int) + 1)) = (n : Int) / ((k : Int) + 1) from by unfold wrap64; omega, Int.tmod_eq_emod_of_nonneg q1.1] at ha
        have h1 := Int.emod_nonneg ((n : Int) / ((k : Int) + 1)) (b := min W 2) (by omega)
        have h2 := Int.emod_lt_of_pos ((n : Int) / ((k : Int) + 1)) (b := min W 2) (by omega)
        omega
      have rc : 0 ≤ c ∧ c ≤ 1 ∧ c < H := by
        rw [show wrap64 ((n : Int) / ((k : Int) + 2)) = (n : Int) / ((k : Int) + 2) from by unfold wrap64; omega, Int.tmod_eq_emod_of_nonneg q2.1] at hc
        have h1 := Int.emod_nonneg ((n : Int) / ((k : Int) + 2)) (b := min H 2) (by omega)
        have h2 := Int.emod_lt_of_pos ((n : Int) / ((k : Int) + 2)) (b := min H 2) (by omega)
        omega
      obtain ⟨W2, hW2⟩ : ∃ s, W - a = s := ⟨_, rfl⟩
      obtain ⟨H2, hH2⟩ : ∃ s, H - c = s := ⟨_, rfl⟩
      obtain ⟨x2, hx2⟩ : ∃ s, x + a = s := ⟨_, rfl⟩
      obtain ⟨y2, hy2⟩ : ∃ s, y + c = s := ⟨_, rfl⟩
      have v1 : 1 ≤ W2 ∧ W2 ≤ 6 := by omega
      have v2 : 1 ≤ H2 ∧ H2 ≤ 6 := by omega
      have v3 : 0 ≤ x2 ∧ x2 ≤ 5 := by omega
      have v4 : 0 ≤ y2 ∧ y2 ≤ 5 := by omega
      have HV := Lib.hid (And.intro v3 v4)
      have z1 : wrap64 W2 = W2 := by unfold wrap64; omega
      have z2 : wrap64 H2 = H2 := by unfold wrap64; omega
      have z3 : wrap64 x2 = x2 := by unfold wrap64; omega
      have z4 : wrap64 y2 = y2 := by unfold wrap64; omega
      have HSN : Hid (nested 6 6 t ++ [⟨1, a, c, W2, H2⟩] = nested 6 6 (t ++ [(a, c)]) ∧ x2 = ((t ++ [(a, c)]).map (·.1)).sum ∧ y2 = ((t ++ [(a, c)]).map (·.2)).sum ∧ W2 = 6 - x2 ∧ H2 = 6 - y2 ∧ (∀ p ∈ t ++ [(a, c)], 0 ≤ p.1 ∧ 0 ≤ p.2) ∧ opB ⟨1, a, c, W2, H2⟩ = true) := Lib.hid (by
        refine ⟨?_, ?_, ?_, by omega, by omega, ?_, opB_part (by omega)⟩
        · rw [nested_snoc, ← HT.out.1, ← HT.out.2.1]
          rw [show W2 = 6 - x - a from by omega, show H2 = 6 - y - c from by omega]
        · rw [List.map_append, List.sum_append, ← HT.out.1]
          simp
          omega
        · rw [List.map_append, List.sum_append, ← HT.out.2.1]
          simp
          omega
        · intro p hp
          rcases List.mem_append.1 hp with h | h
          · exact HT.out.2.2.1 p h
          · simp at h
            subst h
            exact ⟨ra.1, rc.1⟩)
      have hlt2 : (k : Int) < 1 + (m : Int) := by omega
      clear hW hH hn1 hk1 q1 q2 ra rc v1 v2 v3 v4
      go_wp2_with (at_builtin; refine El.wpList_pushAll (E := opE) 34 Tryd.underlying34 rfl (.tmp 52) (.tmp 58) rfl w.heap.size (.slice A1 n1 c1) (nested 6 6 t) rfl (HO.out.alloc _) _ (some ⟨wr.heap.size, 0, none⟩) 1 1 [⟨1, a, c, W2, H2⟩] rfl (has_one wr ⟨1, a, c, W2, H2⟩) rfl (by rw [nested_length, HLN.out.2.1]; simp; omega) (by have := HB.out.size; simp; omega) ?_; intro A4 c4 w4 ho4 hg4; obtain ⟨n4, hn4⟩ : ∃ n4, (nested 6 6 t ++ [(⟨1, a, c, W2, H2⟩ : Op)]).length = n4 := ⟨_, rfl⟩; rw [hn4] at ho4 ⊢; have HO4 := Lib.hid (And.intro ho4 hn4); have HG4 := Lib.hid hg4; clear ho4 hg4 hn4)
      go_roundw
      case rel =>
        refine ⟨k + 1, W2, H2, x2, y2, by omega, by go_num, rfl, rfl, rfl, rfl, HV.out.1.1, HV.out.1.2, HV.out.2.1, HV.out.2.2, t ++ [(a, c)], A4, c4, n4, ?_, by rw [List.length_append, HLN.out.2.1]; rfl, rfl, HSN.out.2.1, HSN.out.2.2.1, HSN.out.2.2.2.1, HSN.out.2.2.2.2.1, HSN.out.2.2.2.2.2.1, ?_, ?_, ?_⟩
        · rw [← HO4.out.2, HSN.out.1, nested_length]
        · rw [← HSN.out.1, List.all_append, HT.out.2.2.2, List.all_cons, HSN.out.2.2.2.2.2.2]
          rfl
        · rw [← HSN.out.1]
          exact HO4.out.1
        · exact (HB.out.alloc HB.out.size _).grown HG4.out (HB.out.alloc HB.out.size _).size (fun q e => (World.ownsRow.lt HO.out q e).1)
      case measure => simp [intOf]; omega
    · obtain rfl : k = m + 1 := by omega
      have hfold := nested_fold HT.out.2.2.1 (by omega) (by omega) HT.out.2.2.2 (by rw [← HT.out.1]; omega) (by rw [← HT.out.2.1]; omega)
      rw [← HT.out.1, ← HT.out.2.1, ← hW, ← hH] at hfold
      have CI := implOpsFold_any A1 c1 (nested 6 6 t) wr (by rw [nested_length]; omega) (HR.out wr HB.out) HO.out.reads
      rw [hfold, nested_length, ← hn1] at CI
      have hnlt : ¬ ((m : Int) + 1 < 1 + (m : Int)) := by omega
      clear hfold hW hH hn1 hk1
      go_wp2_with fail
      refine CI.mono ?_
      rintro e w2 ⟨A4, c4, n4, rfl, rfl, ho4, b4⟩
      have HBE := Lib.hid (HB.out.trans (b4.mono HB.out.size))
      obtain ⟨b, o, _, rfl, -, -, -⟩ := ho4.reads.spot (k := 0) (Nat.zero_lt_succ _)
      obtain ⟨a0, a1, a2, a3, a4⟩ := op_at ho4.reads (i := 0) (x := ⟨1, x, y, W, H⟩) rfl
      simp only [Nat.zero_mul, Nat.add_zero] at a0 a1 a2 a3 a4
      simp only [List.length_cons, List.length_nil, Nat.zero_add]
      clear CI ho4 b4
      go_wp2_with fail
      go_ret
      exact ⟨rfl, HBE.out⟩
end Go.Proofs.YtiemlakjallphabDoor
