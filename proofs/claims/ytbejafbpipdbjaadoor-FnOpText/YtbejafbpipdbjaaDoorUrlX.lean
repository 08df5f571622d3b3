/-
  The reference cuts a text at a sign, and reads a number. Condition: the text has at most 2^20 bytes.
-/
import Derived.Test.YtbejafbpipdbjaaDoorUrlV
namespace Go.Proofs.YtbejafbpipdbjaaDoor
set_option maxRecDepth 4000
open Go.RowKit

theorem strOne (x : List UInt8) : ∀ u ∈ [Value.string (bs x)], u.oneCell' = true := by
  intro u hu
  simp only [List.mem_cons, List.not_mem_nil, or_false] at hu
  subst hu
  rfl
/-- Strings in a slice. -/
def strE : El (List UInt8) := { t := 9, n := 1, bytes := 16, z := .string ByteArray.empty, cells := fun x => [.string (bs x)], len := fun _ => rfl, one := strOne, pos := by decide, small := by decide, zlen := rfl, info := by kernel_rfl }
theorem bs_cut1 {l : List UInt8} {k : Nat} {x : UInt8} (h : l[k]? = some x) : (bs l).extract k (k + 1) = bs [x] := by
  obtain ⟨hi, rfl⟩ := List.getElem?_eq_some_iff.1 h
  rw [bs_cut, List.drop_eq_getElem_cons hi, show k + 1 - k = 1 from by omega]
  rfl
theorem drop_cons_at {l : List UInt8} {k : Nat} {x : UInt8} (h : l[k]? = some x) : l.drop k = x :: l.drop (k + 1) := by
  obtain ⟨hi, rfl⟩ := List.getElem?_eq_some_iff.1 h
  exact List.drop_eq_getElem_cons hi
set_option maxHeartbeats 2000000 in
/-- l7Cut. -/
theorem l7Cut_any (l : List UInt8) (c : UInt8) (w : World) (hl : l.length ≤ 1048576) :
    Calls Tryd.prog 43 #[.string (bs l), .int .u8 (c.toNat : Int)] w fun e w' =>
      ∃ A cp, e = .returned (.slice A (cutL c l).length cp) ∧ (cutL c l).length ≤ l.length + 1 ∧ strE.Own w' w.heap.size (.slice A (cutL c l).length cp) (cutL c l) ∧ Below w.heap.size w w' := by
  obtain ⟨n, hn⟩ : ∃ n, l.length = n := ⟨_, rfl⟩
  have sz : (bs l).size = n := by rw [bs_size, hn]
  have HN := Lib.hid hn
  have HL := Lib.hid hl
  have AT := Lib.hid fun (u : World) (i : Nat) (x : UInt8) (hx : l[i]? = some x) => bs_at u l .i64 i x hx
  have ho0 : strE.Own (w.alloc (.cells #[] 9)) w.heap.size (.slice (some ⟨w.heap.size, 0, none⟩) 0 0) [] := El.own_empty strE (Nat.le_refl _)
  have HO0 := Lib.hid ho0
  have HB0 := Lib.hid ((Below.refl _ w).alloc (Nat.le_refl _) (.cells #[] 9))
  have h0 : ByteArray.mk #[] = bs [] := rfl
  rw [hn] at hl
  clear ho0 hn
  go_enter Tryd.func43, Tryd.ntmps43
  go_wp2_with fail
  go_loopw [5, 6, 7] (fun o t i wr => ∃ (k : Nat) (A : Option Addr) (cp : Nat) (xs : List (List UInt8)) (v : List UInt8), k ≤ n ∧ i = .int .i64 (k : Int) ∧ o = .slice A xs.length cp ∧ t = .string (bs v) ∧ v.length ≤ k ∧ xs.length ≤ k ∧
      cutL c l = xs ++ preW v (cutL c (l.drop k)) ∧ strE.Own wr w.heap.size (.slice A xs.length cp) xs ∧ Below w.heap.size w wr) (fun _ _ i _ => n - (intOf i).toNat)
  case atStart => exact ⟨0, _, 0, [], [], Nat.zero_le _, rfl, rfl, rfl, Nat.le_refl _, Nat.le_refl _, by rw [List.drop_zero, preW_nil]; rfl, HO0.out, HB0.out⟩
  case round =>
    obtain ⟨k, A, cp, xs, v, hk, rfl, rfl, rfl, hv, hx, hc, ho, hb⟩ := hrel
    have HV := Lib.hid (And.intro hv hx)
    have HC := Lib.hid hc
    have HO := Lib.hid ho
    have HB := Lib.hid hb
    clear hv hx hc ho hb HO0 HB0
    by_cases hlt : k < n
    · obtain ⟨x, hx⟩ : ∃ x, l[k]? = some x := ⟨_, List.getElem?_eq_getElem (by rw [HN.out]; exact hlt)⟩
      have at1 := fun u => AT.out u k x hx
      have cut1 := bs_cut1 hx
      have HX := Lib.hid hx
      have hkI : (k : Int) < (n : Int) := by omega
      have hkJ : (k : Int) + 1 ≤ (n : Int) := by omega
      clear hx
      by_cases hxc : x = c
      · subst hxc
        obtain ⟨G, hG⟩ : ∃ G, wr.heap.size = G := ⟨_, rfl⟩
        have hGw : w.heap.size ≤ G := by rw [← hG]; exact HB.out.size
        have HBX : Hid (Box (wr.alloc (.cells #[.string (bs v)] 9)) G (strE.cells v).toArray 9) := Lib.hid (by rw [← hG]; exact Box.new wr _ _)
        have HOA : Hid (strE.Own (wr.alloc (.cells #[.string (bs v)] 9)) w.heap.size (.slice A xs.length cp) xs) := Lib.hid (El.Own.alloc (E := strE) HO.out _)
        go_wp2_with (at_builtin; refine El.wpList_append (E := strE) 64 Tryd.underlying64 rfl _ _ rfl w.heap.size (.slice A xs.length cp) xs rfl HOA.out ⟨G, 0, none⟩ 1 1 [v] rfl rfl (Box.news (E := strE) (x := v) HBX.out) (by decide) (by have := HV.out; have := HL.out; have := HN.out; omega) (by simp; omega) _ rfl ?_; intro g4 cap w4 hown4 hgr4 hg4 hcap4)
        have HB4 := Lib.hid ((HB.out.alloc HB.out.size (.cells #[.string (bs v)] 9)).grown hgr4 (Nat.le_trans HB.out.size (by simp)) (fun q hq => (World.ownsRow.lt HOA.out q hq).1))
        have HO4 := Lib.hid hown4
        have hl1 : xs.length + 1 = (xs ++ [v]).length := by simp
        clear hown4 hgr4 hg4 hcap4 HBX HOA
        go_roundw
        case rel =>
          refine ⟨k + 1, _, cap, xs ++ [v], [], by omega, by go_num, by rw [← hl1], rfl, by simp, by have := HV.out; simp; omega, ?_, by rw [← hl1]; exact HO4.out, HB4.out⟩
          rw [HC.out, drop_cons_at HX.out, preW_hit, preW_nil]
          simp
        case measure => simp [intOf]; omega
      · have hne : ¬ (x.toNat : Int) = (c.toNat : Int) := by
          intro h
          exact hxc (UInt8.toNat_inj.mp (by omega))
        have A1 := fun u => run_bs_add' v [x] (by have := HV.out; have := HL.out; have := HN.out; simp; omega) u
        go_wp2_with fail
        go_roundw
        case rel =>
          refine ⟨k + 1, A, cp, xs, v ++ [x], by omega, by go_num, rfl, rfl, by have := HV.out; simp; omega, by have := HV.out; omega, ?_, HO.out, HB.out⟩
          rw [HC.out, drop_cons_at HX.out, preW_on hxc]
        case measure => simp [intOf]; omega
    · obtain rfl : k = n := by omega
      obtain ⟨G, hG⟩ : ∃ G, wr.heap.size = G := ⟨_, rfl⟩
      have hGw : w.heap.size ≤ G := by rw [← hG]; exact HB.out.size
      have HBX : Hid (Box (wr.alloc (.cells #[.string (bs v)] 9)) G (strE.cells v).toArray 9) := Lib.hid (by rw [← hG]; exact Box.new wr _ _)
      have HOA : Hid (strE.Own (wr.alloc (.cells #[.string (bs v)] 9)) w.heap.size (.slice A xs.length cp) xs) := Lib.hid (El.Own.alloc (E := strE) HO.out _)
      have HE : Hid (cutL c l = xs ++ [v]) := Lib.hid (by rw [HC.out, List.drop_of_length_le (by rw [HN.out]; omega), preW_end])
      go_wp2_with (at_builtin; refine El.wpList_append (E := strE) 64 Tryd.underlying64 rfl _ _ rfl w.heap.size (.slice A xs.length cp) xs rfl HOA.out ⟨G, 0, none⟩ 1 1 [v] rfl rfl (Box.news (E := strE) (x := v) HBX.out) (by decide) (by have := HV.out; have := HL.out; have := HN.out; omega) (by simp; omega) _ rfl ?_; intro g4 cap w4 hown4 hgr4 hg4 hcap4)
      have HB4 := Lib.hid ((HB.out.alloc HB.out.size (.cells #[.string (bs v)] 9)).grown hgr4 (Nat.le_trans HB.out.size (by simp)) (fun q hq => (World.ownsRow.lt HOA.out q hq).1))
      have HO4 := Lib.hid hown4
      have hl1 : xs.length + 1 = (xs ++ [v]).length := by simp
      clear hown4 hgr4 hg4 hcap4 HBX HOA
      go_ret
      rw [HE.out]
      exact ⟨_, cap, by rw [← hl1]; rfl, by rw [← hl1]; have := HV.out; have := HN.out; omega, by rw [← hl1]; exact HO4.out, HB4.out⟩
theorem digitVal_some {x : UInt8} (h1 : 48 ≤ x.toNat) (h2 : x.toNat ≤ 57) : Go.Lib.digitVal x = some (x.toNat - 48) := by
  unfold Go.Lib.digitVal
  rw [if_pos ⟨h1, h2⟩]
theorem digitVal_none {x : UInt8} (h : ¬ (48 ≤ x.toNat ∧ x.toNat ≤ 57)) : Go.Lib.digitVal x = none := by
  unfold Go.Lib.digitVal
  rw [if_neg h]
theorem decFrom_none : ∀ (l : List UInt8) (acc : Nat) (k : Nat) (x : UInt8), l[k]? = some x → Go.Lib.digitVal x = none → Go.Lib.decFrom acc l = none
  | [], _, k, x, h, _ => by simp at h
  | a :: t, acc, 0, x, h, hx => by
    simp only [List.getElem?_cons_zero, Option.some.injEq] at h
    subst h
    simp [Go.Lib.decFrom, hx]
  | a :: t, acc, k + 1, x, h, hx => by
    simp only [List.getElem?_cons_succ] at h
    simp only [Go.Lib.decFrom]
    cases Go.Lib.digitVal a with
    | none => rfl
    | some d => exact decFrom_none t _ k x h hx
set_option maxHeartbeats 1000000 in
/-- l7Num. -/
theorem l7Num_any (l : List UInt8) (w : World) (hl : l.length ≤ 1048576) :
    Calls Tryd.prog 44 #[.string (bs l)] w fun e w' => e = .returned (.int .i64 (num4 l)) ∧ Below w.heap.size w w' := by
  obtain ⟨n, hn⟩ : ∃ n, l.length = n := ⟨_, rfl⟩
  have sz : (bs l).size = n := by rw [bs_size, hn]
  have HN := Lib.hid hn
  have AT := Lib.hid fun (u : World) (i : Nat) (x : UInt8) (hx : l[i]? = some x) => bs_at u l .i64 i x hx
  have hq : ∀ a b : List UInt8, ((bs a).toList == (bs b).toList) = decide (a = b) := bs_eq
  obtain ⟨q, hqq⟩ : ∃ q, num4 l = q := ⟨_, rfl⟩
  have HQ := Lib.hid hqq
  rw [hn] at hl
  rw [hqq]
  clear hn hqq
  by_cases h0 : (n : Int) = 0
  · obtain rfl : q = -1 := by rw [← HQ.out]; unfold num4; rw [if_pos (.inl (by rw [HN.out]; omega))]
    obtain rfl : n = 0 := by omega
    clear h0
    go_enter Tryd.func44, Tryd.ntmps44
    go_wp2_with fail
    go_ret
    exact ⟨rfl, Below.refl _ _⟩
  by_cases h4 : (n : Int) > 4
  · obtain rfl : q = -1 := by rw [← HQ.out]; unfold num4; rw [if_pos (.inr (by rw [HN.out]; omega))]
    have h0' : ((n : Int) == 0) = false := by simp; omega
    clear h0
    go_enter Tryd.func44, Tryd.ntmps44
    go_wp2_with fail
    go_ret
    exact ⟨rfl, Below.refl _ _⟩
  have HP : Hid (q = match Go.Lib.decFrom 0 l with
    | none => -1
    | some m => if Go.Lib.decDigits m = l then (m : Int) else -1) := Lib.hid (by rw [← HQ.out]; unfold num4; rw [if_neg (by rw [HN.out]; omega)]; cases Go.Lib.decFrom 0 l <;> rfl)
  have h0' : ((n : Int) == 0) = false := by simp; omega
  clear h0
  go_enter Tryd.func44, Tryd.ntmps44
  go_wp2_with fail
  go_loopw [3, 4] (fun v i wr => ∃ k m : Nat, k ≤ n ∧ i = .int .i64 (k : Int) ∧ v = .int .i64 (m : Int) ∧ Go.Lib.decFrom 0 (l.take k) = some m ∧ m < 10 ^ k ∧ Below w.heap.size w wr) (fun _ i _ => n - (intOf i).toNat)
  case atStart => exact ⟨0, 0, Nat.zero_le _, rfl, rfl, rfl, by decide, Below.refl _ _⟩
  case round =>
    obtain ⟨k, m, hk, rfl, rfl, hd, hm, hb⟩ := hrel
    have HD := Lib.hid hd
    have HB := Lib.hid hb
    have HM := Lib.hid hm
    have hm4 : m ≤ 10000 := by
      have : 10 ^ k ≤ 10 ^ 4 := Nat.pow_le_pow_right (by decide) (by omega)
      omega
    clear hd hb hm
    by_cases hlt : k < n
    · obtain ⟨x, hx⟩ : ∃ x, l[k]? = some x := ⟨_, List.getElem?_eq_getElem (by rw [HN.out]; exact hlt)⟩
      have at1 := fun u => AT.out u k x hx
      have HX := Lib.hid hx
      have hkI : (k : Int) < (n : Int) := by omega
      clear hx
      by_cases hlo : 48 ≤ x.toNat
      · by_cases hhi : x.toNat ≤ 57
        · obtain ⟨d, hd⟩ : ∃ d : Nat, x.toNat - 48 = d := ⟨_, rfl⟩
          have e1 : (x.toNat : Int) - 48 = (d : Int) := by omega
          have hd9 : d ≤ 9 := by omega
          have HS : Hid (Go.Lib.decFrom 0 (l.take (k + 1)) = some (m * 10 + d)) := Lib.hid (Go.Lib.decFrom_take l k 0 m x d HD.out HX.out (by rw [digitVal_some hlo hhi, hd]))
          have HS2 : Hid (m * 10 + d < 10 ^ (k + 1)) := Lib.hid (by rw [Nat.pow_succ]; have := HM.out; omega)
          have hloI : ¬ (x.toNat : Int) < 48 := by omega
          have hhiI : ¬ (x.toNat : Int) > 57 := by omega
          clear hd hlo hhi
          go_wp2_with fail
          go_roundw
          case rel => exact ⟨k + 1, m * 10 + d, by omega, by go_num, by go_num, HS.out, HS2.out, HB.out⟩
          case measure => simp [intOf]; omega
        · have HF : Hid (q = -1) := Lib.hid (by rw [HP.out, decFrom_none l 0 k x HX.out (digitVal_none (by omega))])
          have hloI : ¬ (x.toNat : Int) < 48 := by omega
          have hhiI : (x.toNat : Int) > 57 := by omega
          clear hlo hhi
          go_wp2_with fail
          go_ret
          exact ⟨by rw [HF.out]; rfl, HB.out⟩
      · have HF : Hid (q = -1) := Lib.hid (by rw [HP.out, decFrom_none l 0 k x HX.out (digitVal_none (by omega))])
        have hloI : (x.toNat : Int) < 48 := by omega
        clear hlo
        go_wp2_with fail
        go_ret
        exact ⟨by rw [HF.out]; rfl, HB.out⟩
    · obtain rfl : k = n := by omega
      have CP := Lib.hid (plain_any m wr (by omega))
      have HE : Hid (q = if Go.Lib.decDigits m = l then (m : Int) else -1) := Lib.hid (by
        have := HD.out
        rw [← HN.out, List.take_length] at this
        rw [HP.out, this])
      by_cases he : Go.Lib.decDigits m = l
      · obtain rfl : q = (m : Int) := by rw [HE.out, if_pos he]
        go_wp2_with fail
        refine CP.out.mono ?_
        rintro e w2 ⟨rfl, b2⟩
        have HB2 := Lib.hid (HB.out.trans (b2.mono HB.out.size))
        clear b2
        go_wp2_with fail
        go_ret
        exact ⟨rfl, HB2.out⟩
      · obtain rfl : q = -1 := by rw [HE.out, if_neg he]
        go_wp2_with fail
        refine CP.out.mono ?_
        rintro e w2 ⟨rfl, b2⟩
        have HB2 := Lib.hid (HB.out.trans (b2.mono HB.out.size))
        clear b2
        go_wp2_with fail
        go_ret
        exact ⟨rfl, HB2.out⟩
end Go.Proofs.YtbejafbpipdbjaaDoor
