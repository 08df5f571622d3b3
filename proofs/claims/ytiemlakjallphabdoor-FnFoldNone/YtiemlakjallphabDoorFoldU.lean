/-
  OpsFold of the reference. Conditions as they stand.
-/
import Derived.Test.YtiemlakjallphabDoorFoldQ
import Derived.Test.YtiemlakjallphabDoorRegT
import Derived.Test.YtiemlakjallphabDoorOpsI
namespace Go.Proofs.YtiemlakjallphabDoor
set_option maxRecDepth 4000
open Go.RowKit

theorem head1_two {l : List Op} {k : Nat} {x y : Op} (hx : l[k]? = some x) (hy : l[k + 1]? = some y) (h4 : four (l.drop k) = false) : head1 (l.drop k) = (pairR x y).map (· ++ l.drop (k + 2)) := by
  obtain ⟨h1, e1⟩ := List.getElem?_eq_some_iff.1 hx
  obtain ⟨h2, e2⟩ := List.getElem?_eq_some_iff.1 hy
  have e : l.drop k = x :: y :: l.drop (k + 2) := by
    rw [List.drop_eq_getElem_cons h1, e1, List.drop_eq_getElem_cons h2, e2]
  unfold head1
  rw [h4, if_neg (by decide)]
  rw [e]
theorem head1_one {l : List Op} {k : Nat} (h : l.length = k + 1) (h4 : four (l.drop k) = false) : head1 (l.drop k) = none := by
  unfold head1
  rw [h4, if_neg (by decide)]
  have hl : (l.drop k).length = 1 := by rw [List.length_drop]; omega
  match hd : l.drop k, hl with
  | [a], _ => rfl
theorem head1_four {l : List Op} {k : Nat} (h4 : four (l.drop k) = true) : head1 (l.drop k) = some (l.drop (k + 4)) := by
  unfold head1
  rw [if_pos h4, List.drop_drop]
theorem op_get {l : List Op} {k : Nat} {x : Op} (ha : l.all opB = true) (hx : l[k]? = some x) : opB x = true := List.all_eq_true.1 ha x (List.mem_of_getElem? hx)
set_option maxHeartbeats 4000000 in
theorem l6Fold_any (A : Option Addr) (c : Nat) (l : List Op) (w : World) (hl : l.length ≤ 1000) (hlc : l.length ≤ c) (hal : l.all opB = true) (h : opE.Has w w.heap.size A l) :
    Calls Tryd.prog 47 #[.slice A l.length c] w fun e w' => ∃ A' c', e = .returned (.tuple #[.slice A' ((foldO l).getD l).length c', .bool (foldO l).isSome]) ∧ ((foldO l).getD l).length ≤ c' ∧ opE.Has w' w'.heap.size A' ((foldO l).getD l) ∧ Below w.heap.size w w' := by
  obtain ⟨r, hr⟩ : ∃ r, foldO l = r := ⟨_, rfl⟩
  have HR := Lib.hid hr
  obtain ⟨N, hN⟩ : ∃ N, l.length = N := ⟨_, rfl⟩
  have HN := Lib.hid hN
  have HH := Lib.hid fun u (hb : Below w.heap.size w u) => h.below hb
  have HAL := Lib.hid hal
  have HLC := Lib.hid hlc
  have HL := Lib.hid hl
  have CF : Hid (∀ u (k : Nat), k ≤ N → Below w.heap.size w u → Calls Tryd.prog 77 #[.slice A N c, .int .i64 (k : Int)] u fun e w' => e = .returned (.bool (four (l.drop k))) ∧ Below u.heap.size u w') := Lib.hid fun u k hk hb => by
    have := l6Four_any A c l k u (by omega) hl ((HH.out u hb).wider hb.size)
    rw [hN] at this
    exact this
  have CT4 : Hid (∀ u (b d k : Nat) A2 c2, A = some ⟨b, d, none⟩ → k + 4 ≤ N → Below w.heap.size w u → Calls Tryd.prog 78 #[.slice (some ⟨b, d, none⟩) N c, .int .i64 (k : Int), .int .i64 4, .slice A2 0 c2] u fun e w' => ∃ A' c' n', n' = (l.take k ++ l.drop (k + 4)).length ∧ e = .returned (.slice A' n' c') ∧ opE.Own w' u.heap.size (.slice A' n' c') (l.take k ++ l.drop (k + 4)) ∧ Below u.heap.size u w') := Lib.hid fun u b d k A2 c2 hA hk hb => by
    subst hA
    have := l6Put_any b d c l k 4 A2 c2 [] u (by omega) hlc hl (Nat.zero_le _) ((HH.out u hb).wider hb.size) El.Has.nil
    rw [hN] at this
    simp only [List.append_nil] at this
    exact this.mono fun e w' ⟨A', c', h1, h2, h3⟩ => ⟨A', c', _, rfl, h1, h2, h3⟩
  have CT2 : Hid (∀ u (b d k : Nat) A2 c2 (m : List Op) (M : Nat), m.length = M → A = some ⟨b, d, none⟩ → k + 2 ≤ N → m.length ≤ 1000 → opE.Has u u.heap.size A2 m → Below w.heap.size w u → Calls Tryd.prog 78 #[.slice (some ⟨b, d, none⟩) N c, .int .i64 (k : Int), .int .i64 2, .slice A2 M c2] u fun e w' => ∃ A' c' n', n' = (l.take k ++ m ++ l.drop (k + 2)).length ∧ e = .returned (.slice A' n' c') ∧ opE.Own w' u.heap.size (.slice A' n' c') (l.take k ++ m ++ l.drop (k + 2)) ∧ Below u.heap.size u w') := Lib.hid fun u b d k A2 c2 m M hM hA hk hm hh hb => by
    subst hA hM
    have := l6Put_any b d c l k 2 A2 c2 m u (by omega) hlc hl hm ((HH.out u hb).wider hb.size) hh
    rw [hN] at this
    exact this.mono fun e w' ⟨A', c', h1, h2, h3⟩ => ⟨A', c', _, rfl, h1, h2, h3⟩
  rw [hN] at hl hlc ⊢
  rw [hr]
  clear h hN hr hal
  go_enter Tryd.func47, Tryd.ntmps47
  go_wp2_with fail
  go_loopw [4] (fun v wr => ∃ k : Nat, k ≤ N ∧ v = .int .i64 (k : Int) ∧ (∀ j, j < k → head1 (l.drop j) = none) ∧ Below w.heap.size w wr) (fun v _ => N - (intOf v).toNat)
  case atStart => exact ⟨0, Nat.zero_le _, rfl, fun j hj => absurd hj (Nat.not_lt_zero _), Below.refl _ _⟩
  case round =>
    obtain ⟨k, hk, rfl, hno, hb⟩ := hrel
    have HNO := Lib.hid hno
    have HB := Lib.hid hb
    clear hno hb
    by_cases hlt : k < N
    · obtain ⟨b, d, x, rfl, hbB, hx, hc⟩ := (HH.out wr HB.out).spot (k := k) (by rw [HN.out]; exact hlt)
      have HX := Lib.hid hx
      clear hx hc hbB
      have hkI : (k : Int) < (N : Int) := by omega
      go_wp2_with fail
      refine (CF.out wr k hk HB.out).mono ?_
      rintro e w1 ⟨rfl, b1⟩
      have HB1 := Lib.hid (HB.out.trans (b1.mono HB.out.size))
      obtain ⟨p, hp⟩ : ∃ p, four (l.drop k) = p := ⟨_, rfl⟩
      have HP := Lib.hid hp
      rw [hp]
      clear b1 hp
      cases p
      case true =>
        have hk4 : k + 4 ≤ N := by
          have := HP.out
          unfold four at this
          have := of_decide_eq_true (Bool.and_eq_true_iff.1 this).1
          rw [List.length_drop, HN.out] at this
          omega
        obtain rfl : r = some (l.take k ++ l.drop (k + 4)) := by rw [← HR.out]; exact foldO_at (by rw [HN.out]; exact hlt) HNO.out (head1_four HP.out)
        have HBA := Lib.hid (HB1.out.alloc HB1.out.size (.cells #[] 49))
        go_wp2_with fail
        refine (CT4.out _ b d k _ _ rfl hk4 HBA.out).mono ?_
        rintro e w2 ⟨A', c', n', hn', rfl, ho, b2⟩
        have HNN := Lib.hid hn'
        have HO := Lib.hid ho
        have HB2 := Lib.hid (HBA.out.trans (b2.mono HBA.out.size))
        clear ho b2 hn'
        go_wp2_with fail
        go_ret2
        exact ⟨A', c', by rw [Option.getD_some, ← HNN.out]; rfl, HO.out.len.2, HO.out.reads, HB2.out⟩
      obtain ⟨m, hm⟩ : ∃ m, k + 1 = m := ⟨_, rfl⟩
      have hmI : (k : Int) + 1 = (m : Int) := by omega
      have um := IntWalk.i64_in (m : Int) (by have := HL.out; rw [HN.out] at this; omega)
      by_cases hmN : m < N
      · obtain ⟨_, _, y, hA', _, hy, hcy⟩ := (HH.out w1 HB1.out).spot (k := m) (by rw [HN.out]; exact hmN)
        cases hA'
        have HY := Lib.hid hy
        clear hy hcy
        have hmlt : (m : Int) < (N : Int) := by omega
        have hp1 : (0 : Int) ≤ (k : Int) ∧ (k : Int) < (N : Int) := by omega
        have hp2 : (0 : Int) ≤ (m : Int) ∧ (m : Int) < (N : Int) := by omega
        have CX := Lib.hid fun u (hb : Below w.heap.size w u) => op_at (HH.out u hb) HX.out
        have CY := Lib.hid fun u (hb : Below w.heap.size w u) => op_at (HH.out u hb) HY.out
        have hpr := head1_two (x := x) (y := y) HX.out (by rw [hm]; exact HY.out) HP.out
        obtain ⟨s, hs⟩ : ∃ s, pairR x y = s := ⟨_, rfl⟩
        have hsl : (s.getD []).length ≤ 1 := by
          rw [← hs]
          cases hq : pairR x y
          · exact Nat.zero_le _
          · exact pairR_le hq
        rw [hs] at hpr
        have HPR := Lib.hid hpr
        have HSL := Lib.hid hsl
        have CP : Hid (∀ u, Calls Tryd.prog 79 #[.agg #[.int .i64 x.k, .int .i64 x.a, .int .i64 x.b, .int .i64 x.c, .int .i64 x.d], .agg #[.int .i64 y.k, .int .i64 y.a, .int .i64 y.b, .int .i64 y.c, .int .i64 y.d]] u (Gave s u)) := Lib.hid fun u => by rw [← hs]; exact l6Pair_any x y (op_get HAL.out HX.out) (op_get HAL.out HY.out) u
        have HS0 : Hid (Below w.heap.size w w1.drew) := Lib.hid (below_draws HB1.out 1)
        clear hpr hsl hs
        go_wp2_with fail
        refine wp_region_T (fun w' => Below w.heap.size w w') 14 (by kernel_rfl) ?_
        refine wpAnyT_take (i := 0) (d := 26) (v := .slice (some ⟨b, d, none⟩) N c) rfl rfl (by kernel_rfl) (by kernel_rfl) (by kernel_rfl) (by kernel_rfl) (by kernel_rfl) (fun _ _ _ h => h) HS0.out (Or.inl ⟨by rfl, fun w' hS' => ?_⟩) ?_
        · have s := hS'
          go_simp
        simp only [Act.put, List.setIfInBounds_toArray, List.set_cons_zero, List.set_cons_succ]
        refine wpAnyT_take (i := 1) (d := 27) (v := .int .i64 (k : Int)) rfl rfl (by kernel_rfl) (by kernel_rfl) (by kernel_rfl) (by kernel_rfl) (by kernel_rfl) (fun _ _ _ h => h) HS0.out (Or.inl ⟨by rfl, fun w' hS' => ?_⟩) ?_
        · have s := hS'
          go_simp
        simp only [Act.put, List.setIfInBounds_toArray, List.set_cons_zero, List.set_cons_succ]
        refine wpAnyT_take (i := 2) (d := 28) (v := .pointer (some ⟨b, d + k * 5, none⟩)) rfl rfl (by kernel_rfl) (by kernel_rfl) (by kernel_rfl) (by kernel_rfl) (by kernel_rfl) (fun _ _ _ h => h) HS0.out (Or.inl ⟨by rfl, fun w' hS' => ?_⟩) ?_
        · have s := hS'
          go_simp
        simp only [Act.put, List.setIfInBounds_toArray, List.set_cons_zero, List.set_cons_succ]
        refine wpAnyT_take (i := 3) (d := 29) (v := .agg #[.int .i64 x.k, .int .i64 x.a, .int .i64 x.b, .int .i64 x.c, .int .i64 x.d]) rfl rfl (by kernel_rfl) (by kernel_rfl) (by kernel_rfl) (by kernel_rfl) (by kernel_rfl) (fun _ _ _ h => h) HS0.out (Or.inl ⟨by rfl, fun w' hS' => ?_⟩) ?_
        · have s := hS'
          obtain ⟨cx0, cx1, cx2, cx3, cx4⟩ := CX.out w' s
          obtain ⟨cy0, cy1, cy2, cy3, cy4⟩ := CY.out w' s
          go_simp
        simp only [Act.put, List.setIfInBounds_toArray, List.set_cons_zero, List.set_cons_succ]
        refine wpAnyT_take (i := 4) (d := 30) (v := .slice (some ⟨b, d, none⟩) N c) rfl rfl (by kernel_rfl) (by kernel_rfl) (by kernel_rfl) (by kernel_rfl) (by kernel_rfl) (fun _ _ _ h => h) HS0.out (Or.inl ⟨by rfl, fun w' hS' => ?_⟩) ?_
        · have s := hS'
          go_simp
        simp only [Act.put, List.setIfInBounds_toArray, List.set_cons_zero, List.set_cons_succ]
        refine wpAnyT_take (i := 5) (d := 31) (v := .int .i64 (k : Int)) rfl rfl (by kernel_rfl) (by kernel_rfl) (by kernel_rfl) (by kernel_rfl) (by kernel_rfl) (fun _ _ _ h => h) HS0.out (Or.inl ⟨by rfl, fun w' hS' => ?_⟩) ?_
        · have s := hS'
          go_simp
        simp only [Act.put, List.setIfInBounds_toArray, List.set_cons_zero, List.set_cons_succ]
        refine wpAnyT_take (i := 6) (d := 32) (v := .int .i64 (m : Int)) rfl rfl (by kernel_rfl) (by kernel_rfl) (by kernel_rfl) (by kernel_rfl) (by kernel_rfl) (fun _ _ _ h => h) HS0.out (Or.inl ⟨by rfl, fun w' hS' => ?_⟩) ?_
        · have s := hS'
          go_simp
        simp only [Act.put, List.setIfInBounds_toArray, List.set_cons_zero, List.set_cons_succ]
        refine wpAnyT_take (i := 7) (d := 33) (v := .pointer (some ⟨b, d + m * 5, none⟩)) rfl rfl (by kernel_rfl) (by kernel_rfl) (by kernel_rfl) (by kernel_rfl) (by kernel_rfl) (fun _ _ _ h => h) HS0.out (Or.inl ⟨by rfl, fun w' hS' => ?_⟩) ?_
        · have s := hS'
          go_simp
        simp only [Act.put, List.setIfInBounds_toArray, List.set_cons_zero, List.set_cons_succ]
        refine wpAnyT_take (i := 8) (d := 34) (v := .agg #[.int .i64 y.k, .int .i64 y.a, .int .i64 y.b, .int .i64 y.c, .int .i64 y.d]) rfl rfl (by kernel_rfl) (by kernel_rfl) (by kernel_rfl) (by kernel_rfl) (by kernel_rfl) (fun _ _ _ h => h) HS0.out (Or.inl ⟨by rfl, fun w' hS' => ?_⟩) ?_
        · have s := hS'
          obtain ⟨cx0, cx1, cx2, cx3, cx4⟩ := CX.out w' s
          obtain ⟨cy0, cy1, cy2, cy3, cy4⟩ := CY.out w' s
          go_simp
        simp only [Act.put, List.setIfInBounds_toArray, List.set_cons_zero, List.set_cons_succ]
        refine wpAnyT_one (i := 9) (by kernel_rfl) rfl (fun K hK => ?_)
        go_simp
        refine (CP.out _).mono ?_
        rintro e w4 ⟨A2, c2, rfl, hc2, hh2, b4⟩
        have HB4 := Lib.hid (HS0.out.trans (b4.mono HS0.out.size))
        have HH2 := Lib.hid hh2
        have HC2 := Lib.hid hc2
        refine hK.out _ _ (fun _ => HB4.out) ?_
        clear hK b4 hh2 hc2
        try simp only [Act.put, List.setIfInBounds_toArray, List.set_cons_zero, List.set_cons_succ]
        refine wpAnyT_take (i := 10) (d := 25) (v := .tuple #[.slice A2 (s.getD []).length c2, .bool s.isSome]) rfl rfl (by kernel_rfl) (by kernel_rfl) (by kernel_rfl) (by kernel_rfl) (by kernel_rfl) (fun _ _ _ h => h) HB4.out (Or.inl ⟨by rfl, fun w' hS' => ?_⟩) ?_
        · have s := hS'
          go_simp
        simp only [Act.put, List.setIfInBounds_toArray, List.set_cons_zero, List.set_cons_succ]
        refine wpAnyT_take (i := 11) (d := 36) (v := .slice A2 (s.getD []).length c2) rfl rfl (by kernel_rfl) (by kernel_rfl) (by kernel_rfl) (by kernel_rfl) (by kernel_rfl) (fun _ _ _ h => h) HB4.out (Or.inl ⟨by rfl, fun w' hS' => ?_⟩) ?_
        · have s := hS'
          go_simp
        simp only [Act.put, List.setIfInBounds_toArray, List.set_cons_zero, List.set_cons_succ]
        refine wpAnyT_take (i := 12) (d := 37) (v := .bool s.isSome) rfl rfl (by kernel_rfl) (by kernel_rfl) (by kernel_rfl) (by kernel_rfl) (by kernel_rfl) (fun _ _ _ h => h) HB4.out (Or.inl ⟨by rfl, fun w' hS' => ?_⟩) ?_
        · have s := hS'
          go_simp
        simp only [Act.put, List.setIfInBounds_toArray, List.set_cons_zero, List.set_cons_succ]
        refine wpAnyT_one (i := 13) (by kernel_rfl) rfl (fun K hK => ?_)
        go_simp
        refine hK.out _ _ (fun _ => HB4.out) ?_
        clear hK
        try simp only [Act.put, List.setIfInBounds_toArray, List.set_cons_zero, List.set_cons_succ]
        refine wpAnyT_one (i := 14) (by kernel_rfl) rfl (fun K hK => ?_)
        go_simp
        refine hK.out _ _ (fun h => absurd h (by decide)) ?_
        clear hK
        try simp only [Act.put, List.setIfInBounds_toArray, List.set_cons_zero, List.set_cons_succ]
        refine wpAnyT_done (by kernel_rfl) ?_ _
        cases s with
        | none =>
          have HNN : Hid (∀ j, j < k + 1 → head1 (l.drop j) = none) := Lib.hid fun j (hj : j < k + 1) => by
            by_cases e : j = k
            · subst e
              exact HPR.out
            · exact HNO.out j (by omega)
          go_wp2_with fail
          go_roundw
          case rel => exact ⟨k + 1, by omega, by go_num, HNN.out, HB4.out⟩
          case measure => simp [intOf]; omega
        | some s =>
          obtain rfl : r = some (l.take k ++ s ++ l.drop (k + 2)) := by rw [← HR.out, List.append_assoc]; exact foldO_at (by rw [HN.out]; exact hlt) HNO.out HPR.out
          obtain ⟨M, hM⟩ : ∃ M, s.length = M := ⟨_, rfl⟩
          have HM := Lib.hid hM
          have hm1 : M ≤ 1 := by rw [← hM]; exact HSL.out
          simp only [Option.getD_some, Option.isSome_some, hM]
          clear hM
          go_wp2_with fail
          refine (CT2.out _ b d k _ _ s M HM.out rfl (by omega) (by rw [HM.out]; omega) HH2.out HB4.out).mono ?_
          rintro e w5 ⟨A', c', n', hn', rfl, ho, b5⟩
          have HNN := Lib.hid hn'
          have HO := Lib.hid ho
          have HB5 := Lib.hid (HB4.out.trans (b5.mono HB4.out.size))
          clear ho b5 hn'
          go_wp2_with fail
          go_ret2
          exact ⟨A', c', by rw [Option.getD_some, ← HNN.out]; rfl, HO.out.len.2, HO.out.reads, HB5.out⟩
      · have hge : (N : Int) ≤ (m : Int) := by omega
        have HNN : Hid (∀ j, j < k + 1 → head1 (l.drop j) = none) := Lib.hid fun j (hj : j < k + 1) => by
          by_cases e : j = k
          · subst e
            exact head1_one (by rw [HN.out]; omega) HP.out
          · exact HNO.out j (by omega)
        go_wp2_with fail
        go_roundw
        case rel => exact ⟨k + 1, by omega, by go_num, HNN.out, HB1.out⟩
        case measure => simp [intOf]; omega
    · obtain rfl : k = N := by omega
      obtain rfl : r = none := by rw [← HR.out]; exact foldO_none fun j hj => HNO.out j (by rw [HN.out] at hj; exact hj)
      go_wp2_with fail
      go_ret2
      exact ⟨A, c, by rw [Option.getD_none, HN.out]; rfl, by rw [Option.getD_none]; exact HLC.out, (HH.out _ HB.out).wider HB.out.size, HB.out⟩
end Go.Proofs.YtiemlakjallphabDoor
namespace Go.Proofs.YtiemlakjallphabDoor
set_option maxRecDepth 4000
open Go.RowKit

/-- A list of operations that a call answers. -/
def GaveL (r : List Op) (w : World) (e : Ending) (w' : World) : Prop :=
  ∃ A c, e = .returned (.slice A r.length c) ∧ r.length ≤ c ∧ opE.Has w' w'.heap.size A r ∧ Below w.heap.size w w'
/-- A list under way: what it folds to is what the first one folds to; b: whether there may be more. -/
def Way (l : List Op) (w : World) (b : Bool) (v : Value) (u : World) : Prop :=
  ∃ (cur : List Op) (A : Option Addr) (c n : Nat), n = cur.length ∧ v = .slice A n c ∧ foldR cur = foldR l ∧ (b = false → foldO cur = none) ∧ cur.all opB = true ∧ cur.length ≤ 5 ∧ cur.length ≤ c ∧ opE.Has u u.heap.size A cur ∧ Below w.heap.size w u
theorem opsFold_ok {l : List Op} (h : opsB l = true) : opsFold l = foldR l := by unfold opsFold; rw [if_pos h]
theorem opsFold_bad {l : List Op} (h : opsB l = false) : opsFold l = [] := by unfold opsFold; rw [h]; rfl
theorem opsB_of {l : List Op} (h : opsB l = true) : l.all opB = true ∧ l.length ≤ 5 := by
  unfold opsB at h
  rw [Bool.and_eq_true] at h
  exact ⟨h.1, of_decide_eq_true h.2⟩
set_option maxHeartbeats 4000000 in
theorem specOpsFold_any (A : Option Addr) (c : Nat) (l : List Op) (w : World) (hs : l.length ≤ 1073741824) (h : opE.Has w w.heap.size A l) :
    Calls Tryd.prog 21 #[.slice A l.length c] w (GaveL (opsFold l) w) := by
  have CA := Lib.hid (specL6All_any A c l w hs h)
  obtain ⟨N, hN⟩ : ∃ N, l.length = N := ⟨_, rfl⟩
  have HN := Lib.hid hN
  have HH := Lib.hid fun u (hb : Below w.heap.size w u) => h.below hb
  rw [hN] at hs CA ⊢
  obtain ⟨q, hq⟩ : ∃ q, opsB l = q := ⟨_, rfl⟩
  have HQ := Lib.hid hq
  rw [hq] at CA
  clear h hN hq
  have C0 := CA.out
  clear CA
  cases q
  case false =>
    go_enter Tryd.func21, Tryd.ntmps21
    go_wp2_with fail
    refine C0.mono ?_
    rintro e w1 ⟨rfl, b1⟩
    have HB1 := Lib.hid b1
    clear b1
    go_wp2_with fail
    go_ret
    exact ⟨_, _, by rw [opsFold_bad HQ.out]; rfl, by rw [opsFold_bad HQ.out]; exact Nat.zero_le _, by rw [opsFold_bad HQ.out]; exact El.Has.nil, HB1.out.alloc HB1.out.size _⟩
  have hn5 : N ≤ 5 := by rw [← HN.out]; exact (opsB_of HQ.out).2
  have HO0 : Hid (∀ u, Below w.heap.size w u → opE.Own (u.alloc (.cells #[] 49)) w.heap.size (.slice (some ⟨u.heap.size, 0, none⟩) 0 0) []) := Lib.hid fun u hb => El.own_empty opE hb.size
  go_enter Tryd.func21, Tryd.ntmps21
  go_wp2_with fail
  refine C0.mono ?_
  rintro e w1 ⟨rfl, b1⟩
  have HB1 := Lib.hid b1
  have HBA := Lib.hid (b1.alloc b1.size (.cells #[] 49))
  have HO1 := Lib.hid (HO0.out w1 b1)
  clear b1
  go_wp2_with (at_builtin; refine El.wpList_pushAll (E := opE) 34 Tryd.underlying34 rfl (.tmp 9) (.tmp 10) rfl w.heap.size (.slice (some ⟨w1.heap.size, 0, none⟩) 0 0) [] rfl HO1.out w.heap.size A c N l HN.out (HH.out _ HBA.out) rfl (by simp; omega) HBA.out.size ?_; intro A3 c3 w3 ho3 hg3; rw [List.nil_append, HN.out] at ho3; rw [List.nil_append, HN.out]; have HB3 := Lib.hid (HBA.out.grown hg3 HBA.out.size (fun q e => (World.ownsRow.lt HO1.out q e).1)); have HO3 := Lib.hid ho3; clear ho3 hg3)
  go_loopw [3, 4] (fun v m wr => ∃ b, m = .bool b ∧ Way l w b v wr) (fun v m _ => match v, m with | .slice _ n _, .bool b => 2 * n + b.toNat | _, _ => 0)
  case atStart => exact ⟨true, rfl, l, A3, c3, N, HN.out.symm, rfl, rfl, fun h => absurd h (by decide), (opsB_of HQ.out).1, (opsB_of HQ.out).2, HO3.out.len.2, HO3.out.reads, HB3.out⟩
  case round =>
    obtain ⟨b, rfl, cur, A1, c1, n, hn, rfl, hf, hno, hal, h5, hc, hh, hb⟩ := hrel
    have HF := Lib.hid hf
    have HNO := Lib.hid hno
    have HAL := Lib.hid hal
    have HHC := Lib.hid hh
    have HB := Lib.hid hb
    have HNC := Lib.hid hn
    have H5 := Lib.hid h5
    have HC := Lib.hid hc
    have CL := Lib.hid (l6Fold_any A1 c1 cur wr (by omega) hc hal hh)
    rw [← hn] at CL
    clear hf hno hal hh hb h5 hc hn
    cases b
    case false =>
      have hr : opsFold l = cur := by rw [opsFold_ok HQ.out, ← HF.out, foldR_stop (HNO.out rfl)]
      go_wp2_with fail
      go_ret
      exact ⟨A1, c1, by rw [← HNC.out]; rfl, HC.out, HHC.out, HB.out⟩
    case true =>
      cases hfo : foldO cur with
      | none =>
        rw [hfo] at CL
        simp only [Option.getD_none, Option.isSome_none, ← HNC.out] at CL
        have HFO := Lib.hid hfo
        have C1 := CL.out
        clear hfo CL
        go_wp2_with fail
        refine C1.mono ?_
        rintro e w2 ⟨A2, c2, rfl, hc2, hh2, b2⟩
        have HE : Hid (Way l w false (.slice A2 n c2) w2) := Lib.hid ⟨cur, A2, c2, n, HNC.out, rfl, HF.out, fun _ => HFO.out, HAL.out, H5.out, by rw [← HNC.out]; exact hc2, hh2, HB.out.trans (b2.mono HB.out.size)⟩
        clear C1 hc2 hh2 b2
        go_wp2_with fail
        go_roundw
        case rel => exact ⟨false, rfl, HE.out⟩
        case measure => simp
      | some s =>
        rw [hfo] at CL
        simp only [Option.getD_some, Option.isSome_some] at CL
        have HFO := Lib.hid hfo
        have hlt := foldO_lt hfo
        obtain ⟨m, hm⟩ : ∃ m, s.length = m := ⟨_, rfl⟩
        have HM := Lib.hid hm
        rw [hm] at CL hlt
        rw [← HNC.out] at hlt
        have C1 := CL.out
        clear hfo CL hm
        go_wp2_with fail
        refine C1.mono ?_
        rintro e w2 ⟨A2, c2, rfl, hc2, hh2, b2⟩
        have HE : Hid (Way l w true (.slice A2 m c2) w2) := Lib.hid ⟨s, A2, c2, m, HM.out.symm, rfl, by rw [← foldR_step HFO.out]; exact HF.out, fun h => absurd h (by decide), foldO_ok HAL.out HFO.out, by rw [HM.out]; have := H5.out; rw [← HNC.out] at this; omega, by rw [HM.out]; exact hc2, hh2, HB.out.trans (b2.mono HB.out.size)⟩
        clear C1 hc2 hh2 b2
        go_wp2_with fail
        go_roundw
        case rel => exact ⟨true, rfl, HE.out⟩
        case measure => simp; omega
end Go.Proofs.YtiemlakjallphabDoor
