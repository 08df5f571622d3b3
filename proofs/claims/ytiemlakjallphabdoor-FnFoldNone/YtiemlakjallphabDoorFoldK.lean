/-
  foldRule.apply. Conditions as they stand: the rule's function puts what the rule says where its operations stand at the beginning.
-/
import Derived.Test.YtiemlakjallphabDoorFoldI
import Derived.Test.YtiemlakjallphabDoorRegT
import Derived.Laws.EntriesVeiled
namespace Go.Proofs.YtiemlakjallphabDoor
set_option maxRecDepth 4000
open Go.RowKit

theorem fits_of {r : Rule} {l : List Op} (h : ∀ j, j < r.size → ∃ x, l[j]? = some x ∧ x.k = r.kind) (hs : 0 < r.size) : r.fits l = true := by
  have hl : r.size ≤ l.length := by
    obtain ⟨x, hx, -⟩ := h (r.size - 1) (by omega)
    have := (List.getElem?_eq_some_iff.1 hx).1
    omega
  unfold Rule.fits
  rw [Bool.and_eq_true]
  refine ⟨decide_eq_true hl, ?_⟩
  rw [List.all_eq_true]
  intro x hx
  obtain ⟨i, hi, e⟩ := List.getElem_of_mem hx
  have hi4 : i < r.size := by rw [List.length_take] at hi; omega
  obtain ⟨y, hy, hk⟩ := h i hi4
  rw [List.getElem_take] at e
  rw [List.getElem?_eq_getElem (by omega)] at hy
  have e2 := Option.some.inj hy
  rw [← e, e2]
  exact beq_iff_eq.2 hk
theorem fits_not {r : Rule} {l : List Op} {j : Nat} {x : Op} (hj : j < r.size) (hx : l[j]? = some x) (hk : x.k ≠ r.kind) : r.fits l = false := by
  cases hf : r.fits l
  · rfl
  · exfalso
    unfold Rule.fits at hf
    obtain ⟨h1, h2⟩ := Bool.and_eq_true_iff.1 hf
    rw [List.all_eq_true] at h2
    have hm : x ∈ l.take r.size := by
      refine List.mem_of_getElem? (i := j) ?_
      rw [List.getElem?_take_of_lt hj]
      exact hx
    exact hk (beq_iff_eq.1 (h2 x hm))
theorem says_not {r : Rule} {l : List Op} (h : r.fits l = false) : r.says l = none := by unfold Rule.says; rw [h]; rfl
theorem gaveM_no {w w' : World} {e : Ending} {A : Option Addr} {n c : Nat} (he : e = .returned (.tuple #[.slice A n c, .bool false])) (hb : Below w.heap.size w w') : GaveM none w e w' :=
  ⟨A, n, c, he, (fun s h => by cases h), hb⟩
set_option maxHeartbeats 4000000 in
theorem apply_any (r : Rule) (F : FuncId) (A : Option Addr) (n c : Nat) (l : List Op) (w : World) (hz : 1 ≤ r.size ∧ r.size ≤ 4) (hn : l.length = n) (hc : n ≤ c) (hl : n ≤ 1000) (h : opE.Has w w.heap.size A l)
    (hF : ∀ args v, (callFunc F args).run Tryd.prog v = .ok (.enter F args) v)
    (hC : r.fits l = true → ∀ b o v, A = some ⟨b, o, none⟩ → Below w.heap.size w v → Calls Tryd.prog F #[.slice (some ⟨b, o, none⟩) r.size c] v (GaveM (r.by_.puts (l.take r.size)) v)) :
    Calls Tryd.prog 81 #[.agg #[.int .i64 r.kind, .int .i64 (r.size : Int), .func (.func F) #[] #[]], .slice A n c] w (GaveM (r.says l) w) := by
  obtain ⟨q, hq⟩ : ∃ q, r.says l = q := ⟨_, rfl⟩
  have HQ := Lib.hid hq
  obtain ⟨Z, hZ⟩ : ∃ Z, r.size = Z := ⟨_, rfl⟩
  have HZ := Lib.hid hZ
  obtain ⟨K, hK⟩ : ∃ K, r.kind = K := ⟨_, rfl⟩
  have HKD := Lib.hid hK
  have HN := Lib.hid hn
  have HH := Lib.hid fun u (hb : Below w.heap.size w u) => h.below hb
  have HF := Lib.hid hF
  have HC := Lib.hid hC
  have hB0 : Box (w.alloc (.cells #[.int .i64 r.kind, .int .i64 (r.size : Int), .func (.func F) #[] #[]] 97)) w.heap.size #[.int .i64 r.kind, .int .i64 (r.size : Int), .func (.func F) #[] #[]] 97 := Box.new _ _ _
  rw [hq]
  rw [hZ] at hz hB0 ⊢
  rw [hK] at hB0 ⊢
  have HB0 := Lib.hid (And.intro ((Below.refl w.heap.size w).alloc (Nat.le_refl _) (.cells #[.int .i64 K, .int .i64 (Z : Int), .func (.func F) #[] #[]] 97)) hB0)
  clear hq hZ hK hn h hF hC hB0
  by_cases hlt : n < Z
  · have hI : (n : Int) < (Z : Int) := by omega
    obtain rfl : q = none := by
      rw [← HQ.out]
      refine says_not ?_
      unfold Rule.fits
      rw [decide_eq_false (by rw [HN.out, HZ.out]; omega), Bool.false_and]
    go_enter Tryd.func81, Tryd.ntmps81
    go_wp2_with fail
    go_ret2
    exact gaveM_no rfl HB0.out.1
  · have hI : ¬ (n : Int) < (Z : Int) := by omega
    obtain ⟨b, o, _, rfl, hbB, -, -⟩ := (HH.out w (Below.refl _ _)).spot (k := 0) (by rw [HN.out]; omega)
    have hp1 : (0 : Int) ≤ (Z : Int) ∧ (Z : Int) ≤ (c : Int) := by omega
    go_enter Tryd.func81, Tryd.ntmps81
    go_wp2_with fail
    go_loopw [18] (fun v wr => ∃ k : Nat, k ≤ Z ∧ v = .int .i64 (k : Int) ∧ (∀ j, j < k → ∃ x, l[j]? = some x ∧ x.k = K) ∧ Below w.heap.size w wr ∧ Box wr w.heap.size #[.int .i64 K, .int .i64 (Z : Int), .func (.func F) #[] #[]] 97) (fun v _ => Z - (intOf v).toNat)
    case atStart => exact ⟨0, Nat.zero_le _, rfl, fun j hj => absurd hj (Nat.not_lt_zero _), HB0.out.1, HB0.out.2⟩
    case round =>
      obtain ⟨k, hk, rfl, hal, hb, hbx⟩ := hrel
      have HAL := Lib.hid hal
      have HB := Lib.hid hb
      have HX := Lib.hid hbx
      have k0 := hbx.cell (i := 0) rfl
      have k1 := hbx.cell (i := 1) rfl
      have k2 := hbx.cell (i := 2) rfl
      have hwr := hbx.lt
      clear hal hb hbx
      by_cases hkz : k < Z
      · obtain ⟨_, _, x, hA, _, hx, hcx⟩ := (HH.out wr HB.out).spot (k := k) (by rw [HN.out]; omega)
        cases hA
        obtain ⟨c0, c1, c2, c3, c4⟩ := op_at (HH.out wr HB.out) hx
        have HGX := Lib.hid hx
        have hpI : (0 : Int) ≤ (k : Int) ∧ (k : Int) < (Z : Int) := by omega
        have hE : Below w.heap.size w (wr.alloc (.cells #[.int .i64 x.k, .int .i64 x.a, .int .i64 x.b, .int .i64 x.c, .int .i64 x.d] 49)) ∧ Box (wr.alloc (.cells #[.int .i64 x.k, .int .i64 x.a, .int .i64 x.b, .int .i64 x.c, .int .i64 x.d] 49)) w.heap.size #[.int .i64 K, .int .i64 (Z : Int), .func (.func F) #[] #[]] 97 := ⟨HB.out.alloc HB.out.size _, HX.out.alloc _⟩
        have HE := Lib.hid hE
        clear hx hcx hE
        by_cases h4 : x.k = K
        · have HS : Hid (∀ j, j < k + 1 → ∃ x, l[j]? = some x ∧ x.k = K) := Lib.hid fun j hj => by
            by_cases e : j = k
            · subst e
              exact ⟨x, HGX.out, h4⟩
            · exact HAL.out j (by omega)
          have e4 : (x.k != K) = false := by rw [h4]; exact bne_self_eq_false _
          clear h4
          go_wp2_with fail
          go_roundw
          case rel => exact ⟨k + 1, by omega, by go_num, HS.out, HE.out.1, HE.out.2⟩
          case measure => simp [intOf]; omega
        · have e4 : (x.k != K) = true := bne_iff_ne.2 h4
          obtain rfl : q = none := by rw [← HQ.out]; exact says_not (fits_not (j := k) (by rw [HZ.out]; exact hkz) HGX.out (by rw [HKD.out]; exact h4))
          clear h4
          go_wp2_with fail
          go_ret2
          exact gaveM_no rfl HE.out.1
      · obtain rfl : k = Z := by omega
        have hfit : r.fits l = true := fits_of (by rw [HZ.out, HKD.out]; exact HAL.out) (by rw [HZ.out]; omega)
        obtain ⟨s, hs⟩ : ∃ s, r.by_.puts (l.take r.size) = s := ⟨_, rfl⟩
        obtain rfl : q = s := by rw [← HQ.out, ← hs]; unfold Rule.says; rw [if_pos hfit]
        have CC := Lib.hid (HC.out hfit)
        rw [hs, HZ.out] at CC
        have HS0 : Hid (Below w.heap.size w wr.drew ∧ Box wr.drew w.heap.size #[.int .i64 K, .int .i64 (k : Int), .func (.func F) #[] #[]] 97) := Lib.hid ⟨below_draws HB.out 1, HX.out.drew⟩
        clear hs hfit
        go_wp2_with fail
        refine wp_region_T (fun w' => Below w.heap.size w w' ∧ Box w' w.heap.size #[.int .i64 K, .int .i64 (k : Int), .func (.func F) #[] #[]] 97) 10 (by kernel_rfl) ?_
        refine wpAnyT_take (i := 0) (d := 28) (v := .pointer (some ⟨w.heap.size, 2, none⟩)) rfl rfl (by kernel_rfl) (by kernel_rfl) (by kernel_rfl) (by kernel_rfl) (by kernel_rfl) (fun _ _ _ h => h) HS0.out (Or.inl ⟨by rfl, fun w' hS' => ?_⟩) ?_
        · have s := hS'
          go_simp
        simp only [Act.put, List.setIfInBounds_toArray, List.set_cons_zero, List.set_cons_succ]
        refine wpAnyT_take (i := 1) (d := 29) (v := .func (.func F) #[] #[]) rfl rfl (by kernel_rfl) (by kernel_rfl) (by kernel_rfl) (by kernel_rfl) (by kernel_rfl) (fun _ _ _ h => h) HS0.out (Or.inl ⟨by rfl, fun w' hS' => ?_⟩) ?_
        · have s := hS'
          have k0 := s.2.cell (i := 0) rfl
          have k1 := s.2.cell (i := 1) rfl
          have k2 := s.2.cell (i := 2) rfl
          go_simp
        simp only [Act.put, List.setIfInBounds_toArray, List.set_cons_zero, List.set_cons_succ]
        refine wpAnyT_take (i := 2) (d := 30) (v := .slice (some ⟨b, o, none⟩) n c) rfl rfl (by kernel_rfl) (by kernel_rfl) (by kernel_rfl) (by kernel_rfl) (by kernel_rfl) (fun _ _ _ h => h) HS0.out (Or.inl ⟨by rfl, fun w' hS' => ?_⟩) ?_
        · have s := hS'
          go_simp
        simp only [Act.put, List.setIfInBounds_toArray, List.set_cons_zero, List.set_cons_succ]
        refine wpAnyT_take (i := 3) (d := 31) (v := .pointer (some ⟨w.heap.size, 1, none⟩)) rfl rfl (by kernel_rfl) (by kernel_rfl) (by kernel_rfl) (by kernel_rfl) (by kernel_rfl) (fun _ _ _ h => h) HS0.out (Or.inl ⟨by rfl, fun w' hS' => ?_⟩) ?_
        · have s := hS'
          go_simp
        simp only [Act.put, List.setIfInBounds_toArray, List.set_cons_zero, List.set_cons_succ]
        refine wpAnyT_take (i := 4) (d := 32) (v := .int .i64 (k : Int)) rfl rfl (by kernel_rfl) (by kernel_rfl) (by kernel_rfl) (by kernel_rfl) (by kernel_rfl) (fun _ _ _ h => h) HS0.out (Or.inl ⟨by rfl, fun w' hS' => ?_⟩) ?_
        · have s := hS'
          have k0 := s.2.cell (i := 0) rfl
          have k1 := s.2.cell (i := 1) rfl
          have k2 := s.2.cell (i := 2) rfl
          go_simp
        simp only [Act.put, List.setIfInBounds_toArray, List.set_cons_zero, List.set_cons_succ]
        refine wpAnyT_take (i := 5) (d := 33) (v := .slice (some ⟨b, o, none⟩) k c) rfl rfl (by kernel_rfl) (by kernel_rfl) (by kernel_rfl) (by kernel_rfl) (by kernel_rfl) (fun _ _ _ h => h) HS0.out (Or.inl ⟨by rfl, fun w' hS' => ?_⟩) ?_
        · have s := hS'
          go_simp
        simp only [Act.put, List.setIfInBounds_toArray, List.set_cons_zero, List.set_cons_succ]
        refine wpAnyT_one (i := 6) (by kernel_rfl) rfl (fun K hK => ?_)
        go_simp
        rw [HF.out, Oper.upon_enter]
        refine (CC.out b o _ rfl HS0.out.1).mono ?_
        rintro e w4 ⟨A2, n2, c2, rfl, hs2, b4⟩
        have HB4 := Lib.hid (HS0.out.1.trans (b4.mono HS0.out.1.size))
        have HS2 := Lib.hid hs2
        have HS4 := Lib.hid (And.intro HB4.out (Box.next HS0.out.2 b4))
        refine hK.out _ _ (fun _ => HS4.out) ?_
        clear hK b4 hs2
        try simp only [Act.put, List.setIfInBounds_toArray, List.set_cons_zero, List.set_cons_succ]
        refine wpAnyT_take (i := 7) (d := 35) (v := .slice A2 n2 c2) rfl rfl (by kernel_rfl) (by kernel_rfl) (by kernel_rfl) (by kernel_rfl) (by kernel_rfl) (fun _ _ _ h => h) HS4.out (Or.inl ⟨by rfl, fun w' hS' => ?_⟩) ?_
        · have s := hS'
          go_simp
        simp only [Act.put, List.setIfInBounds_toArray, List.set_cons_zero, List.set_cons_succ]
        refine wpAnyT_take (i := 8) (d := 36) (v := .bool q.isSome) rfl rfl (by kernel_rfl) (by kernel_rfl) (by kernel_rfl) (by kernel_rfl) (by kernel_rfl) (fun _ _ _ h => h) HS4.out (Or.inl ⟨by rfl, fun w' hS' => ?_⟩) ?_
        · have s := hS'
          go_simp
        simp only [Act.put, List.setIfInBounds_toArray, List.set_cons_zero, List.set_cons_succ]
        refine wpAnyT_one (i := 9) (by kernel_rfl) rfl (fun K hK => ?_)
        go_simp
        refine hK.out _ _ (fun _ => HS4.out) ?_
        clear hK
        try simp only [Act.put, List.setIfInBounds_toArray, List.set_cons_zero, List.set_cons_succ]
        refine wpAnyT_one (i := 10) (by kernel_rfl) rfl (fun K hK => ?_)
        go_simp
        refine hK.out _ _ (fun h => absurd h (by decide)) ?_
        clear hK
        try simp only [Act.put, List.setIfInBounds_toArray, List.set_cons_zero, List.set_cons_succ]
        refine wpAnyT_done (by kernel_rfl) ?_ _

        go_wp2_with fail
        go_ret2
        exact ⟨A2, n2, c2, rfl, fun s h => by
          obtain ⟨e1, e2, e3⟩ := HS2.out s h
          exact ⟨e1, e2, e3⟩, HB4.out⟩
end Go.Proofs.YtiemlakjallphabDoor
