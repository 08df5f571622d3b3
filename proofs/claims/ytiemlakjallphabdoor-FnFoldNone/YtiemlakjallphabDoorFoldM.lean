/-
  A rule at the lowest index (the program's foldOnce). Conditions as they stand.
-/
import Derived.Test.YtiemlakjallphabDoorFoldL
import Derived.Test.YtiemlakjallphabDoorFoldG
namespace Go.Proofs.YtiemlakjallphabDoor
set_option maxRecDepth 4000
open Go.RowKit

/-- A list of the call's own, or nothing. -/
def GaveW (r : Option (List Op)) (w : World) (e : Ending) (w' : World) : Prop :=
  ∃ A n c, e = .returned (.tuple #[.slice A n c, .bool r.isSome]) ∧ (∀ s, r = some s → n = s.length ∧ opE.Own w' w.heap.size (.slice A n c) s) ∧ Below w.heap.size w w'
theorem gaveW_no {w w' : World} {e : Ending} {A : Option Addr} {n c : Nat} (he : e = .returned (.tuple #[.slice A n c, .bool false])) (hb : Below w.heap.size w w') : GaveW none w e w' :=
  ⟨A, n, c, he, (fun s h => by cases h), hb⟩
set_option maxHeartbeats 8000000 in
theorem foldOnce_any (A : Option Addr) (n c : Nat) (l : List Op) (w : World) (hn : l.length = n) (hc : n ≤ c) (hl : n ≤ 100) (hal : l.all opB = true) (h : opE.Has w w.heap.size A l) :
    Calls Tryd.prog 49 #[.slice A n c] w (GaveW (foldO l) w) := by
  obtain ⟨r, hr⟩ : ∃ r, foldO l = r := ⟨_, rfl⟩
  have HR := Lib.hid hr
  have HN := Lib.hid hn
  have HH := Lib.hid fun u (hb : Below w.heap.size w u) => h.below hb
  have HAL := Lib.hid hal
  have HLIM := Lib.hid (And.intro hc hl)
  have CR := Lib.hid fun u => foldRules_any u
  rw [hr]
  clear h hr hal hn
  go_enter Tryd.func49, Tryd.ntmps49
  go_wp2_with fail
  go_loopw [11] (fun v wr => ∃ k : Nat, k ≤ n ∧ v = .int .i64 (k : Int) ∧ (∀ j, j < k → head1 (l.drop j) = none) ∧ Below w.heap.size w wr) (fun v _ => n - (intOf v).toNat)
  case atStart => exact ⟨0, Nat.zero_le _, rfl, fun j hj => absurd hj (Nat.not_lt_zero _), Below.refl _ _⟩
  case round =>
    obtain ⟨k, hk, rfl, hno, hb⟩ := hrel
    have HNO := Lib.hid hno
    have HB := Lib.hid hb
    clear hno hb
    by_cases hlt : k < n
    · obtain ⟨b, o, _, rfl, hbB, -, -⟩ := (HH.out wr HB.out).spot (k := k) (by rw [HN.out]; exact hlt)
      obtain ⟨N2, hN2⟩ : ∃ N2, n - k = N2 := ⟨_, rfl⟩
      obtain ⟨C2, hC2⟩ : ∃ C2, c - k = C2 := ⟨_, rfl⟩
      have hkI : (k : Int) < (n : Int) := by omega
      go_wp2_with fail
      refine (CR.out wr).mono ?_
      rintro e w1 ⟨rfl, hbx, b1⟩
      have HB1 := Lib.hid (HB.out.trans (b1.mono HB.out.size))
      obtain ⟨gR, hgR⟩ : ∃ gR, wr.heap.size = gR := ⟨_, rfl⟩
      rw [hgR] at hbx ⊢
      have HBX := Lib.hid hbx
      clear b1 hbx hgR
      go_wp2_with fail
      go_loopw [16] (fun v wr => ∃ i : Nat, i ≤ 7 ∧ v = .int .i64 (i : Int) ∧ (∀ r ∈ rules7.take i, r.says (l.drop k) = none) ∧ Below w.heap.size w wr ∧ Box wr gR rulesCells 97) (fun v _ => 7 - (intOf v).toNat)
      case atStart => exact ⟨0, Nat.zero_le _, rfl, fun r hr => by simp at hr, HB1.out, HBX.out⟩
      case round =>
        obtain ⟨i, hi, rfl, hnr, hb, hbx⟩ := hrel
        have HNR := Lib.hid hnr
        have HB2 := Lib.hid hb
        have HX2 := Lib.hid hbx
        have hgl := hbx.lt
        clear hnr hb hbx
        by_cases hi7 : i < 7
        · obtain ⟨u, hu⟩ : ∃ u, rules7[i]? = some u := ⟨_, List.getElem?_eq_getElem (by exact hi7)⟩
          have HU := Lib.hid hu
          have hmem : u ∈ rules7 := List.mem_of_getElem? hu
          obtain ⟨c0, c1, c2⟩ := rule_at HX2.out hu
          obtain ⟨F, hF⟩ : ∃ F, fnOf u.by_ = F := ⟨_, rfl⟩
          obtain ⟨Z, hZ⟩ : ∃ Z, u.size = Z := ⟨_, rfl⟩
          obtain ⟨R, hR⟩ : ∃ R, u.kind = R := ⟨_, rfl⟩
          obtain ⟨q, hq⟩ : ∃ q, u.says (l.drop k) = q := ⟨_, rfl⟩
          have HQ := Lib.hid hq
          have HZ := Lib.hid hZ
          have CA : Hid (∀ v, Below w.heap.size w v → Calls Tryd.prog 81 #[.agg #[.int .i64 R, .int .i64 (Z : Int), .func (.func F) #[] #[]], .slice (some ⟨b, o + k * 5, none⟩) N2 C2] v (GaveM q v)) := Lib.hid fun v hb => by
            have := apply7_any u hmem (some ⟨b, o + k * 5, none⟩) N2 C2 (l.drop k) v (by rw [List.length_drop, HN.out]; exact hN2) (by omega) (by omega) (by rw [List.all_eq_true]; exact fun x hx => List.all_eq_true.1 HAL.out x (List.mem_of_mem_drop hx)) (((HH.out v hb).wider hb.size).dropAt k)
            rw [hF, hZ, hR, hq] at this
            exact this
          rw [hF] at c2
          rw [hZ] at c1
          rw [hR] at c0
          obtain ⟨gB, hgB⟩ : ∃ gB, wr.heap.size = gB := ⟨_, rfl⟩
          have HSA : Hid (Below w.heap.size w (wr.alloc (.cells #[.int .i64 R, .int .i64 (Z : Int), .func (.func F) #[] #[]] 97)) ∧ Box (wr.alloc (.cells #[.int .i64 R, .int .i64 (Z : Int), .func (.func F) #[] #[]] 97)) gR rulesCells 97 ∧ Box (wr.alloc (.cells #[.int .i64 R, .int .i64 (Z : Int), .func (.func F) #[] #[]] 97)) gB #[.int .i64 R, .int .i64 (Z : Int), .func (.func F) #[] #[]] 97) := Lib.hid ⟨HB2.out.alloc HB2.out.size _, HX2.out.alloc _, by rw [← hgB]; exact Box.new _ _ _⟩
          have HS0 : Hid (Below w.heap.size w (wr.alloc (.cells #[.int .i64 R, .int .i64 (Z : Int), .func (.func F) #[] #[]] 97)).drew ∧ Box (wr.alloc (.cells #[.int .i64 R, .int .i64 (Z : Int), .func (.func F) #[] #[]] 97)).drew gR rulesCells 97 ∧ Box (wr.alloc (.cells #[.int .i64 R, .int .i64 (Z : Int), .func (.func F) #[] #[]] 97)).drew gB #[.int .i64 R, .int .i64 (Z : Int), .func (.func F) #[] #[]] 97) := Lib.hid ⟨below_draws HSA.out.1 1, HSA.out.2.1.drew, HSA.out.2.2.drew⟩
          have hpI : (0 : Int) ≤ (i : Int) ∧ (i : Int) < 7 := by omega
          have hpk : (0 : Int) ≤ (k : Int) ∧ (k : Int) ≤ (n : Int) ∧ (n : Int) ≤ (c : Int) ∧ (k : Int) < (c : Int) := by have := HLIM.out; omega
          have hpk2 : k ≤ n ∧ k < c ∧ ¬ c = k := by have := HLIM.out; omega
          clear hF hZ hR hq hu hmem HSA
          go_wp2_with fail
          refine wp_region_T (fun w' => Below w.heap.size w w' ∧ Box w' gR rulesCells 97 ∧ Box w' gB #[.int .i64 R, .int .i64 (Z : Int), .func (.func F) #[] #[]] 97) 9 (by kernel_rfl) ?_
          refine wpAnyT_take (i := 0) (d := 21) (v := .agg #[.int .i64 R, .int .i64 (Z : Int), .func (.func F) #[] #[]]) rfl rfl (by kernel_rfl) (by kernel_rfl) (by kernel_rfl) (by kernel_rfl) (by kernel_rfl) (fun _ _ _ h => h) HS0.out (Or.inl ⟨by rfl, fun w' hS' => ?_⟩) ?_
          · have s := hS'
            have k0 := s.2.2.cell (i := 0) rfl
            have k1 := s.2.2.cell (i := 1) rfl
            have k2 := s.2.2.cell (i := 2) rfl
            go_simp
          simp only [Act.put, List.setIfInBounds_toArray, List.set_cons_zero, List.set_cons_succ]
          refine wpAnyT_take (i := 1) (d := 22) (v := .slice (some ⟨b, o, none⟩) n c) rfl rfl (by kernel_rfl) (by kernel_rfl) (by kernel_rfl) (by kernel_rfl) (by kernel_rfl) (fun _ _ _ h => h) HS0.out (Or.inl ⟨by rfl, fun w' hS' => ?_⟩) ?_
          · have s := hS'
            go_simp
          simp only [Act.put, List.setIfInBounds_toArray, List.set_cons_zero, List.set_cons_succ]
          refine wpAnyT_take (i := 2) (d := 23) (v := .int .i64 (k : Int)) rfl rfl (by kernel_rfl) (by kernel_rfl) (by kernel_rfl) (by kernel_rfl) (by kernel_rfl) (fun _ _ _ h => h) HS0.out (Or.inl ⟨by rfl, fun w' hS' => ?_⟩) ?_
          · have s := hS'
            go_simp
          simp only [Act.put, List.setIfInBounds_toArray, List.set_cons_zero, List.set_cons_succ]
          refine wpAnyT_take (i := 3) (d := 24) (v := .slice (some ⟨b, o + k * 5, none⟩) N2 C2) rfl rfl (by kernel_rfl) (by kernel_rfl) (by kernel_rfl) (by kernel_rfl) (by kernel_rfl) (fun _ _ _ h => h) HS0.out (Or.inl ⟨by rfl, fun w' hS' => ?_⟩) ?_
          · have s := hS'
            go_simp
          simp only [Act.put, List.setIfInBounds_toArray, List.set_cons_zero, List.set_cons_succ]
          refine wpAnyT_one (i := 4) (by kernel_rfl) rfl (fun K hK => ?_)
          go_simp
          refine (CA.out _ HS0.out.1).mono ?_
          rintro e w4 ⟨A2, n2, c2, rfl, hs2, b4⟩
          have HS2 := Lib.hid hs2
          have HS4 := Lib.hid (And.intro (HS0.out.1.trans (b4.mono HS0.out.1.size)) (And.intro (Box.next HS0.out.2.1 b4) (Box.next HS0.out.2.2 b4)))
          refine hK.out _ _ (fun _ => HS4.out) ?_
          clear hK b4 hs2
          try simp only [Act.put, List.setIfInBounds_toArray, List.set_cons_zero, List.set_cons_succ]
          refine wpAnyT_take (i := 5) (d := 20) (v := .tuple #[.slice A2 n2 c2, .bool q.isSome]) rfl rfl (by kernel_rfl) (by kernel_rfl) (by kernel_rfl) (by kernel_rfl) (by kernel_rfl) (fun _ _ _ h => h) HS4.out (Or.inl ⟨by rfl, fun w' hS' => ?_⟩) ?_
          · have s := hS'
            go_simp
          simp only [Act.put, List.setIfInBounds_toArray, List.set_cons_zero, List.set_cons_succ]
          refine wpAnyT_take (i := 6) (d := 26) (v := .slice A2 n2 c2) rfl rfl (by kernel_rfl) (by kernel_rfl) (by kernel_rfl) (by kernel_rfl) (by kernel_rfl) (fun _ _ _ h => h) HS4.out (Or.inl ⟨by rfl, fun w' hS' => ?_⟩) ?_
          · have s := hS'
            go_simp
          simp only [Act.put, List.setIfInBounds_toArray, List.set_cons_zero, List.set_cons_succ]
          refine wpAnyT_take (i := 7) (d := 27) (v := .bool q.isSome) rfl rfl (by kernel_rfl) (by kernel_rfl) (by kernel_rfl) (by kernel_rfl) (by kernel_rfl) (fun _ _ _ h => h) HS4.out (Or.inl ⟨by rfl, fun w' hS' => ?_⟩) ?_
          · have s := hS'
            go_simp
          simp only [Act.put, List.setIfInBounds_toArray, List.set_cons_zero, List.set_cons_succ]
          refine wpAnyT_one (i := 8) (by kernel_rfl) rfl (fun K hK => ?_)
          go_simp
          refine hK.out _ _ (fun _ => HS4.out) ?_
          clear hK
          try simp only [Act.put, List.setIfInBounds_toArray, List.set_cons_zero, List.set_cons_succ]
          refine wpAnyT_one (i := 9) (by kernel_rfl) rfl (fun K hK => ?_)
          go_simp
          refine hK.out _ _ (fun h => absurd h (by decide)) ?_
          clear hK
          try simp only [Act.put, List.setIfInBounds_toArray, List.set_cons_zero, List.set_cons_succ]
          refine wpAnyT_done (by kernel_rfl) ?_ _
          cases q with
          | none =>
            have HNR2 : Hid (∀ r ∈ rules7.take (i + 1), r.says (l.drop k) = none) := Lib.hid fun r hr => by
              rw [List.take_add_one, HU.out] at hr
              rcases List.mem_append.1 hr with h | h
              · exact HNR.out r h
              · simp at h
                subst h
                exact HQ.out
            go_wp2_with fail
            go_roundw
            case rel => exact ⟨i + 1, by omega, by go_num, HNR2.out, HS4.out.1, HS4.out.2.1⟩
            case measure => simp [intOf]; omega
          | some s =>
            obtain ⟨hn2, hc2, hsh⟩ := HS2.out s rfl
            have hfl := fits_len (says_fits HQ.out)
            rw [HZ.out, List.length_drop, HN.out] at hfl
            obtain ⟨E, hE⟩ : ∃ E, k + Z = E := ⟨_, rfl⟩
            have hEI : (k : Int) + (Z : Int) = (E : Int) := by omega
            have hEn : E ≤ n := by omega
            have uE := IntWalk.i64_in (E : Int) (by have := HLIM.out; omega)
            have hpE : (0 : Int) ≤ (E : Int) ∧ (E : Int) ≤ (n : Int) ∧ (n : Int) ≤ (c : Int) := by have := HLIM.out; omega
            have HSH := Lib.hid fun u (hb : Below w4.heap.size w4 u) => (hsh.below hb).wider hb.size
            have HBW := Lib.hid fun u (hb : Below w4.heap.size w4 u) => HS4.out.1.trans (hb.mono HS4.out.1.size)
            have hhead := rule_head (List.mem_of_getElem? HU.out) HQ.out
            rw [List.drop_drop, HZ.out, hE] at hhead
            have hfo : foldO l = some (l.take k ++ s ++ l.drop E) := by rw [List.append_assoc]; exact foldO_at (by rw [HN.out]; exact hlt) HNO.out hhead
            have hlen := foldO_lt hfo
            obtain rfl : r = some (l.take k ++ s ++ l.drop E) := by rw [← HR.out]; exact hfo
            have HL1 : Hid ((l.take k).length = k) := Lib.hid (by rw [List.length_take, HN.out]; omega)
            have HL3 : Hid ((l.drop E).length = n - E) := Lib.hid (by rw [List.length_drop, HN.out])
            rw [List.length_append, List.length_append, HL1.out, HL3.out, HN.out, ← hn2] at hlen
            have HL2 := Lib.hid hn2.symm
            have HL4 : Hid (k ≤ 100 ∧ n2 ≤ 100 ∧ n - E ≤ 100) := Lib.hid (by have := HLIM.out; omega)
            have HT0 : Hid (Below w4.heap.size w4 w4.drew ∧ Box w4.drew gB #[.int .i64 R, .int .i64 (Z : Int), .func (.func F) #[] #[]] 97) := Lib.hid ⟨below_draws (Below.refl _ _) 1, HS4.out.2.2.drew⟩
            have hp3 : E ≤ n ∧ E ≤ c ∧ k ≤ E := by have := HLIM.out; omega
            clear hhead hfo hlen hsh hn2 hc2 hfl
            by_cases hcE : E = c
            · have hnE : E = n := by have := HLIM.out; omega
              have HNIL : Hid (∀ u B A, opE.Has u B A (l.drop E)) := Lib.hid fun u B A => by
                rw [List.eq_nil_of_length_eq_zero (l := l.drop E) (by rw [HL3.out]; omega)]
                exact El.Has.nil
              have HL3b : Hid ((l.drop E).length = 0) := Lib.hid (by rw [HL3.out]; omega)
              have HL4b : Hid (k ≤ 100 ∧ n2 ≤ 100 ∧ 0 ≤ 100) := Lib.hid ⟨HL4.out.1, HL4.out.2.1, Nat.zero_le _⟩
              clear HL3 HL4
              subst hcE
              subst hnE
              go_wp2_with fail
              refine wp_region_T (fun w' => Below w4.heap.size w4 w' ∧ Box w' gB #[.int .i64 R, .int .i64 (Z : Int), .func (.func F) #[] #[]] 97) 13 (by kernel_rfl) ?_
              refine wpAnyT_take (i := 0) (d := 29) (v := .slice (some ⟨b, o, none⟩) E E) rfl rfl (by kernel_rfl) (by kernel_rfl) (by kernel_rfl) (by kernel_rfl) (by kernel_rfl) (fun _ _ _ h => h) HT0.out (Or.inl ⟨by rfl, fun w' hS' => ?_⟩) ?_
              · have s := hS'
                go_simp
              simp only [Act.put, List.setIfInBounds_toArray, List.set_cons_zero, List.set_cons_succ]
              refine wpAnyT_take (i := 1) (d := 30) (v := .int .i64 (k : Int)) rfl rfl (by kernel_rfl) (by kernel_rfl) (by kernel_rfl) (by kernel_rfl) (by kernel_rfl) (fun _ _ _ h => h) HT0.out (Or.inl ⟨by rfl, fun w' hS' => ?_⟩) ?_
              · have s := hS'
                go_simp
              simp only [Act.put, List.setIfInBounds_toArray, List.set_cons_zero, List.set_cons_succ]
              refine wpAnyT_take (i := 2) (d := 31) (v := .slice (some ⟨b, o, none⟩) k E) rfl rfl (by kernel_rfl) (by kernel_rfl) (by kernel_rfl) (by kernel_rfl) (by kernel_rfl) (fun _ _ _ h => h) HT0.out (Or.inl ⟨by rfl, fun w' hS' => ?_⟩) ?_
              · have s := hS'
                go_simp
              simp only [Act.put, List.setIfInBounds_toArray, List.set_cons_zero, List.set_cons_succ]
              refine wpAnyT_take (i := 3) (d := 32) (v := .slice A2 n2 c2) rfl rfl (by kernel_rfl) (by kernel_rfl) (by kernel_rfl) (by kernel_rfl) (by kernel_rfl) (fun _ _ _ h => h) HT0.out (Or.inl ⟨by rfl, fun w' hS' => ?_⟩) ?_
              · have s := hS'
                go_simp
              simp only [Act.put, List.setIfInBounds_toArray, List.set_cons_zero, List.set_cons_succ]
              refine wpAnyT_take (i := 4) (d := 33) (v := .slice (some ⟨b, o, none⟩) E E) rfl rfl (by kernel_rfl) (by kernel_rfl) (by kernel_rfl) (by kernel_rfl) (by kernel_rfl) (fun _ _ _ h => h) HT0.out (Or.inl ⟨by rfl, fun w' hS' => ?_⟩) ?_
              · have s := hS'
                go_simp
              simp only [Act.put, List.setIfInBounds_toArray, List.set_cons_zero, List.set_cons_succ]
              refine wpAnyT_take (i := 5) (d := 34) (v := .int .i64 (k : Int)) rfl rfl (by kernel_rfl) (by kernel_rfl) (by kernel_rfl) (by kernel_rfl) (by kernel_rfl) (fun _ _ _ h => h) HT0.out (Or.inl ⟨by rfl, fun w' hS' => ?_⟩) ?_
              · have s := hS'
                go_simp
              simp only [Act.put, List.setIfInBounds_toArray, List.set_cons_zero, List.set_cons_succ]
              refine wpAnyT_take (i := 6) (d := 35) (v := .pointer (some ⟨gB, 1, none⟩)) rfl rfl (by kernel_rfl) (by kernel_rfl) (by kernel_rfl) (by kernel_rfl) (by kernel_rfl) (fun _ _ _ h => h) HT0.out (Or.inl ⟨by rfl, fun w' hS' => ?_⟩) ?_
              · have s := hS'
                go_simp
              simp only [Act.put, List.setIfInBounds_toArray, List.set_cons_zero, List.set_cons_succ]
              refine wpAnyT_take (i := 7) (d := 36) (v := .int .i64 (Z : Int)) rfl rfl (by kernel_rfl) (by kernel_rfl) (by kernel_rfl) (by kernel_rfl) (by kernel_rfl) (fun _ _ _ h => h) HT0.out (Or.inl ⟨by rfl, fun w' hS' => ?_⟩) ?_
              · have s := hS'
                have k1 := s.2.cell (i := 1) rfl
                go_simp
              simp only [Act.put, List.setIfInBounds_toArray, List.set_cons_zero, List.set_cons_succ]
              refine wpAnyT_take (i := 8) (d := 37) (v := .int .i64 (E : Int)) rfl rfl (by kernel_rfl) (by kernel_rfl) (by kernel_rfl) (by kernel_rfl) (by kernel_rfl) (fun _ _ _ h => h) HT0.out (Or.inl ⟨by rfl, fun w' hS' => ?_⟩) ?_
              · have s := hS'
                go_simp
              simp only [Act.put, List.setIfInBounds_toArray, List.set_cons_zero, List.set_cons_succ]
              refine wpAnyT_take (i := 9) (d := 38) (v := .slice (some ⟨b, o, none⟩) 0 0) rfl rfl (by kernel_rfl) (by kernel_rfl) (by kernel_rfl) (by kernel_rfl) (by kernel_rfl) (fun _ _ _ h => h) HT0.out (Or.inl ⟨by rfl, fun w' hS' => ?_⟩) ?_
              · have s := hS'
                go_simp
              simp only [Act.put, List.setIfInBounds_toArray, List.set_cons_zero, List.set_cons_succ]
              refine wpAnyT_one (i := 10) (by kernel_rfl) rfl (fun K hK => ?_)
              go_simp
              have HTA := Lib.hid (And.intro (HT0.out.1.alloc HT0.out.1.size (.cells #[.slice (some ⟨b, o, none⟩) k E, .slice A2 n2 c2, .slice (some ⟨b, o, none⟩) 0 0] 34)) (HT0.out.2.alloc (.cells #[.slice (some ⟨b, o, none⟩) k E, .slice A2 n2 c2, .slice (some ⟨b, o, none⟩) 0 0] 34)))
              refine hK.out _ _ (fun _ => HTA.out) ?_
              clear hK
              try simp only [Act.put, List.setIfInBounds_toArray, List.set_cons_zero, List.set_cons_succ]
              refine wpAnyT_one (i := 11) (by kernel_rfl) rfl (fun K hK => ?_)
              go_simp
              refine (concatOp_any _ (some ⟨b, o, none⟩) A2 (some ⟨b, o, none⟩) E c2 0 k n2 0 (l.take k) s (l.drop E) _ HL1.out HL2.out HL3b.out HL4b.out (Box.new _ _ _) (((HH.out _ (HBW.out _ HTA.out.1)).wider (HBW.out _ HTA.out.1).size).takeN k) (HSH.out _ HTA.out.1) (HNIL.out _ _ _)).mono ?_
              rintro e w6 ⟨A6, c6, n6, hn6, rfl, ho6, b6⟩
              have HN6 := Lib.hid hn6
              have HO6 := Lib.hid (ho6.lower (HBW.out _ HTA.out.1).size)
              have HT6 := Lib.hid (And.intro (HTA.out.1.trans (b6.mono HTA.out.1.size)) (Box.next HTA.out.2 b6))
              refine hK.out _ _ (fun _ => HT6.out) ?_
              clear hK b6 hn6 ho6
              try simp only [Act.put, List.setIfInBounds_toArray, List.set_cons_zero, List.set_cons_succ]
              refine wpAnyT_one (i := 12) (by kernel_rfl) rfl (fun K hK => ?_)
              go_simp
              refine hK.out _ _ (fun _ => HT6.out) ?_
              clear hK
              try simp only [Act.put, List.setIfInBounds_toArray, List.set_cons_zero, List.set_cons_succ]
              refine wpAnyT_one (i := 13) (by kernel_rfl) rfl (fun K hK => ?_)
              go_simp
              refine hK.out _ _ (fun h => absurd h (by decide)) ?_
              clear hK
              try simp only [Act.put, List.setIfInBounds_toArray, List.set_cons_zero, List.set_cons_succ]
              refine wpAnyT_done (by kernel_rfl) ?_ _
              go_wp2_with fail
              go_ret2
              exact ⟨A6, n6, c6, rfl, (fun s' h => by
                injection h with h
                subst h
                exact ⟨HN6.out, HO6.out⟩), HBW.out _ HT6.out.1⟩
            · have hcE2 : ¬ c = E := fun h => hcE h.symm
              have hpk3 : (0 : Int) ≤ (k : Int) ∧ (k : Int) ≤ (c : Int) := by omega
              have hpk4 : k ≤ c := by omega
              have hpE3 : (E : Int) ≤ (c : Int) := by omega
              go_wp2_with fail
              refine wp_region_T (fun w' => Below w4.heap.size w4 w' ∧ Box w' gB #[.int .i64 R, .int .i64 (Z : Int), .func (.func F) #[] #[]] 97) 13 (by kernel_rfl) ?_
              refine wpAnyT_take (i := 0) (d := 29) (v := .slice (some ⟨b, o, none⟩) n c) rfl rfl (by kernel_rfl) (by kernel_rfl) (by kernel_rfl) (by kernel_rfl) (by kernel_rfl) (fun _ _ _ h => h) HT0.out (Or.inl ⟨by rfl, fun w' hS' => ?_⟩) ?_
              · have s := hS'
                go_simp
              simp only [Act.put, List.setIfInBounds_toArray, List.set_cons_zero, List.set_cons_succ]
              refine wpAnyT_take (i := 1) (d := 30) (v := .int .i64 (k : Int)) rfl rfl (by kernel_rfl) (by kernel_rfl) (by kernel_rfl) (by kernel_rfl) (by kernel_rfl) (fun _ _ _ h => h) HT0.out (Or.inl ⟨by rfl, fun w' hS' => ?_⟩) ?_
              · have s := hS'
                go_simp
              simp only [Act.put, List.setIfInBounds_toArray, List.set_cons_zero, List.set_cons_succ]
              refine wpAnyT_take (i := 2) (d := 31) (v := .slice (some ⟨b, o, none⟩) k c) rfl rfl (by kernel_rfl) (by kernel_rfl) (by kernel_rfl) (by kernel_rfl) (by kernel_rfl) (fun _ _ _ h => h) HT0.out (Or.inl ⟨by rfl, fun w' hS' => ?_⟩) ?_
              · have s := hS'
                go_simp
              simp only [Act.put, List.setIfInBounds_toArray, List.set_cons_zero, List.set_cons_succ]
              refine wpAnyT_take (i := 3) (d := 32) (v := .slice A2 n2 c2) rfl rfl (by kernel_rfl) (by kernel_rfl) (by kernel_rfl) (by kernel_rfl) (by kernel_rfl) (fun _ _ _ h => h) HT0.out (Or.inl ⟨by rfl, fun w' hS' => ?_⟩) ?_
              · have s := hS'
                go_simp
              simp only [Act.put, List.setIfInBounds_toArray, List.set_cons_zero, List.set_cons_succ]
              refine wpAnyT_take (i := 4) (d := 33) (v := .slice (some ⟨b, o, none⟩) n c) rfl rfl (by kernel_rfl) (by kernel_rfl) (by kernel_rfl) (by kernel_rfl) (by kernel_rfl) (fun _ _ _ h => h) HT0.out (Or.inl ⟨by rfl, fun w' hS' => ?_⟩) ?_
              · have s := hS'
                go_simp
              simp only [Act.put, List.setIfInBounds_toArray, List.set_cons_zero, List.set_cons_succ]
              refine wpAnyT_take (i := 5) (d := 34) (v := .int .i64 (k : Int)) rfl rfl (by kernel_rfl) (by kernel_rfl) (by kernel_rfl) (by kernel_rfl) (by kernel_rfl) (fun _ _ _ h => h) HT0.out (Or.inl ⟨by rfl, fun w' hS' => ?_⟩) ?_
              · have s := hS'
                go_simp
              simp only [Act.put, List.setIfInBounds_toArray, List.set_cons_zero, List.set_cons_succ]
              refine wpAnyT_take (i := 6) (d := 35) (v := .pointer (some ⟨gB, 1, none⟩)) rfl rfl (by kernel_rfl) (by kernel_rfl) (by kernel_rfl) (by kernel_rfl) (by kernel_rfl) (fun _ _ _ h => h) HT0.out (Or.inl ⟨by rfl, fun w' hS' => ?_⟩) ?_
              · have s := hS'
                go_simp
              simp only [Act.put, List.setIfInBounds_toArray, List.set_cons_zero, List.set_cons_succ]
              refine wpAnyT_take (i := 7) (d := 36) (v := .int .i64 (Z : Int)) rfl rfl (by kernel_rfl) (by kernel_rfl) (by kernel_rfl) (by kernel_rfl) (by kernel_rfl) (fun _ _ _ h => h) HT0.out (Or.inl ⟨by rfl, fun w' hS' => ?_⟩) ?_
              · have s := hS'
                have k1 := s.2.cell (i := 1) rfl
                go_simp
              simp only [Act.put, List.setIfInBounds_toArray, List.set_cons_zero, List.set_cons_succ]
              refine wpAnyT_take (i := 8) (d := 37) (v := .int .i64 (E : Int)) rfl rfl (by kernel_rfl) (by kernel_rfl) (by kernel_rfl) (by kernel_rfl) (by kernel_rfl) (fun _ _ _ h => h) HT0.out (Or.inl ⟨by rfl, fun w' hS' => ?_⟩) ?_
              · have s := hS'
                go_simp
              simp only [Act.put, List.setIfInBounds_toArray, List.set_cons_zero, List.set_cons_succ]
              refine wpAnyT_take (i := 9) (d := 38) (v := .slice (some ⟨b, o + E * 5, none⟩) (n - E) (c - E)) rfl rfl (by kernel_rfl) (by kernel_rfl) (by kernel_rfl) (by kernel_rfl) (by kernel_rfl) (fun _ _ _ h => h) HT0.out (Or.inl ⟨by rfl, fun w' hS' => ?_⟩) ?_
              · have s := hS'
                go_simp
              simp only [Act.put, List.setIfInBounds_toArray, List.set_cons_zero, List.set_cons_succ]
              refine wpAnyT_one (i := 10) (by kernel_rfl) rfl (fun K hK => ?_)
              go_simp
              have HTA := Lib.hid (And.intro (HT0.out.1.alloc HT0.out.1.size (.cells #[.slice (some ⟨b, o, none⟩) k c, .slice A2 n2 c2, .slice (some ⟨b, o + E * 5, none⟩) (n - E) (c - E)] 34)) (HT0.out.2.alloc (.cells #[.slice (some ⟨b, o, none⟩) k c, .slice A2 n2 c2, .slice (some ⟨b, o + E * 5, none⟩) (n - E) (c - E)] 34)))
              refine hK.out _ _ (fun _ => HTA.out) ?_
              clear hK
              try simp only [Act.put, List.setIfInBounds_toArray, List.set_cons_zero, List.set_cons_succ]
              refine wpAnyT_one (i := 11) (by kernel_rfl) rfl (fun K hK => ?_)
              go_simp
              refine (concatOp_any _ (some ⟨b, o, none⟩) A2 (some ⟨b, o + E * 5, none⟩) c c2 (c - E) k n2 (n - E) (l.take k) s (l.drop E) _ HL1.out HL2.out HL3.out HL4.out (Box.new _ _ _) (((HH.out _ (HBW.out _ HTA.out.1)).wider (HBW.out _ HTA.out.1).size).takeN k) (HSH.out _ HTA.out.1) (((HH.out _ (HBW.out _ HTA.out.1)).wider (HBW.out _ HTA.out.1).size).dropAt E)).mono ?_
              rintro e w6 ⟨A6, c6, n6, hn6, rfl, ho6, b6⟩
              have HN6 := Lib.hid hn6
              have HO6 := Lib.hid (ho6.lower (HBW.out _ HTA.out.1).size)
              have HT6 := Lib.hid (And.intro (HTA.out.1.trans (b6.mono HTA.out.1.size)) (Box.next HTA.out.2 b6))
              refine hK.out _ _ (fun _ => HT6.out) ?_
              clear hK b6 hn6 ho6
              try simp only [Act.put, List.setIfInBounds_toArray, List.set_cons_zero, List.set_cons_succ]
              refine wpAnyT_one (i := 12) (by kernel_rfl) rfl (fun K hK => ?_)
              go_simp
              refine hK.out _ _ (fun _ => HT6.out) ?_
              clear hK
              try simp only [Act.put, List.setIfInBounds_toArray, List.set_cons_zero, List.set_cons_succ]
              refine wpAnyT_one (i := 13) (by kernel_rfl) rfl (fun K hK => ?_)
              go_simp
              refine hK.out _ _ (fun h => absurd h (by decide)) ?_
              clear hK
              try simp only [Act.put, List.setIfInBounds_toArray, List.set_cons_zero, List.set_cons_succ]
              refine wpAnyT_done (by kernel_rfl) ?_ _
              go_wp2_with fail
              go_ret2
              exact ⟨A6, n6, c6, rfl, (fun s' h => by
                injection h with h
                subst h
                exact ⟨HN6.out, HO6.out⟩), HBW.out _ HT6.out.1⟩
        · obtain rfl : i = 7 := by omega
          have HNN : Hid (∀ j, j < k + 1 → head1 (l.drop j) = none) := Lib.hid fun j (hj : j < k + 1) => by
            by_cases e : j = k
            · subst e
              exact rule_none HNR.out
            · exact HNO.out j (by omega)
          go_wp2_with fail
          go_roundw
          case rel => exact ⟨k + 1, by omega, by go_num, HNN.out, HB2.out⟩
          case measure => simp [intOf]; omega
    · obtain rfl : k = n := by omega
      obtain rfl : r = none := by rw [← HR.out]; exact foldO_none fun j hj => HNO.out j (by rw [HN.out] at hj; exact hj)
      go_wp2_with fail
      go_ret2
      exact gaveW_no rfl HB.out
end Go.Proofs.YtiemlakjallphabDoor
