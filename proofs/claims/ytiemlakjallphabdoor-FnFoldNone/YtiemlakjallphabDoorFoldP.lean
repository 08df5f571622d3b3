/-
  Pieces of the reference's fold: append of a whole list, a list with some things in the place of so many, four quarters, what two things come to. Conditions as they stand.
-/
import Derived.Test.YtiemlakjallphabDoorOpsAll
import Derived.Test.YtiemlakjallphabDoorOpO
namespace Go.Proofs.YtiemlakjallphabDoor
set_option maxRecDepth 4000
open Go.RowKit

section
variable {α : Type} {E : El α}
/-- 'append(v, m...)' of a whole list, empty or not. -/
theorem El.wpList_pushAll {w : World} {ops : Array Oper} {rest : List Oper} {o : Oper} {a : Act} {Q : Exit → Act → World → Prop} (T : TypeId) (hT : Tryd.prog.underlying T = some (.slice E.t)) (hgd : o.guard = none) (s x : Operand)
    (ho : o.op = .call { callee := .builtin .append, args := #[s, x], argTypes := #[T, T] })
    (base : Nat) (v : Value) (l : List α) (hs : a.eval s = v) (hown : E.Own w base v l) (B : Nat) (A : Option Addr) (c n : Nat) (m : List α) (hn : m.length = n) (hm : E.Has w B A m)
    (hx : a.eval x = .slice A n c) (hb : l.length + n ≤ 1073741824) (hbase : base ≤ w.heap.size)
    (h : ∀ A' c' w', E.Own w' base (.slice A' (l ++ m).length c') (l ++ m) → w.grownBy w' v.ownBlock → wpList Tryd.prog ops Q rest (a.put o.dst (.slice A' (l ++ m).length c')) w') :
    wpList Tryd.prog ops Q (o :: rest) a w := by
  by_cases h0 : n = 0
  · obtain rfl : m = [] := List.eq_nil_of_length_eq_zero (by omega)
    subst h0
    refine El.wpList_append_none T hT hgd s x ho base v l hs hown A c hx ?_
    obtain ⟨A', c', rfl, -, -⟩ := hown.has
    have := h A' c' w (by rw [List.append_nil]; exact hown) (World.grownBy.refl _ _)
    rw [List.append_nil] at this
    exact this
  · obtain ⟨b, d, _, rfl, -⟩ := hm.spot (k := 0) (by omega)
    refine El.wpList_append T hT hgd s x ho base v l hs hown ⟨b, d, none⟩ c n m hn hx hm.news (by omega) hb hbase w.heap.size rfl ?_
    intro g cap w' h1 h2 _ _
    have e : l.length + n = (l ++ m).length := by rw [List.length_append, hn]
    rw [e] at h1 ⊢
    exact h _ _ w' h1 h2
end
set_option maxHeartbeats 2000000 in
theorem l6Put_any (b d c : Nat) (l : List Op) (at_ many : Nat) (A2 : Option Addr) (c2 : Nat) (m : List Op) (w : World) (h1 : at_ + many ≤ l.length) (hc : l.length ≤ c) (hl : l.length ≤ 1000) (hml : m.length ≤ 1000) (h : opE.Has w w.heap.size (some ⟨b, d, none⟩) l) (hm : opE.Has w w.heap.size A2 m) :
    Calls Tryd.prog 78 #[.slice (some ⟨b, d, none⟩) l.length c, .int .i64 (at_ : Int), .int .i64 (many : Int), .slice A2 m.length c2] w fun e w' => ∃ A' c', e = .returned (.slice A' (l.take at_ ++ m ++ l.drop (at_ + many)).length c') ∧ opE.Own w' w.heap.size (.slice A' (l.take at_ ++ m ++ l.drop (at_ + many)).length c') (l.take at_ ++ m ++ l.drop (at_ + many)) ∧ Below w.heap.size w w' := by
  have ho0 : opE.Own (w.alloc (.cells #[] 49)) w.heap.size (.slice (some ⟨w.heap.size, 0, none⟩) 0 0) [] := El.own_empty opE (Nat.le_refl _)
  have hb0 : Below w.heap.size w (w.alloc (.cells #[] 49)) := (Below.refl _ w).alloc (Nat.le_refl _) _
  obtain ⟨N, hN⟩ : ∃ N, l.length = N := ⟨_, rfl⟩
  obtain ⟨M, hM⟩ : ∃ M, m.length = M := ⟨_, rfl⟩
  obtain ⟨S, hS⟩ : ∃ S, at_ + many = S := ⟨_, rfl⟩
  have htl : (l.take at_).length = at_ := by rw [List.length_take]; omega
  have hdl : (l.drop S).length = N - S := by rw [List.length_drop, hN]
  have HO0 := Lib.hid ho0
  have HB0 := Lib.hid hb0
  have HH := Lib.hid fun u (hb : Below w.heap.size w u) => h.below hb
  have HM := Lib.hid fun u (hb : Below w.heap.size w u) => hm.below hb
  have HLN := Lib.hid (And.intro hN (And.intro hM (And.intro htl hdl)))
  have HE2 : Hid ((l.take at_ ++ m).length = at_ + M) := Lib.hid (by rw [List.length_append, htl, hM])
  have HE3 : Hid ((l.take at_ ++ m ++ l.drop S).length = at_ + M + (N - S)) := Lib.hid (by rw [List.length_append, HE2.out, hdl])
  have hSI : (at_ : Int) + (many : Int) = (S : Int) := by omega
  rw [hN] at h1 hc hl ⊢
  rw [hM] at hml ⊢
  rw [hS] at h1 ⊢
  rw [HE3.out]
  have hp1 : (0 : Int) ≤ (at_ : Int) ∧ (at_ : Int) ≤ (c : Int) := by omega
  have hp2 : (0 : Int) ≤ (S : Int) ∧ (S : Int) ≤ (N : Int) ∧ (N : Int) ≤ (c : Int) := by omega
  have hp3 : at_ ≤ c ∧ S ≤ N := by omega
  have u1 := IntWalk.i64_in (S : Int) (by omega)
  have HK := Lib.hid (And.intro h1 (And.intro hc (And.intro hl hml)))
  clear ho0 hb0 h hm hN hM hS htl hdl h1 hc hl hml
  by_cases hcs : c = S
  · have hNS : N - S = 0 := by have := HK.out; omega
    have HD0 : Hid (l.drop S = []) := Lib.hid (List.eq_nil_of_length_eq_zero (by rw [HLN.out.2.2.2, hNS]))
    have HNS := Lib.hid hNS
    subst hcs
    have hcn : N = c := by have := HK.out; omega
    subst hcn
    go_enter Tryd.func78, Tryd.ntmps78
    go_wp2_with (first
      | (at_builtin; refine El.wpList_pushAll (E := opE) 34 Tryd.underlying34 rfl (.tmp 10) (.tmp 13) rfl w.heap.size (.slice (some ⟨w.heap.size, 0, none⟩) 0 0) [] rfl HO0.out w.heap.size (some ⟨b, d, none⟩) N at_ (l.take at_) HLN.out.2.2.1 ((HH.out _ HB0.out).takeN at_) rfl (by have := HK.out; simp; omega) HB0.out.size ?_; intro A3 c3 w3 ho3 hg3; rw [List.nil_append, HLN.out.2.2.1] at ho3; rw [List.nil_append, HLN.out.2.2.1]; have HB3 := Lib.hid (HB0.out.grown hg3 HB0.out.size (fun q e => (World.ownsRow.lt HO0.out q e).1)); have HO3 := Lib.hid ho3; clear ho3 hg3)
      | (at_builtin; refine El.wpList_pushAll (E := opE) 34 Tryd.underlying34 rfl (.tmp 15) (.tmp 16) rfl w.heap.size (.slice A3 at_ c3) (l.take at_) rfl HO3.out w.heap.size A2 c2 M m HLN.out.2.1 (HM.out _ HB3.out) rfl (by have := HK.out; have := HLN.out; omega) HB3.out.size ?_; intro A4 c4 w4 ho4 hg4; rw [HE2.out] at ho4; rw [HE2.out]; have HB4 := Lib.hid (HB3.out.grown hg4 HB3.out.size (fun q e => (World.ownsRow.lt HO3.out q e).1)); have HO4 := Lib.hid ho4; clear ho4 hg4)
      | (at_builtin; refine El.wpList_pushAll (E := opE) 34 Tryd.underlying34 rfl (.tmp 18) (.tmp 23) rfl w.heap.size (.slice A4 (at_ + M) c4) (l.take at_ ++ m) rfl HO4.out w.heap.size (some ⟨b, d, none⟩) 0 0 (l.drop N) (by rw [HLN.out.2.2.2]; exact HNS.out) (by rw [HD0.out]; exact El.Has.nil) rfl (by have := HK.out; rw [HE2.out]; omega) HB4.out.size ?_; intro A5 c5 w5 ho5 hg5; rw [HE3.out] at ho5; rw [HE3.out]; have HE := Lib.hid (And.intro ho5 (HB4.out.grown hg5 HB4.out.size (fun q e => (World.ownsRow.lt HO4.out q e).1))); clear ho5 hg5))
    go_ret
    exact ⟨A5, c5, by rw [hNS]; rfl, HE.out.1, HE.out.2⟩
  · go_enter Tryd.func78, Tryd.ntmps78
    go_wp2_with (first
      | (at_builtin; refine El.wpList_pushAll (E := opE) 34 Tryd.underlying34 rfl (.tmp 10) (.tmp 13) rfl w.heap.size (.slice (some ⟨w.heap.size, 0, none⟩) 0 0) [] rfl HO0.out w.heap.size (some ⟨b, d, none⟩) c at_ (l.take at_) HLN.out.2.2.1 ((HH.out _ HB0.out).takeN at_) rfl (by have := HK.out; simp; omega) HB0.out.size ?_; intro A3 c3 w3 ho3 hg3; rw [List.nil_append, HLN.out.2.2.1] at ho3; rw [List.nil_append, HLN.out.2.2.1]; have HB3 := Lib.hid (HB0.out.grown hg3 HB0.out.size (fun q e => (World.ownsRow.lt HO0.out q e).1)); have HO3 := Lib.hid ho3; clear ho3 hg3)
      | (at_builtin; refine El.wpList_pushAll (E := opE) 34 Tryd.underlying34 rfl (.tmp 15) (.tmp 16) rfl w.heap.size (.slice A3 at_ c3) (l.take at_) rfl HO3.out w.heap.size A2 c2 M m HLN.out.2.1 (HM.out _ HB3.out) rfl (by have := HK.out; have := HLN.out; omega) HB3.out.size ?_; intro A4 c4 w4 ho4 hg4; rw [HE2.out] at ho4; rw [HE2.out]; have HB4 := Lib.hid (HB3.out.grown hg4 HB3.out.size (fun q e => (World.ownsRow.lt HO3.out q e).1)); have HO4 := Lib.hid ho4; clear ho4 hg4)
      | (at_builtin; refine El.wpList_pushAll (E := opE) 34 Tryd.underlying34 rfl (.tmp 18) (.tmp 23) rfl w.heap.size (.slice A4 (at_ + M) c4) (l.take at_ ++ m) rfl HO4.out w.heap.size (some ⟨b, d + S * 5, none⟩) (c - S) (N - S) (l.drop S) HLN.out.2.2.2 ((HH.out _ HB4.out).dropAt S) rfl (by have := HK.out; rw [HE2.out]; omega) HB4.out.size ?_; intro A5 c5 w5 ho5 hg5; rw [HE3.out] at ho5; rw [HE3.out]; have HE := Lib.hid (And.intro ho5 (HB4.out.grown hg5 HB4.out.size (fun q e => (World.ownsRow.lt HO4.out q e).1))); clear ho5 hg5))
    go_ret
    exact ⟨A5, c5, rfl, HE.out.1, HE.out.2⟩
theorem four_of {l : List Op} {j : Nat} (h : ∀ i, i < 4 → ∃ x, l[j + i]? = some x ∧ x.k = 4) : four (l.drop j) = true := by
  have hl : j + 4 ≤ l.length := by
    obtain ⟨x, hx, -⟩ := h 3 (by omega)
    have := (List.getElem?_eq_some_iff.1 hx).1
    omega
  unfold four
  rw [Bool.and_eq_true]
  refine ⟨decide_eq_true (by rw [List.length_drop]; omega), ?_⟩
  rw [List.all_eq_true]
  intro x hx
  obtain ⟨i, hi, e⟩ := List.getElem_of_mem hx
  have hi4 : i < 4 := by rw [List.length_take] at hi; omega
  obtain ⟨y, hy, hk⟩ := h i hi4
  rw [List.getElem_take, List.getElem_drop] at e
  rw [List.getElem?_eq_getElem (by omega)] at hy
  have e2 := Option.some.inj hy
  rw [← e, e2]
  exact beq_iff_eq.2 hk
theorem four_not {l : List Op} {j i : Nat} (hi : i < 4) (h : l.length ≤ j + i ∨ ∃ x, l[j + i]? = some x ∧ x.k ≠ 4) : four (l.drop j) = false := by
  cases hf : four (l.drop j)
  · rfl
  · exfalso
    unfold four at hf
    obtain ⟨h1, h2⟩ := Bool.and_eq_true_iff.1 hf
    have h1 := of_decide_eq_true h1
    rw [List.length_drop] at h1
    rcases h with h | ⟨x, hx, hk⟩
    · omega
    · rw [List.all_eq_true] at h2
      have hm : x ∈ (l.drop j).take 4 := by
        refine List.mem_of_getElem? (i := i) ?_
        rw [List.getElem?_take_of_lt hi, List.getElem?_drop]
        exact hx
      exact hk (beq_iff_eq.1 (h2 x hm))
set_option maxHeartbeats 2000000 in
theorem l6Four_any (A : Option Addr) (c : Nat) (l : List Op) (at_ : Nat) (w : World) (ha : at_ ≤ l.length) (hl : l.length ≤ 1000) (h : opE.Has w w.heap.size A l) :
    Calls Tryd.prog 77 #[.slice A l.length c, .int .i64 (at_ : Int)] w fun e w' => e = .returned (.bool (four (l.drop at_))) ∧ Below w.heap.size w w' := by
  obtain ⟨q, hq⟩ : ∃ q, four (l.drop at_) = q := ⟨_, rfl⟩
  have HQ := Lib.hid hq
  obtain ⟨N, hN⟩ : ∃ N, l.length = N := ⟨_, rfl⟩
  have HN := Lib.hid hN
  have HH := Lib.hid fun u (hb : Below w.heap.size w u) => h.below hb
  rw [hN] at ha hl ⊢
  rw [hq]
  have u1 := IntWalk.i64_in ((at_ : Int) + 4) (by omega)
  clear h hN hq
  go_enter Tryd.func77, Tryd.ntmps77
  go_wp2_with fail
  go_loopw [5] (fun v wr => ∃ i : Nat, i ≤ 4 ∧ v = .int .i64 ((at_ : Int) + (i : Int)) ∧ (∀ j, j < i → ∃ x, l[at_ + j]? = some x ∧ x.k = 4) ∧ Below w.heap.size w wr) (fun v _ => (at_ + 4) - (intOf v).toNat)
  case atStart => exact ⟨0, by omega, by simp, fun j hj => absurd hj (Nat.not_lt_zero _), Below.refl _ _⟩
  case round =>
    obtain ⟨i, hi, rfl, hal, hb⟩ := hrel
    have HAL := Lib.hid hal
    have HB := Lib.hid hb
    clear hal hb
    obtain ⟨k, hk⟩ : ∃ k, at_ + i = k := ⟨_, rfl⟩
    have hkI : (at_ : Int) + (i : Int) = (k : Int) := by omega
    rw [hkI]
    by_cases hlt : i < 4
    · have hk4 : (k : Int) < (at_ : Int) + 4 := by omega
      by_cases hkN : k < N
      · obtain ⟨b, o, x, rfl, hbB, hx, hc⟩ := (HH.out wr HB.out).spot (k := k) (by rw [HN.out]; exact hkN)
        have c0 := hc 0 _ rfl
        simp only [show opE.n = 5 from rfl, Nat.add_zero] at c0
        have HX := Lib.hid hx
        have hpI : (0 : Int) ≤ (k : Int) ∧ (k : Int) < (N : Int) := by omega
        have hge : ¬ (N : Int) ≤ (k : Int) := by omega
        clear hc hx hbB
        by_cases h4 : x.k = 4
        · have e4 : (x.k != 4) = false := by rw [h4]; rfl
          have HS : Hid (∀ j, j < i + 1 → ∃ x, l[at_ + j]? = some x ∧ x.k = 4) := Lib.hid fun j hj => by
            by_cases e : j = i
            · subst e
              exact ⟨x, by rw [hk]; exact HX.out, h4⟩
            · exact HAL.out j (by omega)
          clear h4
          go_wp2_with fail
          go_roundw
          case rel => exact ⟨i + 1, by omega, by rw [← hkI]; go_num, HS.out, HB.out⟩
          case measure => simp [intOf]; omega
        · have e4 : (x.k != 4) = true := bne_iff_ne.2 h4
          obtain rfl : q = false := by rw [← HQ.out]; exact four_not hlt (.inr ⟨x, by rw [hk]; exact HX.out, h4⟩)
          clear h4
          go_wp2_with fail
          go_ret
          exact ⟨rfl, HB.out⟩
      · have hge : (N : Int) ≤ (k : Int) := by omega
        obtain rfl : q = false := by rw [← HQ.out]; exact four_not hlt (.inl (by rw [HN.out]; omega))
        go_wp2_with fail
        go_ret
        exact ⟨rfl, HB.out⟩
    · have hk4 : ¬ (k : Int) < (at_ : Int) + 4 := by omega
      obtain rfl : q = true := by rw [← HQ.out]; exact four_of fun j hj => HAL.out j (by omega)
      go_wp2_with fail
      go_ret
      exact ⟨rfl, HB.out⟩
end Go.Proofs.YtiemlakjallphabDoor
