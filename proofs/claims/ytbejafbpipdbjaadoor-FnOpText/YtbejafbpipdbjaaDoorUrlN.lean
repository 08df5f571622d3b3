/-
  The scanner reads a number. Condition: the scanner's block holds a text; the listed variables hold what they must.
-/
import Derived.Test.YtbejafbpipdbjaaDoorUrlW
import Derived.Test.YtbejafbpipdbjaaDoorUrlE
namespace Go.Proofs.YtbejafbpipdbjaaDoor
set_option maxRecDepth 4000
open Go.RowKit

theorem rst_le (l : List UInt8) : (rst l).length ≤ l.length := by
  have := congrArg List.length (wd_rst l)
  rw [List.length_append] at this
  omega
theorem wd_le (l : List UInt8) : (wd l).length ≤ l.length := by
  have := congrArg List.length (wd_rst l)
  rw [List.length_append] at this
  omega
theorem scNum_ok {l : List UInt8} {v : Int} (h : Go.Lib.atoiAll l = .ok v) : (scNum l).1 = v ∧ (scNum l).2 = decide (Go.Lib.itoa v = l) := by
  unfold scNum
  rw [h]
  exact ⟨rfl, rfl⟩
set_option maxHeartbeats 1000000 in
/-- (*urlScanner).number. -/
theorem number_any (g B : Nat) (l : List UInt8) (ok : Bool) (w : World) (hl : l.length ≤ 1073741824) (h : Sc w g l ok) (hE : Env w B) (hB : B ≤ g) :
    Calls Tryd.prog 76 #[.pointer (some ⟨g, 0, none⟩)] w fun e w' => e = .returned (.int .i64 (scNum (wd l)).1) ∧ Sc w' g (rst l) (ok && (scNum (wd l)).2) ∧ w.grownBy w' (some g) := by
  have hBw : B ≤ w.heap.size := by
    obtain ⟨ev, hs, _⟩ := h
    have := Box.lt hs
    omega
  have HS := Lib.hid h
  have HT := Lib.hid fun (u : World) (hg : w.grownBy u (some g)) => hE.below (below_of_grown_at hg hB hBw)
  have HL := Lib.hid hl
  have CW := Lib.hid (word_sc g l)
  have CA := Lib.hid fun u (k : Env u B) => atoi_bs (wd l) (Nat.le_trans (wd_le l) HL.out) u k
  have CF := Lib.hid (fail_any g (rst l))
  have hq : ∀ a b : List UInt8, ((bs a).toList == (bs b).toList) = decide (a = b) := bs_eq
  clear h hE hl hB hBw
  go_enter Tryd.func76, Tryd.ntmps76
  go_wp2_with fail
  refine (CW.out ok _ HL.out HS.out).mono ?_
  rintro e w1 ⟨rfl, s1, g1⟩
  have HS1 := Lib.hid s1
  have HG1 := Lib.hid g1
  clear s1 g1
  go_wp2_with fail
  refine (CA.out _ (HT.out _ HG1.out)).mono ?_
  rintro e w2 ⟨hcase, b2⟩
  have HS2 := Lib.hid (HS1.out.next b2)
  have HG2 := Lib.hid (grown_trans HG1.out (grown_of_below b2))
  clear b2
  rcases hcase with ⟨v, hv, v0, v1, rfl⟩ | ⟨hbad, t, p, rfl⟩
  · obtain ⟨e1, e2⟩ := scNum_ok hv
    have CI := Lib.hid fun u (k : Env u B) => itoa_bs v u v0 v1 k.toEnvW
    obtain ⟨q, hq2⟩ : ∃ q, (scNum (wd l)).2 = q := ⟨_, rfl⟩
    have HQ := Lib.hid (e2.symm.trans hq2)
    have E1 := Lib.hid e1
    have E2 := Lib.hid hq2
    clear hv e1 e2 hq2
    go_wp2_with fail
    refine (CI.out _ (HT.out _ HG2.out)).mono ?_
    rintro e w3 ⟨rfl, b3⟩
    have HS3 := Lib.hid (HS2.out.next b3)
    have HG3 := Lib.hid (grown_trans HG2.out (grown_of_below b3))
    clear b3
    cases q
    · have hne : ¬ Go.Lib.itoa v = wd l := of_decide_eq_false HQ.out
      go_wp2_with fail
      refine (CF.out ok _ _ HS3.out).mono ?_
      rintro e w4 ⟨rfl, s4, g4⟩
      have HS4 := Lib.hid s4
      have HG4 := Lib.hid (grown_trans HG3.out g4)
      clear s4 g4
      go_wp2_with fail
      go_ret
      rw [E1.out, E2.out, Bool.and_false]
      exact ⟨rfl, HS4.out, HG4.out⟩
    · have hne : Go.Lib.itoa v = wd l := of_decide_eq_true HQ.out
      go_wp2_with fail
      go_ret
      rw [E1.out, E2.out, Bool.and_true]
      exact ⟨rfl, HS3.out, HG3.out⟩
  · have E2 := Lib.hid hbad
    clear hbad
    go_wp2_with fail
    refine (CF.out ok _ _ HS2.out).mono ?_
    rintro e w4 ⟨rfl, s4, g4⟩
    have HS4 := Lib.hid s4
    have HG4 := Lib.hid (grown_trans HG2.out g4)
    clear s4 g4
    go_wp2_with fail
    go_ret
    rw [E2.out, Bool.and_false]
    exact ⟨rfl, HS4.out, HG4.out⟩

/-! ### A list of numbers -/
theorem intOne (x : Int) : ∀ u ∈ [Value.int .i64 x], u.oneCell' = true := by
  intro u hu
  simp only [List.mem_cons, List.not_mem_nil, or_false] at hu
  subst hu
  rfl
def intE : El Int := { t := 3, n := 1, bytes := 8, z := .int .i64 0, cells := fun x => [.int .i64 x], len := fun _ => rfl, one := intOne, pos := by decide, small := by decide, zlen := rfl, info := by kernel_rfl }
theorem El.own_one {α : Type} (E : El α) (x : α) {base : Nat} (w : World) (h : base ≤ w.heap.size) : E.Own (w.alloc (.cells (E.cells x).toArray E.t)) base (.slice (some ⟨w.heap.size, 0, none⟩) 1 1) [x] := by
  have hn := E.len x
  refine ⟨by rw [E.flat_length], .inr ⟨w.heap.size, 1, (E.cells x).toArray, rfl, h, heap_alloc_new w _, Nat.le_refl _, by unfold maxLen; omega, by simp [hn], ?_⟩⟩
  rw [E.flat_cons, E.flat_nil, List.append_nil]
  show ((E.cells x).toArray.toList).take (1 * E.n) = E.cells x
  rw [Nat.one_mul, ← hn, List.take_length]
theorem own_one (x : Int) {base : Nat} (w : World) (h : base ≤ w.heap.size) : intE.Own (w.alloc (.cells #[.int .i64 x] 3)) base (.slice (some ⟨w.heap.size, 0, none⟩) 1 1) [x] := El.own_one intE x w h
theorem El.own_ne_box {α : Type} {E : El α} {w : World} {base p q : Nat} {v : Value} {l : List α} {cs : Array Value} {t : TypeId} (h : E.Own w base v l) (hb : Box w p cs t) (ht : E.t ≠ t) (hq : v.ownBlock = some q) : q ≠ p := by
  rintro rfl
  rcases h.2 with ⟨rfl, _⟩ | ⟨g, cap, cur, rfl, _, hg, _⟩
  · simp [Value.ownBlock] at hq
  · simp [Value.ownBlock] at hq
    subst hq
    unfold Box at hb
    rw [hg] at hb
    injection hb with hb
    injection hb with _ e _
    exact ht e
/-- The scanner stands where a row of the call's own grows. -/
theorem Sc.push {α : Type} {E : El α} {w w' : World} {base g : Nat} {v : Value} {l : List α} {m : List UInt8} {ok : Bool} (h : Sc w g m ok) (ho : E.Own w base v l) (hg : w.grownBy w' v.ownBlock) (h1 : E.t ≠ 101) (h2 : E.t ≠ 112) : Sc w' g m ok := by
  obtain ⟨ev, hs, hb⟩ := h
  refine ⟨ev, Box.grown hs hg (fun e => El.own_ne_box ho hs h1 e rfl), ?_⟩
  rcases hb with hb | ⟨k1, p, y, k2, k3⟩
  · exact .inl hb
  · exact .inr ⟨k1, p, y, k2, k3.grown hg (fun e => El.own_ne_box ho k3 h2 e rfl)⟩
def roomL (N : Nat) (v : Value) : Nat := match v with | .slice _ n _ => N - n | _ => 0
theorem cutP_cons (c : UInt8) (l : List UInt8) : cutP [c] (c :: l) = l := by simp [cutP]
theorem cutP_le (p l : List UInt8) : (cutP p l).length ≤ l.length := by
  unfold cutP
  split
  · rw [List.length_drop]; omega
  · exact Nat.le_refl _
theorem head_pre {c : UInt8} {l : List UInt8} : List.isPrefixOf [c] l = true ↔ ∃ t, l = c :: t := by
  cases l with
  | nil => simp
  | cons x l =>
    simp only [List.isPrefixOf, Bool.and_true, beq_iff_eq, List.cons.injEq, exists_and_left]
    exact ⟨fun h => ⟨h.symm, l, rfl⟩, fun h => h.1.symm⟩
theorem head_no {c : UInt8} {l : List UInt8} (h : List.isPrefixOf [c] l = false) : l.head? ≠ some c ∧ cutP [c] l = l := by
  refine ⟨?_, by unfold cutP; rw [h]; rfl⟩
  intro hh
  cases l with
  | nil => cases hh
  | cons x l =>
    injection hh with hh
    subst hh
    simp at h
set_option maxHeartbeats 2000000 in
/-- scanList of numbers. -/
theorem scanInts_any (g B : Nat) (l : List UInt8) (ok : Bool) (w : World) (hl : l.length ≤ 1048576) (h : Sc w g l ok) (hE : Env w B) (hB : B ≤ g) :
    Calls Tryd.prog 75 #[.pointer (some ⟨g, 0, none⟩), .string (bs [46]), .func (.func 76) #[] #[]] w fun e w' =>
      ∃ A c ns r q, Many 46 NumR (46 :: l) ns r q ∧ e = .returned (.slice A ns.length c) ∧ ns.length ≤ l.length + 1 ∧ r.length ≤ l.length ∧ intE.Own w' w.heap.size (.slice A ns.length c) ns ∧ Sc w' g r (ok && q) ∧ w.grownBy w' (some g) := by
  have hBw : g < w.heap.size := by
    obtain ⟨ev, hs, _⟩ := h
    exact Box.lt hs
  have HS := Lib.hid h
  have HT := Lib.hid fun (u : World) (hg : w.grownBy u (some g)) => hE.below (below_of_grown_at hg hB (by omega))
  have HL := Lib.hid hl
  have HBB := Lib.hid (And.intro hB hBw)
  have CN := Lib.hid fun (m : List UInt8) (k : Bool) (u : World) (hm : m.length ≤ 1048576) (hs : Sc u g m k) (hg : w.grownBy u (some g)) => number_any g B m k u (by omega) hs (HT.out u hg) hB
  have CF := Lib.hid fun (m : List UInt8) (k : Bool) (u : World) (hs : Sc u g m k) => follows_any g m [46] k u hs
  clear h hE hl hB hBw
  go_enter Tryd.func75, Tryd.ntmps75
  go_wp2_with fail
  refine (CN.out l ok _ HL.out HS.out (World.grownBy.refl _ _)).mono ?_
  rintro e w1 ⟨rfl, s1, g1⟩
  have hz1 := g1.size
  have ho1 := own_one (scNum (wd l)).1 w1 hz1
  have HS1 := Lib.hid (s1.next ((Below.refl _ w1).alloc (Nat.le_refl _) (.cells #[.int .i64 (scNum (wd l)).1] 3)))
  have HG1 := Lib.hid (grown_trans g1 (World.grownBy_alloc w1 (.cells #[.int .i64 (scNum (wd l)).1] 3) _))
  have HO1 := Lib.hid ho1
  clear s1 g1 hz1 ho1
  go_wp2_with fail
  go_loopw [7] (fun v wr => ∃ (A : Option Addr) (c : Nat) (xs : List Int) (m : List UInt8) (q : Bool), v = .slice A xs.length c ∧ xs.length + m.length ≤ l.length + 1 ∧ m.length ≤ l.length ∧ intE.Own wr w.heap.size (.slice A xs.length c) xs ∧ Sc wr g m (ok && q) ∧ w.grownBy wr (some g) ∧
      (∀ ys r q', Many 46 NumR m ys r q' → Many 46 NumR (46 :: l) (xs ++ ys) r (q && q'))) (fun v _ => roomL (l.length + 2) v)
  case atStart =>
    refine ⟨_, 1, [(scNum (wd l)).1], rst l, (scNum (wd l)).2, rfl, ?_, rst_le l, HO1.out, HS1.out, HG1.out, fun ys r q' hm => Many.more ⟨rfl, rfl, rfl⟩ hm⟩
    have := rst_le l
    simp
    omega
  case round =>
    obtain ⟨A, c, xs, m, q, rfl, hlen, hml, ho, hs, hg, hmany⟩ := hrel
    have HO := Lib.hid ho
    have HSm := Lib.hid hs
    have HG := Lib.hid hg
    have HM := Lib.hid hmany
    have HLE := Lib.hid (And.intro hlen hml)
    clear ho hs hg hmany hlen hml HO1 HS1 HG1
    go_wp2_with fail
    refine (CF.out m _ _ HSm.out).mono ?_
    rintro e w2 ⟨rfl, s2, g2⟩
    have HS2 := Lib.hid s2
    have HG2 := Lib.hid (grown_trans HG.out g2)
    have HO2 := Lib.hid (HO.out.low_grown g2 HBB.out.2)
    clear s2 g2 HO HSm HG
    obtain ⟨p, hp⟩ : ∃ p, List.isPrefixOf [46] m = p := ⟨_, rfl⟩
    rw [hp]
    cases p
    · obtain ⟨h1, h2⟩ := head_no hp
      rw [h2] at HS2
      have HH := Lib.hid h1
      clear h1 h2 hp
      go_wp2_with fail
      go_ret
      have hm := HM.out [] m true (.stop HH.out)
      rw [List.append_nil, Bool.and_true] at hm
      exact ⟨A, c, xs, m, q, hm, rfl, by have := HLE.out; omega, HLE.out.2, HO2.out, HS2.out, HG2.out⟩
    · obtain ⟨t, rfl⟩ := head_pre.mp hp
      rw [cutP_cons] at HS2
      clear hp
      have htl : t.length + 1 = (46 :: t).length := rfl
      have HLT := Lib.hid (show xs.length + t.length ≤ l.length ∧ t.length ≤ l.length by have := HLE.out; omega)
      clear htl
      go_wp2_with fail
      refine (CN.out t _ _ (by have := HLT.out; have := HL.out; omega) HS2.out HG2.out).mono ?_
      rintro e w3 ⟨rfl, s3, g3⟩
      have HM3 := Lib.hid fun ys r q' (k : Many 46 NumR (rst t) ys r q') => HM.out _ r _ (Many.more (part := NumR) (x := (scNum (wd t)).1) (g := (scNum (wd t)).2) (sep := 46) ⟨rfl, rfl, rfl⟩ k)
      obtain ⟨x, hx⟩ : ∃ x, (scNum (wd t)).1 = x := ⟨_, rfl⟩
      obtain ⟨q3, hq3⟩ : ∃ q3, (scNum (wd t)).2 = q3 := ⟨_, rfl⟩
      rw [hx, hq3] at HM3
      rw [hq3] at s3
      rw [hx]
      have hr3 := rst_le t
      have HL3 := Lib.hid (show xs.length + 1 + (rst t).length ≤ l.length + 1 ∧ (rst t).length ≤ l.length by have := HLT.out; omega)
      generalize rst t = m3 at *
      clear hx hq3 hr3 HLT HLE HM
      have HO3 := Lib.hid (HO2.out.low_grown g3 HBB.out.2)
      have HG3 := Lib.hid (grown_trans HG2.out g3)
      have HS3 := Lib.hid s3
      clear g3 s3 HO2 HG2 HS2
      obtain ⟨G, hG⟩ : ∃ G, w3.heap.size = G := ⟨_, rfl⟩
      have hGw : w.heap.size ≤ G := by rw [← hG]; exact HG3.out.size
      have HBX : Hid (Box (w3.alloc (.cells #[.int .i64 x] 3)) G (intE.cells x).toArray 3) := Lib.hid (by rw [← hG]; exact Box.new w3 _ _)
      go_wp2_with (at_builtin; refine El.wpList_append (E := intE) 59 Tryd.underlying59 rfl _ _ rfl w.heap.size (.slice A xs.length c) xs rfl (El.Own.alloc (E := intE) HO3.out _) ⟨G, 0, none⟩ 1 1 [x] rfl rfl (Box.news (E := intE) (x := x) HBX.out) (by decide) (by have := HL3.out; have := HL.out; omega) (by simp; omega) _ rfl ?_; intro g4 cap w4 hown4 hgr4 hg4 hcap4)
      have hoa := El.Own.alloc (E := intE) HO3.out (.cells #[.int .i64 x] 3)
      have HS4 := Lib.hid ((HS3.out.next ((Below.refl _ w3).alloc (Nat.le_refl _) (.cells #[.int .i64 x] 3))).push hoa hgr4 (by decide) (by decide))
      have HG4 := Lib.hid (grown_own (grown_trans HG3.out (World.grownBy_alloc w3 (.cells #[.int .i64 x] 3) (some g))) hgr4 (fun k hk => (World.ownsRow.lt hoa k hk).1))
      have HO4 := Lib.hid hown4
      have hl1 : xs.length + 1 = (xs ++ [x]).length := by simp
      clear hoa hgr4 hown4 hg4 hcap4 HBX
      go_roundw
      case rel =>
        refine ⟨_, cap, xs ++ [x], m3, q && q3, by rw [← hl1], by rw [← hl1]; exact HL3.out.1, HL3.out.2, by rw [← hl1]; exact HO4.out, by rw [← Bool.and_assoc]; exact HS4.out, HG4.out, fun ys r q' k => ?_⟩
        rw [List.append_assoc, Bool.and_assoc]
        exact HM3.out ys r q' k
      case measure =>
        have := HL3.out
        simp [roomL]
        omega
end Go.Proofs.YtbejafbpipdbjaaDoor
