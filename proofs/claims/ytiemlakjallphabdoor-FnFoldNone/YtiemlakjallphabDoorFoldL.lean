/-
  The seven rules as the program has them. Conditions as they stand.
-/
import Derived.Test.YtiemlakjallphabDoorFoldK
import Derived.Test.YtiemlakjallphabDoorFoldJ
import Derived.Test.YtiemlakjallphabDoorStepA
namespace Go.Proofs.YtiemlakjallphabDoor
set_option maxRecDepth 4000
open Go.RowKit

/-- The functions of the rules. -/
def fnOf : FoldBy → FuncId
  | .none => 107
  | .first => 108
  | .equal => 109
  | .parts => 110
def Rule.cells (r : Rule) : List Value := [.int .i64 r.kind, .int .i64 (r.size : Int), .func (.func (fnOf r.by_)) #[] #[]]
def rulesCells : Array Value := (rules7.flatMap Rule.cells).toArray
theorem rule_at {w : World} {g : Nat} (h : Box w g rulesCells 97) {i : Nat} {r : Rule} (hr : rules7[i]? = some r) :
    w.cell? ⟨g, i * 3, none⟩ = some (.int .i64 r.kind) ∧ w.cell? ⟨g, i * 3 + 1, none⟩ = some (.int .i64 (r.size : Int)) ∧ w.cell? ⟨g, i * 3 + 2, none⟩ = some (.func (.func (fnOf r.by_)) #[] #[]) := by
  match i, hr with
  | 0, hr => obtain rfl := Option.some.inj hr; exact ⟨h.cell rfl, h.cell rfl, h.cell rfl⟩
  | 1, hr => obtain rfl := Option.some.inj hr; exact ⟨h.cell rfl, h.cell rfl, h.cell rfl⟩
  | 2, hr => obtain rfl := Option.some.inj hr; exact ⟨h.cell rfl, h.cell rfl, h.cell rfl⟩
  | 3, hr => obtain rfl := Option.some.inj hr; exact ⟨h.cell rfl, h.cell rfl, h.cell rfl⟩
  | 4, hr => obtain rfl := Option.some.inj hr; exact ⟨h.cell rfl, h.cell rfl, h.cell rfl⟩
  | 5, hr => obtain rfl := Option.some.inj hr; exact ⟨h.cell rfl, h.cell rfl, h.cell rfl⟩
  | 6, hr => obtain rfl := Option.some.inj hr; exact ⟨h.cell rfl, h.cell rfl, h.cell rfl⟩
  | i + 7, hr => cases hr
theorem foldRules_any (w : World) : Calls Tryd.prog 80 #[] w fun e w' => e = .returned (.slice (some ⟨w.heap.size, 0, none⟩) 7 7) ∧ Box w' w.heap.size rulesCells 97 ∧ Below w.heap.size w w' := by
  go_enter Tryd.func80, Tryd.ntmps80
  go_wp2_with fail
  go_ret
  exact ⟨rfl, Box.new w rulesCells _, (Below.refl _ _).alloc (Nat.le_refl _) _⟩
theorem fnOf_enter (f : FoldBy) (args : Array Value) (v : World) : (callFunc (fnOf f) args).run Tryd.prog v = .ok (.enter (fnOf f) args) v := by
  cases f
  · exact run_enter Tryd.func107 (by kernel_rfl) rfl args v
  · exact run_enter Tryd.func108 (by kernel_rfl) rfl args v
  · exact run_enter Tryd.func109 (by kernel_rfl) rfl args v
  · exact run_enter Tryd.func110 (by kernel_rfl) rfl args v
theorem fits_len {r : Rule} {l : List Op} (h : r.fits l = true) : r.size ≤ l.length := by
  unfold Rule.fits at h
  exact of_decide_eq_true (Bool.and_eq_true_iff.1 h).1
theorem says_fits {r : Rule} {l s : List Op} (h : r.says l = some s) : r.fits l = true := by
  cases hf : r.fits l
  · rw [says_not hf] at h; cases h
  · rfl
/-- A rule of the seven is applied. -/
theorem apply7_any (r : Rule) (hr : r ∈ rules7) (A : Option Addr) (n c : Nat) (l : List Op) (w : World) (hn : l.length = n) (hc : n ≤ c) (hl : n ≤ 1000) (hal : l.all opB = true) (h : opE.Has w w.heap.size A l) :
    Calls Tryd.prog 81 #[.agg #[.int .i64 r.kind, .int .i64 (r.size : Int), .func (.func (fnOf r.by_)) #[] #[]], .slice A n c] w (GaveM (r.says l) w) := by
  have hsz : 1 ≤ r.size ∧ r.size ≤ 4 := by
    simp only [rules7, List.mem_cons, List.not_mem_nil, or_false] at hr
    rcases hr with rfl | rfl | rfl | rfl | rfl | rfl | rfl <;> decide
  refine apply_any r (fnOf r.by_) A n c l w hsz hn hc hl h (fnOf_enter r.by_) fun hf b o v hA hb => ?_
  subst hA
  have hh : opE.Has v v.heap.size (some ⟨b, o, none⟩) l := (h.below hb).wider hb.size
  have hlen := fits_len hf
  have two : r.size = 2 → ∃ x y t, l = x :: y :: t ∧ x.k = r.kind ∧ y.k = r.kind ∧ opB x = true ∧ opB y = true ∧ l.take r.size = [x, y] := by
    intro h2
    match l, hlen, hf, hal with
    | [], hlen, _, _ => rw [h2] at hlen; simp at hlen
    | [_], hlen, _, _ => rw [h2] at hlen; simp at hlen
    | x :: y :: t, _, hf, hal =>
      rw [fits_two h2, Bool.and_eq_true, beq_iff_eq, beq_iff_eq] at hf
      rw [List.all_cons, List.all_cons, Bool.and_eq_true, Bool.and_eq_true] at hal
      exact ⟨x, y, t, rfl, hf.1, hf.2, hal.1, hal.2.1, by rw [h2]; rfl⟩
  simp only [rules7, List.mem_cons, List.not_mem_nil, or_false] at hr
  rcases hr with rfl | rfl | rfl | rfl | rfl | rfl | rfl
  · exact toNone_any _ _ _ _
  · exact toNone_any _ _ _ _
  · exact toNone_any _ _ _ _
  · have := toFirst_any b o 2 c (l.take 2) v (by rw [List.length_take]; simp only at hlen; omega) (by rw [List.length_take]; omega) (by simp only at hlen; omega) (hh.takeN 2)
    exact this
  · have := toFirst_any b o 2 c (l.take 2) v (by rw [List.length_take]; simp only at hlen; omega) (by rw [List.length_take]; omega) (by simp only at hlen; omega) (hh.takeN 2)
    exact this
  · obtain ⟨x, y, t, rfl, hx, hy, hx2, hy2, ht⟩ := two rfl
    have h7 : ∀ z : Op, z.k = 7 → opB z = true → z.c = 0 ∧ z.d = 0 := by
      rintro ⟨k, a, b, c, d⟩ hk hz
      have := op_lim hz
      simp only at hk ⊢
      omega
    have := foldEqual_any b o c x y v (hx.trans hy.symm) ⟨(h7 x hx hx2).1, (h7 y hy hy2).1⟩ ⟨(h7 x hx hx2).2, (h7 y hy hy2).2⟩ (by simp at hn; omega) (hh.takeN 2)
    exact this
  · obtain ⟨x, y, t, rfl, hx, hy, hx2, hy2, ht⟩ := two rfl
    have := foldParts_any b o c x y v hx2 hy2 hx hy (by simp at hn; omega) (hh.takeN 2)
    exact this
end Go.Proofs.YtiemlakjallphabDoor
