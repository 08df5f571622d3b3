/-
  The program's dictionary of a packer: a node is a code, its children lie in a map of its own; longest walks it. Condition: the block holds such a dictionary.
-/
import Derived.Test.YtnnpjcbdcjdojaaPakSA
import Derived.Maps.OwnSet
import Derived.Maps.OwnOps
import Derived.Maps.Views
namespace Go.Proofs.Ytnnpjcbdcjdojaa
set_option maxRecDepth 4000
open Go.RowKit Go.Maps

theorem law8 : Keyed Try.prog 5 := int_keyed Try.underlying5
theorem zeroI (w : World) : (zeroValue 3).run Try.prog w = .ok (.int .i64 0) w := by kernel_rfl
/-- A byte as a key. -/
def key8 (b : UInt8) : Lit := .int .u8 (b.toNat : Int)
theorem key8_wf (b : UInt8) : (Lit.int .u8 (b.toNat : Int)).wf = true := by
  have := b.toNat_lt
  simp [Lit.wf]
  have e0 : IntKind.u8.min = 0 := rfl
  have e1 : IntKind.u8.max = 255 := rfl
  omega
theorem key8_of (b : UInt8) : keyOf Try.prog 5 (.int .u8 (b.toNat : Int)) = some (key8 b) := keyOf_int_mk Try.underlying5 (key8_wf b)
theorem key8_inj {a b : UInt8} (h : key8 a = key8 b) : a = b := by
  injection h with _ h
  exact UInt8.toNat_inj.1 (by omega)
/-- Block k is a map from bytes to numbers that answers as f. -/
def MapIs (w : World) (k n : Nat) (f : UInt8 → Option Nat) : Prop :=
  ∃ D : DataW Unit, w.ownsMap Try.prog 5 (plainElem Try.prog 3) k n D ∧ ∀ b, (f b = none → Maps.has D (key8 b) = false) ∧ ∀ v, f b = some v → Maps.has D (key8 b) = true ∧ D.atKey (key8 b) (.lit (.int .i64 0)) = .lit (.int .i64 (v : Int))
theorem MapIs.look {w : World} {k n : Nat} {f : UInt8 → Option Nat} (h : MapIs w k n f) (b : UInt8) : ∃ z : Int, (Instr.lookup 149 (.map (some k)) (.int .u8 (b.toNat : Int)) true).run Try.prog w = .ok (.tuple #[.int .i64 z, .bool (f b).isSome]) w ∧ ∀ v, f b = some v → z = (v : Int) := by
  obtain ⟨D, ho, hf⟩ := h
  obtain ⟨v, ps, hrun, hv⟩ := ho.look_ok law8 Try.underlying149 (zeroI w) (plainElem_int Try.underlying3 (by decide)) (key8_of b)
  obtain ⟨a, rfl, ha, -⟩ := plainElem_int_inv Try.underlying3 hv
  simp only [Prod.mk.injEq] at ha
  refine ⟨a, ?_, fun v hv => ?_⟩
  · rw [hrun]
    cases e : f b with
    | none => rw [(hf b).1 e]; rfl
    | some v => rw [((hf b).2 v e).1]; rfl
  · have := ((hf b).2 v hv).2
    rw [ha.1] at this
    injection this with this
    injection this
theorem look_none (w : World) (b : UInt8) : (Instr.lookup 149 (.map none) (.int .u8 (b.toNat : Int)) true).run Try.prog w = .ok (.tuple #[.int .i64 0, .bool false]) w :=
  Maps.look_nil true law8 Try.underlying149 (zeroI w) (key8_of b)
theorem MapIs.lt {w : World} {k n : Nat} {f : UInt8 → Option Nat} (h : MapIs w k n f) : ∃ es cl, w.heap[k]? = some (.map es cl) := by
  obtain ⟨D, ⟨es, cl, hb, -⟩, -⟩ := h
  exact ⟨es, cl, hb⟩
theorem MapIs.kept {w w' : World} {k n : Nat} {f : UInt8 → Option Nat} (h : MapIs w k n f) (hk : w'.heap[k]? = w.heap[k]?) : MapIs w' k n f := by
  obtain ⟨D, ⟨es, cl, hb, r⟩, hf⟩ := h
  exact ⟨D, ⟨es, cl, hk.trans hb, r⟩, hf⟩
theorem MapIs.mono {w : World} {k n n' : Nat} {f : UInt8 → Option Nat} (h : MapIs w k n f) (hn : n ≤ n') : MapIs w k n' f := by
  obtain ⟨D, ho, hf⟩ := h
  exact ⟨D, ho.mono hn, hf⟩
theorem MapIs.same {w : World} {k n : Nat} {f f' : UInt8 → Option Nat} (h : MapIs w k n f) (hf : ∀ b, f' b = f b) : MapIs w k n f' := by
  obtain ⟨D, ho, hD⟩ := h
  exact ⟨D, ho, fun b => by rw [hf b]; exact hD b⟩
theorem mapIs_new (w : World) (f : UInt8 → Option Nat) (hf : ∀ b, f b = none) : MapIs (w.alloc (.map #[] 0)) w.heap.size 0 f :=
  ⟨.map [], World.ownsMap_made w _ _ _, fun b => ⟨fun _ => rfl, fun v hv => by rw [hf b] at hv; cases hv⟩⟩
/-- 'm[x] = v'. -/
theorem MapIs.put {w' : World} {k n : Nat} {f f' : UInt8 → Option Nat} {D : DataW Unit} (hM : IsMap D) (hD : ∀ b, (f b = none → Maps.has D (key8 b) = false) ∧ ∀ v, f b = some v → Maps.has D (key8 b) = true ∧ D.atKey (key8 b) (.lit (.int .i64 0)) = .lit (.int .i64 (v : Int))) (x : UInt8) (v : Nat) (ho : w'.ownsMap Try.prog 5 (plainElem Try.prog 3) k n (D.put (key8 x) (.lit (.int .i64 (v : Int))))) (h1 : f' x = some v) (h2 : ∀ b, b ≠ x → f' b = f b) : MapIs w' k n f' := by
  have hkl : WideAt.IsKeyLit (key8 x) := by unfold WideAt.IsKeyLit key8; simp
  refine ⟨_, ho, fun b => ?_⟩
  by_cases hb : b = x
  · subst hb
    rw [h1]
    refine ⟨fun h => (by cases h), fun u hu => ?_⟩
    injection hu with hu
    subst hu
    exact ⟨Maps.has_put_same hM hkl _, Maps.atKey_put_same hM hkl _ _⟩
  · have hne : key8 b ≠ key8 x := fun e => hb (key8_inj e)
    rw [h2 b hb, Maps.has_put_other hne, Maps.atKey_put_other hne]
    exact hD b

/-- Block g is the dictionary of what was met. -/
def TrieB (w : World) (base g : Nat) (met : List (List UInt8)) : Prop :=
  base ≤ g ∧ ∃ cs : Array Value, w.heap[g]? = some (.cells cs 152 (0, 0)) ∧ cs.size = 513 ∧ cs[512]? = some (.int .i64 (257 + (met.length : Int))) ∧
    (∀ c, c < 512 → (cs[c]? = some (.map none) ∧ ∀ b, child4 met c b = none) ∨ ∃ k, cs[c]? = some (.map (some k)) ∧ base ≤ k ∧ MapIs w k met.length (child4 met c)) ∧
    ∀ (c c' k : Nat), cs[c]? = some (.map (some k)) → cs[c']? = some (.map (some k)) → c = c'
theorem TrieB.at {w : World} {base g : Nat} {met : List (List UInt8)} (h : TrieB w base g met) (c : Nat) (hc : c < 512) : (w.cell? ⟨g, c, none⟩ = some (.map none) ∧ ∀ b, child4 met c b = none) ∨ ∃ k, w.cell? ⟨g, c, none⟩ = some (.map (some k)) ∧ MapIs w k met.length (child4 met c) := by
  obtain ⟨-, cs, h1, -, -, h4, -⟩ := h
  rcases h4 c hc with ⟨e, h⟩ | ⟨k, e, -, h⟩
  · exact .inl ⟨by rw [cell_of_row w _ c _ _ _ h1]; exact e, h⟩
  · exact .inr ⟨k, by rw [cell_of_row w _ c _ _ _ h1]; exact e, h⟩
theorem TrieB.lt {w : World} {base g : Nat} {met : List (List UInt8)} (h : TrieB w base g met) : g < w.heap.size := by
  obtain ⟨-, cs, h1, -⟩ := h
  exact (Array.getElem?_eq_some_iff.1 h1).1
/-- It stays while dictionaries and maps do. -/
theorem TrieB.move {w w' : World} {base g : Nat} {met : List (List UInt8)} (h : TrieB w base g met) (h1 : ∀ (b : Nat) cs fr, w.heap[b]? = some (.cells cs 152 fr) → w'.heap[b]? = w.heap[b]?) (h2 : ∀ (b : Nat) es cl, w.heap[b]? = some (.map es cl) → w'.heap[b]? = w.heap[b]?) : TrieB w' base g met := by
  obtain ⟨h0, cs, k1, k2, k3, k4, k5⟩ := h
  refine ⟨h0, cs, (h1 g cs _ k1).trans k1, k2, k3, fun c hc => ?_, k5⟩
  rcases k4 c hc with h | ⟨k, e, hb, h⟩
  · exact .inl h
  · obtain ⟨es, cl, hm⟩ := h.lt
    exact .inr ⟨k, e, hb, h.kept (h2 k es cl hm)⟩
theorem TrieB.below {w w' : World} {base g : Nat} {met : List (List UInt8)} (h : TrieB w base g met) {B : Nat} (hb : Below B w w') (hB : w.heap.size ≤ B) : TrieB w' base g met :=
  h.move (fun b _ _ e => hb.block b (Nat.lt_of_lt_of_le (Array.getElem?_eq_some_iff.1 e).1 hB)) (fun b _ _ e => hb.block b (Nat.lt_of_lt_of_le (Array.getElem?_eq_some_iff.1 e).1 hB))

/-- What longest answers. -/
def LongOut (met : List (List UInt8)) (r : List UInt8) (w : World) (e : Ending) (w' : World) : Prop := ∃ cd : Nat, e = .returned (.tuple #[.int .i64 (cd : Int), .int .i64 (len4 met r : Nat)]) ∧ code4 met (r.take (len4 met r)) = some cd ∧ w = w'
theorem take_snoc {r : List UInt8} {k : Nat} {x : UInt8} (h : r[k]? = some x) : r.take (k + 1) = r.take k ++ [x] := by
  rw [List.take_add_one, h]
  rfl
set_option maxRecDepth 100000 in
set_option maxHeartbeats 2000000 in
theorem longest_any (base g : Nat) (b o c : Nat) (met : List (List UInt8)) (r : List UInt8) (w : World) (hT : TrieB w base g met) (hr : 0 < r.length) (hs : r.length ≤ 200) (hm : met.length ≤ 200) (hc : r.length ≤ c) (h : Has w w.heap.size (some ⟨b, o, none⟩) r) :
    Calls Try.prog 128 #[.pointer (some ⟨g, 0, none⟩), .slice (some ⟨b, o, none⟩) r.length c] w (LongOut met r w) := by
  obtain ⟨b', o', x0, e0, -, hx0, hcell0⟩ := h.spot hr
  injection e0 with e0
  injection e0 with e1 e2 _
  subst e1 e2
  have hx0l : wrap64 (x0.toNat : Int) = (x0.toNat : Int) := w64 _ (by have := x0.toNat_lt; omega)
  rw [Nat.add_zero] at hcell0
  have hr1 : 1 ≤ (r.length : Int) := by omega
  have hr2 : (r.length : Int) ≤ 1073741824 := by omega
  have hc2 : (r.length : Int) ≤ (c : Int) := by omega
  have HC0 : Hid (code4 met (r.take (0 + 1)) = some x0.toNat) := Lib.hid (by rw [take_snoc hx0]; rfl)
  have HL0 : Hid (long4 met r (r.length - (0 + 1)) (0 + 1) = len4 met r) := Lib.hid rfl
  have HT := Lib.hid hT
  have HH := Lib.hid h
  have HM := Lib.hid hm
  by_cases hc1 : c = 1
  · subst hc1
    have hrl : r.length = 1 := by omega
    have HQ : Hid (len4 met r = 1) := Lib.hid (by have := HL0.out; rw [hrl] at this; rw [← this]; rfl)
    have HQ2 : Hid (code4 met (r.take (len4 met r)) = some x0.toNat) := Lib.hid (by rw [HQ.out]; exact HC0.out)
    rw [hrl]
    clear hT h hx0 hr hs hm hc hr1 hr2 hc2 hrl
    go_enter Try.func128, Try.ntmps128
    go_wp2_with fail
    go_loopw [6, 18] (fun v6 i wr => v6 = .int .i64 (x0.toNat : Int) ∧ i = .int .i64 0 ∧ w = wr) (fun _ _ _ => 0)
    case atStart => exact ⟨rfl, rfl, rfl⟩
    case round =>
      obtain ⟨rfl, rfl, rfl⟩ := hrel
      go_wp2
      go_ret2
      exact ⟨_, by rw [HQ.out]; rfl, HQ2.out, rfl⟩
  have hc3 : (1 : Int) < (c : Int) := by omega
  clear hT h hx0 hr hs hm hc hc1
  go_enter Try.func128, Try.ntmps128
  go_wp2_with fail
  go_loopw [6, 18] (fun cv i wr => ∃ k cd : Nat, k < r.length ∧ i = .int .i64 k ∧ cv = .int .i64 cd ∧ code4 met (r.take (k + 1)) = some cd ∧ long4 met r (r.length - (k + 1)) (k + 1) = len4 met r ∧ w = wr) (fun _ i _ => r.length - (intOf i).toNat)
  case atStart => exact ⟨0, x0.toNat, by omega, rfl, rfl, HC0.out, HL0.out, rfl⟩
  case round =>
    clear HC0 HL0 hcell0 hx0l
    obtain ⟨k, cd, hk, rfl, rfl, hcd, hlo, rfl⟩ := hrel
    obtain ⟨-, hd1, hd2⟩ := code4_str hcd
    have hd3 : cd < 512 := by have := HM.out; omega
    have hdI : (cd : Int) < 512 := by omega
    have HCD := Lib.hid hcd
    have HLO := Lib.hid hlo
    have HD3 := Lib.hid hd3
    clear hcd hlo hd1 hd2 hd3
    by_cases hlt : k + 1 < r.length
    · obtain ⟨b', o', x, e0, -, hx, hcell⟩ := HH.out.spot hlt
      injection e0 with e0
      injection e0 with e1 e2 _
      subst e1 e2
      have hltI : (k : Int) + 1 < (r.length : Int) := by omega
      have hcell' : w.cell? ⟨b, o + 1 + k, none⟩ = some (.int .u8 (x.toNat : Int)) := by rw [show o + 1 + k = o + (k + 1) from by omega]; exact hcell
      have hch : code4 met (r.take (k + 1 + 1)) = child4 met cd x := by
        rw [take_snoc hx]
        exact code4_child HCD.out (fun e => by have h3 := congrArg List.length e; rw [List.length_take] at h3; simp only [List.length_nil] at h3; omega) x
      have HX := Lib.hid hch
      clear hx hcell hch
      rcases HT.out.at cd HD3.out with ⟨hc0, hno⟩ | ⟨kb, hc0, hmap⟩
      · have hlk := look_none w x
        have HS : Hid (len4 met r = k + 1) := Lib.hid (by
          rw [← HLO.out]
          obtain ⟨f, hf⟩ : ∃ f, r.length - (k + 1) = f + 1 := ⟨r.length - (k + 1) - 1, by omega⟩
          rw [hf, long4, if_neg]
          rw [HX.out, hno x]
          simp)
        have HQ2 : Hid (code4 met (r.take (len4 met r)) = some cd) := Lib.hid (by rw [HS.out]; exact HCD.out)
        clear hno
        go_wp2
        go_ret2
        exact ⟨_, by rw [HS.out]; rfl, HQ2.out, rfl⟩
      · obtain ⟨z, hlk, hz⟩ := hmap.look x
        clear hmap
        cases hcx : child4 met cd x with
        | none =>
          rw [hcx] at hlk
          have HS : Hid (len4 met r = k + 1) := Lib.hid (by
            rw [← HLO.out]
            obtain ⟨f, hf⟩ : ∃ f, r.length - (k + 1) = f + 1 := ⟨r.length - (k + 1) - 1, by omega⟩
            rw [hf, long4, if_neg]
            rw [HX.out, hcx]
            simp)
          have HQ2 : Hid (code4 met (r.take (len4 met r)) = some cd) := Lib.hid (by rw [HS.out]; exact HCD.out)
          clear hz hcx
          go_wp2
          go_ret2
          exact ⟨_, by rw [HS.out]; rfl, HQ2.out, rfl⟩
        | some c2 =>
          rw [hcx] at hlk
          obtain rfl := hz c2 hcx
          have HN : Hid (code4 met (r.take (k + 1 + 1)) = some c2) := Lib.hid (by rw [HX.out, hcx])
          have HN2 : Hid (long4 met r (r.length - (k + 1 + 1)) (k + 1 + 1) = len4 met r) := Lib.hid (by
            rw [← HLO.out]
            obtain ⟨f, hf⟩ : ∃ f, r.length - (k + 1) = f + 1 := ⟨r.length - (k + 1) - 1, by omega⟩
            rw [hf, long4, if_pos ⟨hlt, by rw [HN.out]; rfl⟩, show r.length - (k + 1 + 1) = f from by omega])
          clear hz hcx
          go_wp2
          go_roundw
          case rel => exact ⟨k + 1, c2, by omega, by go_num, rfl, HN.out, HN2.out, trivial⟩
          case measure => simp [intOf]; omega
    · have hkr : r.length = k + 1 := by omega
      have HS : Hid (len4 met r = k + 1) := Lib.hid (by
        rw [← HLO.out, hkr, Nat.sub_self]
        rfl)
      have HQ2 : Hid (code4 met (r.take (len4 met r)) = some cd) := Lib.hid (by rw [HS.out]; exact HCD.out)
      have hkI : (r.length : Int) = (k : Int) + 1 := by omega
      clear hkr
      go_wp2
      go_ret2
      exact ⟨_, by rw [HS.out]; rfl, HQ2.out, rfl⟩
end Go.Proofs.Ytnnpjcbdcjdojaa
