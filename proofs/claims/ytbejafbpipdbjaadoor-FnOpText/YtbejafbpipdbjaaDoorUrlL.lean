/-
  What the listed variables hold where they read as the program's text lays them: the ranges, the forms, the powers of ten, the errors of strconv. No condition.
-/
import Derived.Test.YtbejafbpipdbjaaDoorRanL
import Derived.Test.YtbejafbpipdbjaaDoorUrlM
import Derived.Test.YtbejafbpipdbjaaDoorUrlB
import Derived.Test.YtbejafbpipdbjaaDoorBitE
import Derived.Lib.LaidTab
namespace Go.Proofs.YtbejafbpipdbjaaDoor
set_option maxRecDepth 4000
open Go.ChangeShapes Go.WideShapes Go.ChangeAt Go.WideElems Go.RowKit

theorem laidVars_at {w : World} : ∀ {L : List (String × DataW Unit)} {ps : List MemPlace}, DataW.LaidVars Tryd.prog w L ps → ∀ {n : String} {d : DataW Unit}, (n, d) ∈ L →
    ∃ g t cs fuel p, Tryd.prog.globalNamed n = some g ∧ (Tryd.prog.globals[g]?).map (·.type) = some t ∧ w.var? Tryd.prog n = some cs ∧ DataW.trod (fun _ => ()) Tryd.prog w 0 (fun _ => true) false fuel t cs.toList = some (d, p)
  | [], _, _, _, _, hm => by cases hm
  | (n0, d0) :: L, ps, h, n, d, hm => by
    obtain ⟨g, t, cs, fuel, p, q, h1, h2, h3, h4, h5, _⟩ := h
    rcases List.mem_cons.mp hm with e | hm
    · injection e with e1 e2
      subst e1 e2
      exact ⟨g, t, cs, fuel, p, h1, h2, h3, h4⟩
    · exact laidVars_at h5 hm
theorem lt_of_cell {w : World} {b o : Nat} {v : Value} (h : w.cell? ⟨b, o, none⟩ = some v) : b < w.heap.size := by
  cases hh : w.heap[b]? with
  | none => simp [World.cell?, hh] at h
  | some x => exact (Array.getElem?_eq_some_iff.1 hh).1
theorem ranges_of {W : World} {L : List (String × DataW Unit)} {ps : List MemPlace} (h : DataW.LaidVars Tryd.prog W L ps) (hm : ("loop.example/easel/impl.opRanges", Rows.laid_loop_example_easel_impl_opRanges) ∈ L) : RangesIn W := by
  obtain ⟨g0, t0, cs0, f0, p0, hg0, ht0, hv0, hd0⟩ := laidVars_at h hm
  obtain rfl := Option.some.inj (gRanges.symm.trans hg0)
  obtain rfl := Option.some.inj (tRanges.symm.trans ht0)
  have a0 := table_cells (tab := rangeT) hd0
  have b0 : ∀ k i : Nat, k < 9 → i < 4 → W.cell? ⟨1, k * 8 + i * 2, none⟩ = some (.int .i64 (rangeP k i).1) ∧ W.cell? ⟨1, k * 8 + i * 2 + 1, none⟩ = some (.int .i64 (rangeP k i).2) := by
    intro k i hk hi
    have hrow : rangeT[k]? = some (rangeT.getD k []) := by
      rw [List.getD_eq_getElem?_getD, List.getElem?_eq_getElem (by simpa [rangeT] using hk)]
      rfl
    have hp : (rangeT.getD k [])[i]? = some (rangeP k i) := by
      have : k = 0 ∨ k = 1 ∨ k = 2 ∨ k = 3 ∨ k = 4 ∨ k = 5 ∨ k = 6 ∨ k = 7 ∨ k = 8 := by omega
      have : i = 0 ∨ i = 1 ∨ i = 2 ∨ i = 3 := by omega
      rcases this with rfl | rfl | rfl | rfl <;> rcases ‹k = 0 ∨ _› with rfl | rfl | rfl | rfl | rfl | rfl | rfl | rfl | rfl <;> rfl
    obtain ⟨c0, c1⟩ := a0 k _ hrow i _ hp hi
    exact ⟨by rw [World.var?_cell hg0 hv0, ← Array.getElem?_toList]; exact c0, by rw [World.var?_cell hg0 hv0, ← Array.getElem?_toList]; exact c1⟩
  exact ⟨lt_of_cell (b0 0 0 (by decide) (by decide)).1, b0⟩

/-! ### The forms -/
def formT : List (List UInt8 × Nat) := [([], 0), ([99, 114, 111, 112], 4), ([102, 108, 105, 112, 120], 0), ([102, 108, 105, 112, 121], 0), ([116, 117, 114, 110], 0), ([103, 114, 97, 121], 0), ([98, 108, 117, 114], 0), ([115, 105, 122, 101], 2), ([102, 108, 97, 116], 3)]
theorem formT_at : ∀ k : Fin 9, formT[k.val]? = some (formN k.val, formK k.val) := by decide
/-- The program's forms lie in memory. -/
def FormsIn (w : World) : Prop := (0 : Nat) < w.heap.size ∧ ∀ k : Nat, k < 9 → w.cell? ⟨0, k * 2, none⟩ = some (.string (bs (formN k))) ∧ w.cell? ⟨0, k * 2 + 1, none⟩ = some (.int .i64 (formK k : Int))
theorem FormsIn.below {w w' : World} {B : Nat} (h : FormsIn w) (hb : Below B w w') (hB : (0 : Nat) < B) : FormsIn w' :=
  ⟨Nat.lt_of_lt_of_le h.1 hb.size, fun k hk => ⟨(hb.cell (p := ⟨0, k * 2, none⟩) hB).trans (h.2 k hk).1, (hb.cell (p := ⟨0, k * 2 + 1, none⟩) hB).trans (h.2 k hk).2⟩⟩
theorem gForms : Tryd.prog.globalNamed "loop.example/easel/impl.opForms" = some 0 := by kernel_rfl
theorem tForms : (Tryd.prog.globals[0]?).map (·.type) = some 63 := by kernel_rfl
theorem cForm : Tryd.prog.cellsOf 62 = 2 := by kernel_rfl
theorem cStrF : Tryd.prog.cellsOf 9 = 1 := by kernel_rfl
theorem form_cells {H : Type} {enc : TypeId × Value → H} {W : World} {base fuel : Nat} {spare : Nat → Bool} {held : Bool} {cs : List Value} {s : List UInt8} {k : Nat} {q : List MemPlace}
    (h : DataW.trod enc Tryd.prog W base spare held fuel 62 cs = some (.agg [.lit (.string s), .lit (.int .i64 (k : Int))], q)) : cs[0]? = some (.string (bs s)) ∧ cs[1]? = some (.int .i64 (k : Int)) := by
  obtain ⟨xs, m, _, hx, hl, hlen, hf⟩ := DataW.trod_struct Tryd.underlying62 h
  rw [cForm] at hl
  match xs, hlen, cs, hl with
  | [y0, y1], _, [v0, v1], _ =>
    have g0 : DataW.trod enc Tryd.prog W base spare held m 9 [v0] = some y0 := by simpa [cStrF] using hf 0 _ rfl
    have g1 : DataW.trod enc Tryd.prog W base spare held m 3 [v1] = some y1 := by simpa [cIntR, cStrF] using hf 1 _ rfl
    obtain ⟨z0, e0, f0, _⟩ := DataW.trod_string Tryd.underlying9 g0
    obtain ⟨z1, e1, f1, _⟩ := DataW.trod_int Tryd.underlying3 g1
    subst f0 f1
    simp at e0 e1 hx
    obtain ⟨⟨h0, h1⟩, _⟩ := hx
    subst e0 e1 h1
    exact ⟨by rw [h0, bs_self]; rfl, rfl⟩
theorem forms_cells {H : Type} {enc : TypeId × Value → H} {W : World} {base fuel : Nat} {spare : Nat → Bool} {held : Bool} {cs : List Value} {tab : List (List UInt8 × Nat)} {q : List MemPlace}
    (h : DataW.trod enc Tryd.prog W base spare held fuel 63 cs = some (.agg (tab.map fun p => .agg [.lit (.string p.1), .lit (.int .i64 (p.2 : Int))]), q)) :
    ∀ i p, tab[i]? = some p → cs[i * 2]? = some (.string (bs p.1)) ∧ cs[i * 2 + 1]? = some (.int .i64 (p.2 : Int)) := by
  intro i p hp
  obtain ⟨xs, m, _, hx, _, hlen, hf⟩ := DataW.trod_array Tryd.underlying63 h
  simp only [Prod.mk.injEq, DataW.agg.injEq] at hx
  have hrl : tab.length = xs.length := by have := congrArg List.length hx.1; simpa using this
  have hi : i < 9 := by have := (List.getElem?_eq_some_iff.1 hp).1; omega
  have h0 := hf i hi
  rw [cForm, List.getElem?_eq_getElem (by omega)] at h0
  have h1 : (tab.map fun p => DataW.agg (H := H) [.lit (.string p.1), .lit (.int .i64 (p.2 : Int))])[i]? = (xs.map (·.1))[i]? := by rw [hx.1]
  rw [List.getElem?_map, List.getElem?_map, hp, List.getElem?_eq_getElem (by omega)] at h1
  simp only [Option.map_some, Option.some.injEq] at h1
  have h2 : xs[i]'(by omega) = (.agg [.lit (.string p.1), .lit (.int .i64 (p.2 : Int))], (xs[i]'(by omega)).2) := by rw [h1]
  rw [h2] at h0
  obtain ⟨a0, a1⟩ := form_cells h0
  rw [List.getElem?_take_of_lt (by omega), List.getElem?_drop] at a0 a1
  exact ⟨a0, a1⟩
theorem forms_of {W : World} {L : List (String × DataW Unit)} {ps : List MemPlace} (h : DataW.LaidVars Tryd.prog W L ps) (hm : ("loop.example/easel/impl.opForms", Rows.laid_loop_example_easel_impl_opForms) ∈ L) : FormsIn W := by
  obtain ⟨g0, t0, cs0, f0, p0, hg0, ht0, hv0, hd0⟩ := laidVars_at h hm
  obtain rfl := Option.some.inj (gForms.symm.trans hg0)
  obtain rfl := Option.some.inj (tForms.symm.trans ht0)
  have a0 := forms_cells (tab := formT) hd0
  have b0 : ∀ k : Nat, k < 9 → W.cell? ⟨0, k * 2, none⟩ = some (.string (bs (formN k))) ∧ W.cell? ⟨0, k * 2 + 1, none⟩ = some (.int .i64 (formK k : Int)) := by
    intro k hk
    obtain ⟨c0, c1⟩ := a0 k _ (formT_at ⟨k, hk⟩)
    exact ⟨by rw [World.var?_cell hg0 hv0, ← Array.getElem?_toList]; exact c0, by rw [World.var?_cell hg0 hv0, ← Array.getElem?_toList]; exact c1⟩
  exact ⟨lt_of_cell (b0 0 (by decide)).1, b0⟩

/-! ### The powers of ten -/
theorem gPow : Tryd.prog.globalNamed "internal/strconv.uint64pow10" = some 2 := by kernel_rfl
theorem tPow : (Tryd.prog.globals[2]?).map (·.type) = some 157 := by kernel_rfl
theorem cU64 : Tryd.prog.cellsOf 137 = 1 := by kernel_rfl
theorem cPow : Tryd.prog.cellsOf 157 = 20 := by kernel_rfl
theorem pow_of {W : World} {L : List (String × DataW Unit)} {ps : List MemPlace} (h : DataW.LaidVars Tryd.prog W L ps) (hm : ("internal/strconv.uint64pow10", Rows.laid_internal_strconv_uint64pow10) ∈ L) : Go.Lib.TabIs Tryd.prog W "internal/strconv.uint64pow10" .u64 Go.Lib.pow10Tab := by
  obtain ⟨g0, t0, cs0, f0, p0, hg0, ht0, hv0, hd0⟩ := laidVars_at h hm
  obtain rfl := Option.some.inj (gPow.symm.trans hg0)
  obtain rfl := Option.some.inj (tPow.symm.trans ht0)
  have e := Go.Lib.cells_of_tab (k := .u64) (zs := Go.Lib.pow10Tab) Tryd.underlying157 Tryd.underlying137 cU64 cPow hd0
  unfold Go.Lib.TabIs
  rw [hv0, ← e]
/-- The powers' table stands where nothing below is written. -/
theorem TabIs.below {w w' : World} {B : Nat} (h : Go.Lib.TabIs Tryd.prog w "internal/strconv.uint64pow10" .u64 Go.Lib.pow10Tab) (hb : Below B w w') (hB : (2 : Nat) < B) : Go.Lib.TabIs Tryd.prog w' "internal/strconv.uint64pow10" .u64 Go.Lib.pow10Tab := by
  unfold Go.Lib.TabIs World.var? at h ⊢
  rw [gPow] at h ⊢
  have := hb.block 2 hB
  simp only [Option.bind_some] at h ⊢
  rw [this]
  exact h

/-! ### The errors of strconv -/
theorem gErrS : Tryd.prog.globalNamed "strconv.ErrSyntax" = some 4 := by kernel_rfl
theorem tErrS : (Tryd.prog.globals[4]?).map (·.type) = some 68 := by kernel_rfl
theorem gErrR : Tryd.prog.globalNamed "strconv.ErrRange" = some 5 := by kernel_rfl
theorem tErrR : (Tryd.prog.globals[5]?).map (·.type) = some 68 := by kernel_rfl
theorem err_at {W : World} {g : Nat} {n : String} {cs : Array Value} {fuel : Nat} {nm : String} {d : DataW Unit} {p : List MemPlace} {enc : TypeId × Value → Unit} {base : Nat} {sp : Nat → Bool} (hg : Tryd.prog.globalNamed n = some g) (hv : W.var? Tryd.prog n = some cs)
    (hd : DataW.trod enc Tryd.prog W base sp false fuel 68 cs.toList = some (.iface nm d, p)) : ErrV W g := by
  obtain ⟨_, u, v, hcs, -, -⟩ := iface_of_trod Tryd.underlying68 hd
  refine ⟨u, v, ?_⟩
  rw [World.var?_cell hg hv 0, ← Array.getElem?_toList, hcs]
  rfl
theorem errS_of {W : World} {L : List (String × DataW Unit)} {ps : List MemPlace} (h : DataW.LaidVars Tryd.prog W L ps) (hm : ("strconv.ErrSyntax", Rows.laid_strconv_ErrSyntax) ∈ L) : ErrV W 4 := by
  obtain ⟨g0, t0, cs0, f0, p0, hg0, ht0, hv0, hd0⟩ := laidVars_at h hm
  obtain rfl := Option.some.inj (gErrS.symm.trans hg0)
  obtain rfl := Option.some.inj (tErrS.symm.trans ht0)
  exact err_at hg0 hv0 hd0
theorem errR_of {W : World} {L : List (String × DataW Unit)} {ps : List MemPlace} (h : DataW.LaidVars Tryd.prog W L ps) (hm : ("strconv.ErrRange", Rows.laid_strconv_ErrRange) ∈ L) : ErrV W 5 := by
  obtain ⟨g0, t0, cs0, f0, p0, hg0, ht0, hv0, hd0⟩ := laidVars_at h hm
  obtain rfl := Option.some.inj (gErrR.symm.trans hg0)
  obtain rfl := Option.some.inj (tErrR.symm.trans ht0)
  exact err_at hg0 hv0 hd0
end Go.Proofs.YtbejafbpipdbjaaDoor
