/-
  The world in which texts are read and written: the listed variables hold what the program's text lays; strconv.Itoa and strconv.Atoi there. Condition: that world.
-/
import Derived.Test.YtbejafbpipdbjaaDoorUrlL
import Derived.Test.YtbejafbpipdbjaaDoorShelf
import Derived.Lib.AtoiErrMem
import Derived.Lib.AppendIntMem
namespace Go.Proofs.YtbejafbpipdbjaaDoor
set_option maxRecDepth 4000
open Go.RowKit

/-- The variables that writers read lie below B and hold what they must. -/
structure EnvW (w : World) (B : Nat) : Prop where
  gp : (2 : Nat) < B
  go : (1 : Nat) < B
  gf : (0 : Nat) < B
  tab : Go.Lib.TabIs Tryd.prog w "internal/strconv.uint64pow10" .u64 Go.Lib.pow10Tab
  ran : RangesIn w
  frm : FormsIn w
/-- And those that readers read. -/
structure Env (w : World) (B : Nat) : Prop extends EnvW w B where
  gs : (4 : Nat) < B
  gr : (5 : Nat) < B
  es : ErrV w 4
  er : ErrV w 5
theorem errV_below {w w' : World} {B g : Nat} (h : ErrV w g) (hb : Below B w w') (hg : g < B) : ErrV w' g := by
  obtain ⟨u, v, hc⟩ := h
  exact ⟨u, v, (hb.cell (p := ⟨g, 0, none⟩) hg).trans hc⟩
theorem EnvW.below {w w' : World} {B : Nat} (h : EnvW w B) (hb : Below B w w') : EnvW w' B :=
  ⟨h.gp, h.go, h.gf, TabIs.below h.tab hb h.gp, h.ran.below hb h.go, h.frm.below hb h.gf⟩
theorem EnvW.up {w : World} {B C : Nat} (h : EnvW w B) (hC : B ≤ C) : EnvW w C :=
  ⟨Nat.lt_of_lt_of_le h.gp hC, Nat.lt_of_lt_of_le h.go hC, Nat.lt_of_lt_of_le h.gf hC, h.tab, h.ran, h.frm⟩
theorem Env.below {w w' : World} {B : Nat} (h : Env w B) (hb : Below B w w') : Env w' B :=
  ⟨h.toEnvW.below hb, h.gs, h.gr, errV_below h.es hb h.gs, errV_below h.er hb h.gr⟩
theorem Env.up {w : World} {B C : Nat} (h : Env w B) (hC : B ≤ C) : Env w C :=
  ⟨h.toEnvW.up hC, Nat.lt_of_lt_of_le h.gs hC, Nat.lt_of_lt_of_le h.gr hC, h.es, h.er⟩
theorem EnvW.of {w : World} (h1 : Go.Lib.TabIs Tryd.prog w "internal/strconv.uint64pow10" .u64 Go.Lib.pow10Tab) (h2 : RangesIn w) (h3 : FormsIn w) : EnvW w w.heap.size := by
  refine ⟨?_, h2.1, h3.1, h1, h2, h3⟩
  unfold Go.Lib.TabIs World.var? at h1
  rw [gPow] at h1
  simp only [Option.bind_some] at h1
  cases hh : w.heap[(2 : Nat)]? with
  | none => simp [hh] at h1
  | some x => exact (Array.getElem?_eq_some_iff.1 hh).1
theorem Env.of {w : World} (h : EnvW w w.heap.size) (h4 : ErrV w 4) (h5 : ErrV w 5) : Env w w.heap.size := by
  obtain ⟨u, v, hc⟩ := h4
  obtain ⟨u', v', hc'⟩ := h5
  exact ⟨h, lt_of_cell hc, lt_of_cell hc', ⟨u, v, hc⟩, ⟨u', v', hc'⟩⟩
/-- strconv.Itoa. -/
theorem itoa_bs (n : Int) (w : World) {B : Nat} (h0 : -9223372036854775808 ≤ n) (h1 : n ≤ 9223372036854775807) (hE : EnvW w B) :
    Calls Tryd.prog 42 #[.int .i64 n] w fun e w' => e = .returned (.string (bs (Go.Lib.itoa n))) ∧ Below w.heap.size w w' := by
  refine (Tryd.strconv_Itoa n h0 h1 w hE.tab).mono ?_
  rintro e w' ⟨rfl, k, os, rfl⟩
  exact ⟨rfl, Go.Lib.below_grow _ w (Nat.le_refl _) k os⟩
/-- strconv.Atoi: the number, and whether there is no error. -/
theorem atoi_bs (l : List UInt8) (hl : l.length ≤ 1073741824) (w : World) {B : Nat} (hE : Env w B) :
    Calls Tryd.prog 91 #[.string (bs l)] w fun e w' =>
      ((∃ v, Go.Lib.atoiAll l = .ok v ∧ -9223372036854775808 ≤ v ∧ v ≤ 9223372036854775807 ∧ e = .returned (.tuple #[.int .i64 v, .nilIface])) ∨
        (scNum l).2 = false ∧ ∃ t p, e = .returned (.tuple #[.int .i64 (scNum l).1, .iface t p])) ∧ Below w.heap.size w w' := by
  have hs : (bs l).size = l.length := bs_size l
  have hd : (bs l).data.toList = l := bs_data l
  cases hh : Go.Lib.atoiAll l with
  | ok v =>
    obtain ⟨b0, b1⟩ := Go.Lib.atoiAll_bounds hh
    refine (Tryd.strconv_Atoi_ok (bs l) (by omega) v (by rw [hd]; exact hh) w).mono ?_
    rintro e w' ⟨rfl, hw⟩
    refine ⟨.inl ⟨v, rfl, b0, b1, rfl⟩, ?_⟩
    rcases hw with rfl | ⟨t, rfl⟩
    · exact Below.refl _ _
    · exact Go.Lib.bytesWorld_below _ _ _
  | range =>
    obtain ⟨u, v, hc⟩ := hE.er
    refine (Tryd.strconv_Atoi_range (bs l) (by omega) (by rw [hd]; exact hh) (.iface u v) w hc (.inr ⟨u, v, rfl⟩)).mono ?_
    rintro e w' ⟨N, rfl, -, -, hb⟩
    rw [hd]
    exact ⟨.inr ⟨by unfold scNum; rw [hh], _, _, by unfold scNum; rw [hh]⟩, hb⟩
  | _ =>
    obtain ⟨u, v, hc⟩ := hE.es
    refine (Any.strconv_Atoi_syntax Tryd.laysC172 (bs l) (by omega) (by rw [hd]; exact hh) (.iface u v) w hc (.inr ⟨u, v, rfl⟩)).mono ?_
    rintro e w' ⟨N, rfl, -, -, hb⟩
    exact ⟨.inr ⟨by unfold scNum; rw [hh], _, _, by unfold scNum; rw [hh]⟩, hb⟩
end Go.Proofs.YtbejafbpipdbjaaDoor
