/-
  What DrawRasBytes draws. Condition: the bytes to draw from are read from memory that was there.
-/
import Derived.Test.YtofphjfgaihjhaaDrawRas
namespace Go.Proofs.Ytofphjfgaihjhaa
open Go.RowKit
/-- What they answer. -/
def DrewO (w : World) (e : Ending) (w' : World) : Prop :=
  ∃ W H : Int, ∃ A c, ∃ l : List Px, e = .returned (rasV W H A l.length c) ∧ HasP w' w'.heap.size A l ∧ l.length ≤ c ∧ l.length ≤ 36 ∧ Below w.heap.size w w'
theorem results_row_tmp2 {P : Program} {fn : Func} {p u u2 : Tmp} {ty : TypeId} (h : fn.results = #[.cell p ty, .tmp u, .tmp u2]) (tmps : Array Value) (w : World) (g : Nat) (t : TypeId) (cs : Array Value) (fr : Nat × Nat) (d : TypeDesc) (b b2 : Value)
    (hp : tmps.getD p undef = .pointer (some ⟨g, 0, none⟩)) (hb : tmps.getD u undef = b) (hb2 : tmps.getD u2 undef = b2) (hg : w.heap[g]? = some (.cells cs t fr))
    (hu : P.underlying ty = some d) (hd : (match d with | .struct _ | .array _ _ => true | _ => false) = true) (hi : (P.info? ty).map (·.size) = some cs.size) :
    (results fn tmps).run P w = .ok (.tuple #[.agg cs, b, b2]) w := by
  have e : (results fn tmps).run P w = ((asAddr (tmps.getD p undef)).run P w).andThen fun a w1 => ((loadVar ty a).run P w1).andThen fun v w2 => .ok (.tuple #[v, tmps.getD u undef, tmps.getD u2 undef]) w2 := by
    simp only [results, h]
    simp [Sem.run_bind, Result.andThen]
  rw [e, hp, hb, hb2]
  simp [asAddr, run_loadVar_row w g t ty cs fr d hg hu hd hi, Result.andThen]
theorem HasP.grown_ne {w w' : World} {g : Nat} {A : Option Addr} {l : List Px} (h : HasP w w.heap.size A l) (hg : w.grownBy w' (some g)) (hA : ∀ b o, A = some ⟨b, o, none⟩ → b ≠ g) : HasP w' w.heap.size A l := by
  rcases h with rfl | ⟨b, o, rfl, hb, hc⟩
  · exact .inl rfl
  · exact .inr ⟨b, o, rfl, hb, fun j y hy => (hc j y hy).kept fun q hq => World.cell?_of_block (hg.block _ (by omega) (by rw [hq]; intro e; injection e with e; exact hA b o rfl e))⟩
set_option maxHeartbeats 1000000 in
theorem drawRasBytes_any (A : Option Addr) (c : Nat) (l : List UInt8) (w : World) (hs : l.length ≤ 1073741824) (hc : l.length ≤ c) (h : Has w w.heap.size A l) :
    Calls Try.prog 4 #[.slice A l.length c] w (DrewO w) := by
  have hb0 : Below w.heap.size w (w.alloc (.cells #[.int .i64 0, .int .i64 0, .slice none 0 0] 25)) := (Below.refl _ w).alloc (Nat.le_refl _) _
  have hx0 : RasAtB (w.alloc (.cells #[.int .i64 0, .int .i64 0, .slice none 0 0] 25)) w.heap.size 0 0 none 0 0 25 := heap_alloc_new w _
  have h0 : Has (w.alloc (.cells #[.int .i64 0, .int .i64 0, .slice none 0 0] 25)) (w.alloc (.cells #[.int .i64 0, .int .i64 0, .slice none 0 0] 25)).heap.size A l := (h.below hb0).wider (by simp)
  go_enter Try.func4, Try.ntmps4
  go_wp2_with fail
  generalize w.alloc (.cells #[.int .i64 0, .int .i64 0, .slice none 0 0] 25) = w0 at *
  have hlt := hx0.lt
  refine (l20Open_any A c l _ hs hc h0).mono ?_
  rintro e w1 ⟨rfl, hr, b1⟩
  have hx1 := hx0.below b1 hlt
  have B1 : Below w.heap.size w w1 := hb0.trans (b1.mono (by omega))
  have hz1 := hr.lt
  clear hb0 b1 hx0 h0 h hs hc
  go_wp2_with fail
  refine (l20Ras_any _ 0 5 _ hr (by omega) (by omega) (by omega)).mono ?_
  rintro e w2 ⟨W, H, A2, c2, l2, rfl, hh2, hc2, hl2, ⟨p2, hp2, hr2⟩, hg2, hn2⟩
  have HX2 := Lib.hid (hx1.grown hg2 (by simp; omega))
  have HB2 := Lib.hid (below_of_grown B1 hg2 (by omega) B1.size)
  have hne : ∀ b o, A2 = some ⟨b, o, none⟩ → b ≠ w.heap.size := fun b o e => by have := hn2 b o e; omega
  have HHe : Hid (HasP (((w2.setCell ⟨w.heap.size, 0, none⟩ (.int .i64 W)).setCell ⟨w.heap.size, 1, none⟩ (.int .i64 H)).setCell ⟨w.heap.size, 2, none⟩ (.slice A2 l2.length c2)) (((w2.setCell ⟨w.heap.size, 0, none⟩ (.int .i64 W)).setCell ⟨w.heap.size, 1, none⟩ (.int .i64 H)).setCell ⟨w.heap.size, 2, none⟩ (.slice A2 l2.length c2)).heap.size A2 l2) := Lib.hid (by simpa using ((hh2.set_ne hne 0 (.int .i64 W)).set_ne hne 1 (.int .i64 H)).set_ne hne 2 (.slice A2 l2.length c2))
  have r0 := HX2.out.c0
  have r1 := HX2.out.c1
  have r2 := HX2.out.c2
  have f0 := HX2.out.free 0
  have f1 := HX2.out.free 1
  have f2 := HX2.out.free 2
  clear hn2 hne hx1 B1 hg2 hr2 hr hh2
  unfold rasV
  go_wp2_with fail
  (try simp only [Exit.inBlock, Exit.then])
  refine bodyPost_ret (results_cell_row rfl _ _ w.heap.size 25 #[.int .i64 W, .int .i64 H, .slice A2 l2.length c2] (0, 0) _ rfl (fin_ras HX2.out _ _ _) Try.underlying25 rfl (by kernel_rfl)) rfl ?_
  exact ⟨W, H, A2, c2, l2, rfl, HHe.out, hc2, hl2, ((HB2.out.setCell (Nat.le_refl _) _).setCell (Nat.le_refl _) _).setCell (Nat.le_refl _) _⟩
end Go.Proofs.Ytofphjfgaihjhaa
