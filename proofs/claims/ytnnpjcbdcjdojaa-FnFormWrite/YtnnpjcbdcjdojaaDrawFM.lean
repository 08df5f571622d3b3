/-
  What DrawFormPut and DrawFormWrite draw. Condition: the bytes to draw from are read from memory that was there.
-/
import Derived.Test.YtnnpjcbdcjdojaaBase
import Derived.Orders
import Derived.RegionTactic
import Derived.Test.YtnnpjcbdcjdojaaDraw
import Derived.Test.YtnnpjcbdcjdojaaPush
import Derived.Test.YtnnpjcbdcjdojaaRasAtM
import Derived.Test.YtnnpjcbdcjdojaaPushP
import Derived.Test.YtnnpjcbdcjdojaaPixO
import Derived.Test.YtnnpjcbdcjdojaaRasBox
import Derived.Test.YtnnpjcbdcjdojaaRegT
import Derived.Test.YtnnpjcbdcjdojaaFormK
namespace Go.Proofs.Ytnnpjcbdcjdojaa
set_option maxRecDepth 4000
open Go.RowKit

section
variable {P : Program} {ops : Array Oper} {Q : Exit → Act → World → Prop} {md : Region.Mode}

/-- Each operation waits for earlier ones alone. -/
def backB (md : Region.Mode) (ops : Array Oper) : Bool := (List.range ops.size).all fun i => ((ops[i]?).map fun o => o.after.all fun e => !Region.binds md e || decide (e.on < i)).getD true
theorem backB_spec (h : backB md ops = true) {i : Nat} {o : Oper} (ho : ops[i]? = some o) : ∀ e ∈ o.after, Region.binds md e = true → e.on < i := by
  intro e he hb
  unfold backB at h
  rw [List.all_eq_true] at h
  have hi : i < ops.size := (Array.getElem?_eq_some_iff.1 ho).1
  have := h i (List.mem_range.2 hi)
  rw [ho] at this
  simp only [Option.map_some, Option.getD_some] at this
  rw [Array.all_eq_true_iff_forall_mem] at this
  have h2 := this e he
  rw [hb] at h2
  simpa using h2
theorem all_listed (hB : backB md ops = true) {listed : Array Bool} (hs : listed.size = ops.size) (hr : Region.ready md ops listed = []) : ∀ i, i < ops.size → listed.getD i true = true := by
  intro i
  induction i using Nat.strongRecOn with
  | _ i ih =>
    intro hi
    cases hl : listed.getD i true with
    | true => rfl
    | false =>
      have ho : ops[i]? = some ops[i] := Array.getElem?_eq_getElem hi
      have : i ∈ Region.ready md ops listed := mem_ready.2 ⟨hl, _, ho, fun e he hb => by
        have hlt := backB_spec hB ho e he hb
        have h1 := ih e.on hlt (by omega)
        have hin : e.on < listed.size := by omega
        simp [hin] at h1 ⊢
        exact h1⟩
      rw [hr] at this
      cases this
theorem count_set {l : List Bool} {i : Nat} (h : l[i]? = some false) : (l.set i true).count false + 1 = l.count false := by
  induction l generalizing i with
  | nil => simp at h
  | cons b t ih =>
    cases i with
    | zero => simp at h; subst h; simp
    | succ i =>
      have := ih (by simpa using h)
      simp only [List.set_cons_succ, List.count_cons]
      omega
theorem wpAny_inv (I : Nat → Array Bool → Act → World → Prop) (hB : backB md ops = true)
    (hstep : ∀ fuel listed a w i o, I (fuel + 1) listed a w → ops[i]? = some o → listed.getD i true = false → (∀ e ∈ o.after, Region.binds md e = true → listed.getD e.on false = true) → wpOp P ops Q i (fun a' w' => I fuel (listed.setIfInBounds i true) a' w') a w)
    (hend : ∀ fuel listed a w, I fuel listed a w → (∀ i, i < ops.size → listed.getD i true = true) → Q .normal a w) :
    ∀ fuel listed a w, listed.size = ops.size → listed.toList.count false ≤ fuel → I fuel listed a w → wpAny P md ops Q fuel listed a w := by
  intro fuel
  induction fuel with
  | zero =>
    intro listed a w hs hc hI
    have hall : ∀ i, i < ops.size → listed.getD i true = true := by
      intro i hi
      cases hl : listed.getD i true with
      | true => rfl
      | false =>
        have hin : i < listed.size := by omega
        simp [hin] at hl
        have : false ∈ listed.toList := by
          rw [← hl]
          simp
        have := List.count_pos_iff.2 this
        omega
    refine ⟨?_, hend 0 listed a w hI hall⟩
    cases hr : Region.ready md ops listed with
    | nil => rfl
    | cons i rs =>
      have hm : i ∈ Region.ready md ops listed := by rw [hr]; simp
      obtain ⟨h1, o, ho, _⟩ := mem_ready.1 hm
      rw [hall i (Array.getElem?_eq_some_iff.1 ho).1] at h1
      cases h1
  | succ fuel ih =>
    intro listed a w hs hc hI
    refine ⟨fun hr => hend _ listed a w hI (all_listed hB hs hr), fun i hi => ?_⟩
    obtain ⟨h1, o, ho, h2⟩ := mem_ready.1 hi
    refine wpOp_mono (fun a' w' h' => ih _ a' w' (by simpa using hs) ?_ h') (hstep fuel listed a w i o hI ho h1 h2)
    have hin : i < listed.size := by rw [hs]; exact (Array.getElem?_eq_some_iff.1 ho).1
    simp [hin] at h1
    have hg : listed.toList[i]? = some false := by rw [Array.getElem?_toList, Array.getElem?_eq_getElem hin, h1]
    have := count_set hg
    rw [Array.toList_setIfInBounds]
    omega
/-- The region, by its invariant. -/
theorem wp_region_inv (I : Nat → Array Bool → Act → World → Prop) {id : Nat} {a : Act} {w : World} (hm : P.follows .mixedOrders = true) (hB : backB .any ops = true) (h0 : I ops.size (Array.replicate ops.size false) a w.drew)
    (hstep : ∀ fuel listed a w i o, I (fuel + 1) listed a w → ops[i]? = some o → listed.getD i true = false → (∀ e ∈ o.after, Region.binds .any e = true → listed.getD e.on false = true) → wpOp P ops Q i (fun a' w' => I fuel (listed.setIfInBounds i true) a' w') a w)
    (hend : ∀ fuel listed a w, I fuel listed a w → (∀ i, i < ops.size → listed.getD i true = true) → Q .normal a w) : (Code.region id ops true).wp P Q a w :=
  wp_region_any hm (wpAny_inv I hB hstep hend _ _ _ _ (by simp) (by simp) h0)
end
end Go.Proofs.Ytnnpjcbdcjdojaa
namespace Go.Proofs.Ytnnpjcbdcjdojaa
open Go.RowKit

/-- What a slot holds: a known value · a number below a bound · a number with a property · a table of numbers with a property, behind block g · the place of such a number · a value with a property. -/
inductive Slot
  | is (v : Value)
  | below (n : Int)
  | num (R : Int → Prop)
  | tab (n : Nat) (R : Int → Prop)
  | spot (R : Int → Prop)
  | sat (R : Value → Prop)
def Slot.holds (g : Nat) : Slot → World → Value → Prop
  | .is x, _, v => v = x
  | .below n, _, v => ∃ k : Nat, v = .int .i64 (k : Int) ∧ (k : Int) < n
  | .num R, _, v => ∃ z : Int, v = .int .i64 z ∧ R z
  | .tab n R, w, v => ∃ s, v = .slice (some ⟨s, 0, none⟩) n n ∧ g < s ∧ s < w.heap.size ∧ ∀ j, j < n → ∃ z : Int, w.cell? ⟨s, j, none⟩ = some (.int .i64 z) ∧ R z
  | .spot R, w, v => ∃ s j, v = .pointer (some ⟨s, j, none⟩) ∧ g < s ∧ s < w.heap.size ∧ ∃ z : Int, w.cell? ⟨s, j, none⟩ = some (.int .i64 z) ∧ R z
  | .sat R, _, v => R v
theorem Slot.stays {g : Nat} {t : Slot} {w w' : World} {v : Value} (h : t.holds g w v) (hg : w.grownBy w' (some g)) : t.holds g w' v := by
  cases t with
  | is x => exact h
  | below n => exact h
  | num R => exact h
  | sat R => exact h
  | tab n R =>
    obtain ⟨s, e, h1, h2, h3⟩ := h
    refine ⟨s, e, h1, Nat.lt_of_lt_of_le h2 hg.size, fun j hj => ?_⟩
    obtain ⟨z, hz, hr⟩ := h3 j hj
    exact ⟨z, (World.cell?_of_block (hg.block s h2 (by simp; omega))).trans hz, hr⟩
  | spot R =>
    obtain ⟨s, j, e, h1, h2, z, hz, hr⟩ := h
    exact ⟨s, j, e, h1, Nat.lt_of_lt_of_le h2 hg.size, z, (World.cell?_of_block (hg.block s h2 (by simp; omega))).trans hz, hr⟩

/-- The world of such a region: a reader that has gone no further than so many draws, and nothing else of before changed. -/
def Reads (w0 : World) (g N fuel : Nat) (w : World) : Prop := ∃ p, p + fuel ≤ N ∧ Rdr w g p ∧ w0.grownBy w (some g)
/-- Behind each operation that has come up its slot holds what it should. -/
def Slots (g : Nat) (T : List (Nat × Slot)) (V : Nat → Value) (listed : Array Bool) (w : World) : Prop := ∀ i d t, T[i]? = some (d, t) → listed.getD i false = true → t.holds g w (V d)
theorem Slots.next {g : Nat} {T : List (Nat × Slot)} {V : Nat → Value} {listed : Array Bool} {w w' : World} {i d : Nat} {t : Slot} {v : Value} (h : Slots g T V listed w) (hT : T[i]? = some (d, t)) (hu : ∀ j d' t', T[j]? = some (d', t') → d' = d → j = i) (hg : w.grownBy w' (some g)) (hv : t.holds g w' v) :
    Slots g T (fun k => if k = d then v else V k) (listed.setIfInBounds i true) w' := by
  intro j d' t' hj hl
  by_cases hji : j = i
  · subst hji
    rw [hT] at hj
    cases hj
    simpa using hv
  · have hd : d' ≠ d := fun e => hji (hu j d' t' hj e)
    simp only [hd, if_false]
    refine Slot.stays (h j d' t' hj ?_) hg
    have : (listed.setIfInBounds i true).getD j false = listed.getD j false := by
      simp only [Array.getD_eq_getD_getElem?, Array.getElem?_setIfInBounds]
      rw [if_neg (fun e => hji e.symm)]
    rw [this] at hl
    exact hl
/-- No two operations write one slot (a closed fact). -/
def apartB (T : List (Nat × Slot)) : Bool := (List.range T.length).all fun i => (List.range T.length).all fun j => (i == j) || ((T[i]?).map (·.1) != (T[j]?).map (·.1))
theorem apartB_spec {T : List (Nat × Slot)} (h : apartB T = true) {i d : Nat} {t : Slot} (hT : T[i]? = some (d, t)) : ∀ j d' t', T[j]? = some (d', t') → d' = d → j = i := by
  intro j d' t' hj e
  unfold apartB at h
  rw [List.all_eq_true] at h
  have h1 := h i (List.mem_range.2 (List.getElem?_eq_some_iff.1 hT).1)
  rw [List.all_eq_true] at h1
  have h2 := h1 j (List.mem_range.2 (List.getElem?_eq_some_iff.1 hj).1)
  rw [hT, hj] at h2
  simp [e] at h2
  exact h2.symm
theorem Reads.quiet {w0 w : World} {g N fuel : Nat} (h : Reads w0 g N (fuel + 1) w) : Reads w0 g N fuel w := by
  obtain ⟨p, h1, h2, h3⟩ := h
  exact ⟨p, by omega, h2, h3⟩
theorem Reads.alloc {w0 w : World} {g N fuel : Nat} (h : Reads w0 g N (fuel + 1) w) (o : Obj) : Reads w0 g N fuel (w.alloc o) := by
  obtain ⟨p, h1, h2, h3⟩ := h
  exact ⟨p, by omega, h2.alloc o, grown_trans h3 (World.grownBy_alloc w o _)⟩
/-- A new table. -/
theorem tab_new {g n : Nat} {R : Int → Prop} {w : World} {t : TypeId} (cs : Array Value) (hg : g < w.heap.size) (h : ∀ j, j < n → ∃ z : Int, cs[j]? = some (.int .i64 z) ∧ R z) : (Slot.tab n R).holds g (w.alloc (.cells cs t)) (.slice (some ⟨w.heap.size, 0, none⟩) n n) :=
  ⟨w.heap.size, rfl, hg, by simp, fun j hj => by
    obtain ⟨z, hz, hr⟩ := h j hj
    exact ⟨z, (World.cell?_alloc_mark w _ _ _ j).trans hz, hr⟩⟩
end Go.Proofs.Ytnnpjcbdcjdojaa
namespace Go.Proofs.Ytnnpjcbdcjdojaa
open Go.RowKit

theorem set_all {listed : Array Bool} {i j n : Nat} (hs : listed.size = n) (hj : j < n) (h : j = i ∨ listed.getD j false = true) : (listed.setIfInBounds i true).getD j true = true := by
  have hjs : j < listed.size := by omega
  rcases h with rfl | h
  · simp [hjs]
  · simp [hjs] at h ⊢
    rw [Array.getElem_setIfInBounds (by simpa using hjs)]
    split
    · rfl
    · exact h
theorem set_other {listed : Array Bool} {i j : Nat} (h : listed.getD j false = false) (hne : i ≠ j) : (listed.setIfInBounds i true).getD j false = false := by
  simp only [Array.getD_eq_getD_getElem?, Array.getElem?_setIfInBounds] at h ⊢
  rw [if_neg hne]
  exact h
/-- A part of a colour. -/
def RC (z : Int) : Prop := 0 ≤ z ∧ z ≤ 255
def IsPx (v : Value) : Prop := ∃ p : Px, v = p.v ∧ pixB p = true
theorem px_in {a b c d : Int} (ha : RC a) (hb : RC b) (hc : RC c) (hd : RC d) : pixB ⟨a, b, c, d⟩ = true := by
  unfold RC at ha hb hc hd
  simp [pixB, partB, ha, hb, hc, hd]
theorem grown_cellp (w : World) (g i : Nat) (v : Value) : w.grownBy (w.setCell ⟨g, i, none⟩ v) (some g) := ⟨rfl, rfl, rfl, by simp, fun k _ hne => Below.heap_setCell w _ _ k (fun e => hne (by rw [e]))⟩
theorem grown_px (W : World) (R : Nat) (a b c d : Value) : W.grownBy ((((W.setCell ⟨R, 0, none⟩ a).setCell ⟨R, 1, none⟩ b).setCell ⟨R, 2, none⟩ c).setCell ⟨R, 3, none⟩ d) (some R) :=
  grown_trans (grown_trans (grown_trans (grown_cellp W R 0 a) (grown_cellp _ R 1 b)) (grown_cellp _ R 2 c)) (grown_cellp _ R 3 d)
theorem grown_drew1 (w : World) (row : Option Nat) : w.grownBy w.drew row := ⟨rfl, rfl, rfl, Nat.le_refl _, fun _ _ _ => rfl⟩
/-- What the slots of its return hold. -/
def pixT (g : Nat) (n : Int) : List (Nat × Slot) := [(11, .is (.int .i64 n)), (12, .is (.int .i64 n)), (13, .is (.pointer (some ⟨g, 0, none⟩))), (14, .below 256), (15, .tab 2 RC), (16, .is (.pointer (some ⟨g, 0, none⟩))), (17, .below 2), (18, .spot RC), (19, .num RC), (20, .is (.int .i64 n)), (21, .is (.pointer (some ⟨g, 0, none⟩))), (22, .below 256), (23, .tab 2 RC), (24, .is (.pointer (some ⟨g, 0, none⟩))), (25, .below 2), (26, .spot RC), (27, .num RC), (28, .is (.pointer (some ⟨g, 0, none⟩))), (29, .below 256), (30, .tab 4 RC), (31, .is (.pointer (some ⟨g, 0, none⟩))), (32, .below 4), (33, .spot RC), (34, .num RC), (35, .sat IsPx)]
theorem pixT_apart (g : Nat) (n : Int) : apartB (pixT g n) = true := by kernel_rfl
/-- What l20Pix answers. -/
def DrewP (w : World) (g p : Nat) (e : Ending) (w' : World) : Prop := ∃ q : Px, e = .returned q.v ∧ pixB q = true ∧ (∃ p', p' ≤ p + 28 ∧ Rdr w' g p') ∧ w.grownBy w' (some g)

set_option maxHeartbeats 4000000 in
theorem l20Pix_any (g p : Nat) (w : World) (h : Rdr w g p) (hp : p ≤ 100000000) :
    Calls Try.prog 64 #[.pointer (some ⟨g, 0, none⟩)] w (DrewP w g p) := by
  have hgw := h.lt
  go_enter Try.func64, Try.ntmps64
  have h0 := h.alloc (.cells #[.int .i64 0, .int .i64 0, .int .i64 0, .int .i64 0] 40)
  have hg0 : w.grownBy (w.alloc (.cells #[.int .i64 0, .int .i64 0, .int .i64 0, .int .i64 0] 40)) (some g) := World.grownBy_alloc w _ _
  have hx0 : (w.alloc (.cells #[.int .i64 0, .int .i64 0, .int .i64 0, .int .i64 0] 40)).heap[w.heap.size]? = some (.cells #[.int .i64 0, .int .i64 0, .int .i64 0, .int .i64 0] 40 (0, 0)) := heap_alloc_new w _
  go_wp2_with fail
  generalize w.alloc (.cells #[.int .i64 0, .int .i64 0, .int .i64 0, .int .i64 0] 40) = w0 at *
  refine (pick_any g p _ _ h0 (by omega) (by omega) (by omega)).mono ?_
  rintro e w1 ⟨k1, rfl, hk1, -, hr1, hg1, -⟩
  have hk1' : (k1 : Int) < 256 := hk1 (by omega)
  have hgr1 := grown_trans hg0 hg1
  have hx1 := (hg1.block w.heap.size (Array.getElem?_eq_some_iff.1 hx0).1 (by simp; omega)).trans hx0
  have h1a := hr1.alloc (.cells #[.int .i64 0, .int .i64 255, .int .i64 (k1 : Int)] 3)
  have CP := Lib.hid (pick_any g (p + 1) 3 _ h1a (by omega) (by omega) (by omega))
  have hg1w := hr1.lt
  clear hk1 hr1 hg0 hg1 hx0 h0 h h1a
  go_wp2_with fail
  refine CP.out.mono ?_
  rintro e w2 ⟨k2, rfl, hk2, -, hr2, hg2, -⟩
  have hk2' : (k2 : Int) < 3 := hk2 (by omega)
  obtain ⟨n, hz, hn⟩ : ∃ z : Int, w2.cell? ⟨w1.heap.size, k2, none⟩ = some (.int .i64 z) ∧ RC z := by
    obtain ⟨s, e, _, _, ht⟩ := Slot.stays (tab_new (n := 3) (R := RC) (t := 3) #[.int .i64 0, .int .i64 255, .int .i64 (k1 : Int)] hg1w (fun j hj => by
      match j, hj with
      | 0, _ => exact ⟨_, rfl, by unfold RC; omega⟩
      | 1, _ => exact ⟨_, rfl, by unfold RC; omega⟩
      | 2, _ => exact ⟨_, rfl, by unfold RC; omega⟩)) hg2
    injection e with e1 _ _
    injection e1 with e1
    injection e1 with e1 _ _
    rw [e1]
    exact ht k2 (by omega)
  have hx2 := (hg2.block w.heap.size (by simp; have := (Array.getElem?_eq_some_iff.1 hx1).1; omega) (by simp; omega)).trans ((Below.heap_alloc w1 _ _ (Array.getElem?_eq_some_iff.1 hx1).1).trans hx1)
  have HG := Lib.hid (grown_trans (grown_trans hgr1 (World.grownBy_alloc w1 _ _)) hg2)
  obtain ⟨R, hRR⟩ : ∃ R, w.heap.size = R := ⟨_, rfl⟩
  have hRg : g < R := by omega
  rw [hRR] at hx2
  have HR : Hid (∀ W, w2.grownBy W (some g) → W.heap[R]? = some (.cells #[.int .i64 0, .int .i64 0, .int .i64 0, .int .i64 0] 40 (0, 0))) := Lib.hid fun W hW => (hW.block R (Array.getElem?_eq_some_iff.1 hx2).1 (by simp; omega)).trans hx2
  clear hx1 hx2 hk2 hg2 hgr1 CP
  have hap := pixT_apart g n
  go_wp2_with fail
  refine wp_region_inv (fun fuel listed a W => (listed.size = 26 ∧ listed.getD 25 false = false ∧ ∃ V : Nat → Value, a = { tmps := #[.pointer (some ⟨g, 0, none⟩), undef, .pointer (some ⟨R, 0, none⟩), .int .i64 n, .pointer (some ⟨g, 0, none⟩), .int .i64 (k1 : Int), .slice (some ⟨w1.heap.size, 0, none⟩) 3 3, .pointer (some ⟨g, 0, none⟩), .int .i64 (k2 : Int), .pointer (some ⟨w1.heap.size, k2, none⟩), .int .i64 n, V 11, V 12, V 13, V 14, V 15, V 16, V 17, V 18, V 19, V 20, V 21, V 22, V 23, V 24, V 25, V 26, V 27, V 28, V 29, V 30, V 31, V 32, V 33, V 34, V 35], defers := [] } ∧ Reads w2 g (p + 28) fuel W ∧ Slots g (pixT g n) V listed W)
      ∨ ((∀ j, j < 26 → listed.getD j true = true) ∧ ∃ q : Px, pixB q = true ∧ ∃ W1 p', p' ≤ p + 28 ∧ Rdr W1 g p' ∧ w2.grownBy W1 (some g) ∧ W = (((W1.setCell ⟨R, 0, none⟩ (.int .i64 q.r)).setCell ⟨R, 1, none⟩ (.int .i64 q.g)).setCell ⟨R, 2, none⟩ (.int .i64 q.b)).setCell ⟨R, 3, none⟩ (.int .i64 q.a) ∧ ∃ V : Nat → Value, a = { tmps := #[.pointer (some ⟨g, 0, none⟩), undef, .pointer (some ⟨R, 0, none⟩), .int .i64 n, .pointer (some ⟨g, 0, none⟩), .int .i64 (k1 : Int), .slice (some ⟨w1.heap.size, 0, none⟩) 3 3, .pointer (some ⟨g, 0, none⟩), .int .i64 (k2 : Int), .pointer (some ⟨w1.heap.size, k2, none⟩), .int .i64 n, V 11, V 12, V 13, V 14, V 15, V 16, V 17, V 18, V 19, V 20, V 21, V 22, V 23, V 24, V 25, V 26, V 27, V 28, V 29, V 30, V 31, V 32, V 33, V 34, V 35], defers := [] })) (by kernel_rfl) (by kernel_rfl) ?_ ?_ ?_
  · exact .inl ⟨by simp, by simp, fun _ => undef, by simp, ⟨p + 1 + 1, by simp, hr2, grown_drew1 w2 _⟩, fun i d t _ hl => by
      rw [Array.getD_eq_getD_getElem?, Array.getElem?_replicate] at hl
      split at hl <;> simp at hl⟩
  · clear hr2
    rintro fuel listed a w i o (⟨hsz, hne, V, rfl, hJ, hS⟩ | ⟨hall, _⟩) ho hlist hd
    rotate_left
    · rw [hall i (Array.getElem?_eq_some_iff.1 ho).1] at hlist
      cases hlist
    have hsz2 : (listed.setIfInBounds i true).size = 26 := by simpa using hsz
    have hn2 : i ≠ 25 → (listed.setIfInBounds i true).getD 25 false = false := set_other hne
    have hi : i < 26 := (Array.getElem?_eq_some_iff.1 ho).1
    have hi2 : i = 0 ∨ i = 1 ∨ i = 2 ∨ i = 3 ∨ i = 4 ∨ i = 5 ∨ i = 6 ∨ i = 7 ∨ i = 8 ∨ i = 9 ∨ i = 10 ∨ i = 11 ∨ i = 12 ∨ i = 13 ∨ i = 14 ∨ i = 15 ∨ i = 16 ∨ i = 17 ∨ i = 18 ∨ i = 19 ∨ i = 20 ∨ i = 21 ∨ i = 22 ∨ i = 23 ∨ i = 24 ∨ i = 25 := by omega
    clear hlist hi hne
    rcases hi2 with rfl | rfl | rfl | rfl | rfl | rfl | rfl | rfl | rfl | rfl | rfl | rfl | rfl | rfl | rfl | rfl | rfl | rfl | rfl | rfl | rfl | rfl | rfl | rfl | rfl | rfl
    · obtain rfl : _ = o := Option.some.inj ((show _ = some _ from rfl).symm.trans ho)
      refine wpOp_step rfl (fun K hK => ?_)
      go_simp
      refine hK _ _ (.inl ⟨hsz2, hn2 (by decide), _, ?_, hJ.quiet, hS.next (i := 0) rfl (apartB_spec hap rfl) (World.grownBy.refl _ _) rfl⟩)
      simp []
    · obtain rfl : _ = o := Option.some.inj ((show _ = some _ from rfl).symm.trans ho)
      refine wpOp_step rfl (fun K hK => ?_)
      go_simp
      refine hK _ _ (.inl ⟨hsz2, hn2 (by decide), _, ?_, hJ.quiet, hS.next (i := 1) rfl (apartB_spec hap rfl) (World.grownBy.refl _ _) rfl⟩)
      simp []
    · obtain rfl : _ = o := Option.some.inj ((show _ = some _ from rfl).symm.trans ho)
      refine wpOp_step rfl (fun K hK => ?_)
      go_simp
      refine hK _ _ (.inl ⟨hsz2, hn2 (by decide), _, ?_, hJ.quiet, hS.next (i := 2) rfl (apartB_spec hap rfl) (World.grownBy.refl _ _) rfl⟩)
      simp []
    · obtain rfl : _ = o := Option.some.inj ((show _ = some _ from rfl).symm.trans ho)
      have l2 : listed.getD 2 false = true := hd { on := 2, ground := .data } (by simp) rfl
      have v13 : V 13 = _ := hS 2 13 _ rfl l2
      obtain ⟨p, hp, hr, hgr⟩ := hJ
      refine wpOp_step rfl (fun K hK => ?_)
      go_simp
      refine (pick_any g p _ _ hr (by omega) (by omega) (by omega)).mono ?_
      rintro e w' ⟨k, rfl, hk, -, hr', hg', -⟩
      refine hK _ _ (.inl ⟨hsz2, hn2 (by decide), _, ?_, ⟨p + 1, by omega, hr', grown_trans hgr hg'⟩, hS.next (i := 3) rfl (apartB_spec hap rfl) hg' ⟨k, rfl, hk (by omega)⟩⟩)
      simp [v13]
    · obtain rfl : _ = o := Option.some.inj ((show _ = some _ from rfl).symm.trans ho)
      have l1 : listed.getD 1 false = true := hd { on := 1, ground := .data } (by simp) rfl
      have v12 : V 12 = _ := hS 1 12 _ rfl l1
      have l3 : listed.getD 3 false = true := hd { on := 3, ground := .data } (by simp) rfl
      obtain ⟨k14, v14, b14⟩ := hS 3 14 _ rfl l3
      have hgw : g < w.heap.size := by obtain ⟨p, _, hr, _⟩ := hJ; exact hr.lt
      refine wpOp_step rfl (fun K hK => ?_)
      go_simp
      refine hK _ _ (.inl ⟨hsz2, hn2 (by decide), _, ?_, hJ.alloc _, hS.next (i := 4) rfl (apartB_spec hap rfl) (World.grownBy_alloc w _ _) (tab_new _ hgw (fun j hj => by
        match j, hj with
        | 0, _ => exact ⟨_, rfl, by exact hn⟩
        | 1, _ => exact ⟨_, rfl, by unfold RC; omega⟩))⟩)
      simp [v12, v14]
    · obtain rfl : _ = o := Option.some.inj ((show _ = some _ from rfl).symm.trans ho)
      refine wpOp_step rfl (fun K hK => ?_)
      go_simp
      refine hK _ _ (.inl ⟨hsz2, hn2 (by decide), _, ?_, hJ.quiet, hS.next (i := 5) rfl (apartB_spec hap rfl) (World.grownBy.refl _ _) rfl⟩)
      simp []
    · obtain rfl : _ = o := Option.some.inj ((show _ = some _ from rfl).symm.trans ho)
      have l5 : listed.getD 5 false = true := hd { on := 5, ground := .data } (by simp) rfl
      have v16 : V 16 = _ := hS 5 16 _ rfl l5
      obtain ⟨p, hp, hr, hgr⟩ := hJ
      refine wpOp_step rfl (fun K hK => ?_)
      go_simp
      refine (pick_any g p _ _ hr (by omega) (by omega) (by omega)).mono ?_
      rintro e w' ⟨k, rfl, hk, -, hr', hg', -⟩
      refine hK _ _ (.inl ⟨hsz2, hn2 (by decide), _, ?_, ⟨p + 1, by omega, hr', grown_trans hgr hg'⟩, hS.next (i := 6) rfl (apartB_spec hap rfl) hg' ⟨k, rfl, hk (by omega)⟩⟩)
      simp [v16]
    · obtain rfl : _ = o := Option.some.inj ((show _ = some _ from rfl).symm.trans ho)
      have l4 : listed.getD 4 false = true := hd { on := 4, ground := .data } (by simp) rfl
      obtain ⟨s15, v15, g15, h15, t15⟩ := hS 4 15 _ rfl l4
      have l6 : listed.getD 6 false = true := hd { on := 6, ground := .data } (by simp) rfl
      obtain ⟨k17, v17, b17⟩ := hS 6 17 _ rfl l6
      have p17 : 0 ≤ (k17 : Int) ∧ (k17 : Int) < 2 := by omega
      obtain ⟨y, hy, ry⟩ := t15 k17 (by omega)
      refine wpOp_step rfl (fun K hK => ?_)
      go_simp
      refine hK _ _ (.inl ⟨hsz2, hn2 (by decide), _, ?_, hJ.quiet, hS.next (i := 7) rfl (apartB_spec hap rfl) (World.grownBy.refl _ _) ⟨s15, k17, rfl, g15, h15, y, hy, ry⟩⟩)
      simp [v15, v17]
    · obtain rfl : _ = o := Option.some.inj ((show _ = some _ from rfl).symm.trans ho)
      have l7 : listed.getD 7 false = true := hd { on := 7, ground := .data } (by simp) rfl
      obtain ⟨s18, j18, v18, g18, h18, z18, q18, r18⟩ := hS 7 18 _ rfl l7
      refine wpOp_step rfl (fun K hK => ?_)
      go_simp
      refine hK _ _ (.inl ⟨hsz2, hn2 (by decide), _, ?_, hJ.quiet, hS.next (i := 8) rfl (apartB_spec hap rfl) (World.grownBy.refl _ _) ⟨z18, rfl, r18⟩⟩)
      simp [v18]
    · obtain rfl : _ = o := Option.some.inj ((show _ = some _ from rfl).symm.trans ho)
      refine wpOp_step rfl (fun K hK => ?_)
      go_simp
      refine hK _ _ (.inl ⟨hsz2, hn2 (by decide), _, ?_, hJ.quiet, hS.next (i := 9) rfl (apartB_spec hap rfl) (World.grownBy.refl _ _) rfl⟩)
      simp []
    · obtain rfl : _ = o := Option.some.inj ((show _ = some _ from rfl).symm.trans ho)
      refine wpOp_step rfl (fun K hK => ?_)
      go_simp
      refine hK _ _ (.inl ⟨hsz2, hn2 (by decide), _, ?_, hJ.quiet, hS.next (i := 10) rfl (apartB_spec hap rfl) (World.grownBy.refl _ _) rfl⟩)
      simp []
    · obtain rfl : _ = o := Option.some.inj ((show _ = some _ from rfl).symm.trans ho)
      have l10 : listed.getD 10 false = true := hd { on := 10, ground := .data } (by simp) rfl
      have v21 : V 21 = _ := hS 10 21 _ rfl l10
      obtain ⟨p, hp, hr, hgr⟩ := hJ
      refine wpOp_step rfl (fun K hK => ?_)
      go_simp
      refine (pick_any g p _ _ hr (by omega) (by omega) (by omega)).mono ?_
      rintro e w' ⟨k, rfl, hk, -, hr', hg', -⟩
      refine hK _ _ (.inl ⟨hsz2, hn2 (by decide), _, ?_, ⟨p + 1, by omega, hr', grown_trans hgr hg'⟩, hS.next (i := 11) rfl (apartB_spec hap rfl) hg' ⟨k, rfl, hk (by omega)⟩⟩)
      simp [v21]
    · obtain rfl : _ = o := Option.some.inj ((show _ = some _ from rfl).symm.trans ho)
      have l9 : listed.getD 9 false = true := hd { on := 9, ground := .data } (by simp) rfl
      have v20 : V 20 = _ := hS 9 20 _ rfl l9
      have l11 : listed.getD 11 false = true := hd { on := 11, ground := .data } (by simp) rfl
      obtain ⟨k22, v22, b22⟩ := hS 11 22 _ rfl l11
      have hgw : g < w.heap.size := by obtain ⟨p, _, hr, _⟩ := hJ; exact hr.lt
      refine wpOp_step rfl (fun K hK => ?_)
      go_simp
      refine hK _ _ (.inl ⟨hsz2, hn2 (by decide), _, ?_, hJ.alloc _, hS.next (i := 12) rfl (apartB_spec hap rfl) (World.grownBy_alloc w _ _) (tab_new _ hgw (fun j hj => by
        match j, hj with
        | 0, _ => exact ⟨_, rfl, by exact hn⟩
        | 1, _ => exact ⟨_, rfl, by unfold RC; omega⟩))⟩)
      simp [v20, v22]
    · obtain rfl : _ = o := Option.some.inj ((show _ = some _ from rfl).symm.trans ho)
      refine wpOp_step rfl (fun K hK => ?_)
      go_simp
      refine hK _ _ (.inl ⟨hsz2, hn2 (by decide), _, ?_, hJ.quiet, hS.next (i := 13) rfl (apartB_spec hap rfl) (World.grownBy.refl _ _) rfl⟩)
      simp []
    · obtain rfl : _ = o := Option.some.inj ((show _ = some _ from rfl).symm.trans ho)
      have l13 : listed.getD 13 false = true := hd { on := 13, ground := .data } (by simp) rfl
      have v24 : V 24 = _ := hS 13 24 _ rfl l13
      obtain ⟨p, hp, hr, hgr⟩ := hJ
      refine wpOp_step rfl (fun K hK => ?_)
      go_simp
      refine (pick_any g p _ _ hr (by omega) (by omega) (by omega)).mono ?_
      rintro e w' ⟨k, rfl, hk, -, hr', hg', -⟩
      refine hK _ _ (.inl ⟨hsz2, hn2 (by decide), _, ?_, ⟨p + 1, by omega, hr', grown_trans hgr hg'⟩, hS.next (i := 14) rfl (apartB_spec hap rfl) hg' ⟨k, rfl, hk (by omega)⟩⟩)
      simp [v24]
    · obtain rfl : _ = o := Option.some.inj ((show _ = some _ from rfl).symm.trans ho)
      have l12 : listed.getD 12 false = true := hd { on := 12, ground := .data } (by simp) rfl
      obtain ⟨s23, v23, g23, h23, t23⟩ := hS 12 23 _ rfl l12
      have l14 : listed.getD 14 false = true := hd { on := 14, ground := .data } (by simp) rfl
      obtain ⟨k25, v25, b25⟩ := hS 14 25 _ rfl l14
      have p25 : 0 ≤ (k25 : Int) ∧ (k25 : Int) < 2 := by omega
      obtain ⟨y, hy, ry⟩ := t23 k25 (by omega)
      refine wpOp_step rfl (fun K hK => ?_)
      go_simp
      refine hK _ _ (.inl ⟨hsz2, hn2 (by decide), _, ?_, hJ.quiet, hS.next (i := 15) rfl (apartB_spec hap rfl) (World.grownBy.refl _ _) ⟨s23, k25, rfl, g23, h23, y, hy, ry⟩⟩)
      simp [v23, v25]
    · obtain rfl : _ = o := Option.some.inj ((show _ = some _ from rfl).symm.trans ho)
      have l15 : listed.getD 15 false = true := hd { on := 15, ground := .data } (by simp) rfl
      obtain ⟨s26, j26, v26, g26, h26, z26, q26, r26⟩ := hS 15 26 _ rfl l15
      refine wpOp_step rfl (fun K hK => ?_)
      go_simp
      refine hK _ _ (.inl ⟨hsz2, hn2 (by decide), _, ?_, hJ.quiet, hS.next (i := 16) rfl (apartB_spec hap rfl) (World.grownBy.refl _ _) ⟨z26, rfl, r26⟩⟩)
      simp [v26]
    · obtain rfl : _ = o := Option.some.inj ((show _ = some _ from rfl).symm.trans ho)
      refine wpOp_step rfl (fun K hK => ?_)
      go_simp
      refine hK _ _ (.inl ⟨hsz2, hn2 (by decide), _, ?_, hJ.quiet, hS.next (i := 17) rfl (apartB_spec hap rfl) (World.grownBy.refl _ _) rfl⟩)
      simp []
    · obtain rfl : _ = o := Option.some.inj ((show _ = some _ from rfl).symm.trans ho)
      have l17 : listed.getD 17 false = true := hd { on := 17, ground := .data } (by simp) rfl
      have v28 : V 28 = _ := hS 17 28 _ rfl l17
      obtain ⟨p, hp, hr, hgr⟩ := hJ
      refine wpOp_step rfl (fun K hK => ?_)
      go_simp
      refine (pick_any g p _ _ hr (by omega) (by omega) (by omega)).mono ?_
      rintro e w' ⟨k, rfl, hk, -, hr', hg', -⟩
      refine hK _ _ (.inl ⟨hsz2, hn2 (by decide), _, ?_, ⟨p + 1, by omega, hr', grown_trans hgr hg'⟩, hS.next (i := 18) rfl (apartB_spec hap rfl) hg' ⟨k, rfl, hk (by omega)⟩⟩)
      simp [v28]
    · obtain rfl : _ = o := Option.some.inj ((show _ = some _ from rfl).symm.trans ho)
      have l18 : listed.getD 18 false = true := hd { on := 18, ground := .data } (by simp) rfl
      obtain ⟨k29, v29, b29⟩ := hS 18 29 _ rfl l18
      have hgw : g < w.heap.size := by obtain ⟨p, _, hr, _⟩ := hJ; exact hr.lt
      refine wpOp_step rfl (fun K hK => ?_)
      go_simp
      refine hK _ _ (.inl ⟨hsz2, hn2 (by decide), _, ?_, hJ.alloc _, hS.next (i := 19) rfl (apartB_spec hap rfl) (World.grownBy_alloc w _ _) (tab_new _ hgw (fun j hj => by
        match j, hj with
        | 0, _ => exact ⟨_, rfl, by unfold RC; omega⟩
        | 1, _ => exact ⟨_, rfl, by unfold RC; omega⟩
        | 2, _ => exact ⟨_, rfl, by unfold RC; omega⟩
        | 3, _ => exact ⟨_, rfl, by unfold RC; omega⟩))⟩)
      simp [v29]
    · obtain rfl : _ = o := Option.some.inj ((show _ = some _ from rfl).symm.trans ho)
      refine wpOp_step rfl (fun K hK => ?_)
      go_simp
      refine hK _ _ (.inl ⟨hsz2, hn2 (by decide), _, ?_, hJ.quiet, hS.next (i := 20) rfl (apartB_spec hap rfl) (World.grownBy.refl _ _) rfl⟩)
      simp []
    · obtain rfl : _ = o := Option.some.inj ((show _ = some _ from rfl).symm.trans ho)
      have l20 : listed.getD 20 false = true := hd { on := 20, ground := .data } (by simp) rfl
      have v31 : V 31 = _ := hS 20 31 _ rfl l20
      obtain ⟨p, hp, hr, hgr⟩ := hJ
      refine wpOp_step rfl (fun K hK => ?_)
      go_simp
      refine (pick_any g p _ _ hr (by omega) (by omega) (by omega)).mono ?_
      rintro e w' ⟨k, rfl, hk, -, hr', hg', -⟩
      refine hK _ _ (.inl ⟨hsz2, hn2 (by decide), _, ?_, ⟨p + 1, by omega, hr', grown_trans hgr hg'⟩, hS.next (i := 21) rfl (apartB_spec hap rfl) hg' ⟨k, rfl, hk (by omega)⟩⟩)
      simp [v31]
    · obtain rfl : _ = o := Option.some.inj ((show _ = some _ from rfl).symm.trans ho)
      have l19 : listed.getD 19 false = true := hd { on := 19, ground := .data } (by simp) rfl
      obtain ⟨s30, v30, g30, h30, t30⟩ := hS 19 30 _ rfl l19
      have l21 : listed.getD 21 false = true := hd { on := 21, ground := .data } (by simp) rfl
      obtain ⟨k32, v32, b32⟩ := hS 21 32 _ rfl l21
      have p32 : 0 ≤ (k32 : Int) ∧ (k32 : Int) < 4 := by omega
      obtain ⟨y, hy, ry⟩ := t30 k32 (by omega)
      refine wpOp_step rfl (fun K hK => ?_)
      go_simp
      refine hK _ _ (.inl ⟨hsz2, hn2 (by decide), _, ?_, hJ.quiet, hS.next (i := 22) rfl (apartB_spec hap rfl) (World.grownBy.refl _ _) ⟨s30, k32, rfl, g30, h30, y, hy, ry⟩⟩)
      simp [v30, v32]
    · obtain rfl : _ = o := Option.some.inj ((show _ = some _ from rfl).symm.trans ho)
      have l22 : listed.getD 22 false = true := hd { on := 22, ground := .data } (by simp) rfl
      obtain ⟨s33, j33, v33, g33, h33, z33, q33, r33⟩ := hS 22 33 _ rfl l22
      refine wpOp_step rfl (fun K hK => ?_)
      go_simp
      refine hK _ _ (.inl ⟨hsz2, hn2 (by decide), _, ?_, hJ.quiet, hS.next (i := 23) rfl (apartB_spec hap rfl) (World.grownBy.refl _ _) ⟨z33, rfl, r33⟩⟩)
      simp [v33]
    · obtain rfl : _ = o := Option.some.inj ((show _ = some _ from rfl).symm.trans ho)
      have l0 : listed.getD 0 false = true := hd { on := 0, ground := .data } (by simp) rfl
      have v11 : V 11 = _ := hS 0 11 _ rfl l0
      have l8 : listed.getD 8 false = true := hd { on := 8, ground := .data } (by simp) rfl
      obtain ⟨z19, v19, r19⟩ := hS 8 19 _ rfl l8
      have l16 : listed.getD 16 false = true := hd { on := 16, ground := .data } (by simp) rfl
      obtain ⟨z27, v27, r27⟩ := hS 16 27 _ rfl l16
      have l23 : listed.getD 23 false = true := hd { on := 23, ground := .data } (by simp) rfl
      obtain ⟨z34, v34, r34⟩ := hS 23 34 _ rfl l23
      refine wpOp_step rfl (fun K hK => ?_)
      go_simp
      refine hK _ _ (.inl ⟨hsz2, hn2 (by decide), _, ?_, hJ.quiet, hS.next (i := 24) rfl (apartB_spec hap rfl) (World.grownBy.refl _ _) ⟨⟨n, z19, z27, z34⟩, rfl, px_in hn r19 r27 r34⟩⟩)
      simp [v11, v19, v27, v34, Px.v]
    · obtain rfl : _ = o := Option.some.inj ((show _ = some _ from rfl).symm.trans ho)
      have l24 : listed.getD 24 false = true := hd { on := 24, ground := .data } (by simp) rfl
      obtain ⟨x35, v35, r35⟩ := hS 24 35 _ rfl l24
      obtain ⟨p, hp, hr, hgr⟩ := hJ
      have hrow := HR.out w hgr
      have c0 : w.cell? ⟨R, 0, none⟩ = some (.int .i64 0) := by rw [cell_of_row w _ 0 _ _ _ hrow]; rfl
      have c1 : w.cell? ⟨R, 1, none⟩ = some (.int .i64 0) := by rw [cell_of_row w _ 1 _ _ _ hrow]; rfl
      have c2 : w.cell? ⟨R, 2, none⟩ = some (.int .i64 0) := by rw [cell_of_row w _ 2 _ _ _ hrow]; rfl
      have c3 : w.cell? ⟨R, 3, none⟩ = some (.int .i64 0) := by rw [cell_of_row w _ 3 _ _ _ hrow]; rfl
      have f0 : w.frozen? ⟨R, 0, none⟩ = false := by simp [World.frozen?, hrow]
      have f1 : w.frozen? ⟨R, 1, none⟩ = false := by simp [World.frozen?, hrow]
      have f2 : w.frozen? ⟨R, 2, none⟩ = false := by simp [World.frozen?, hrow]
      have f3 : w.frozen? ⟨R, 3, none⟩ = false := by simp [World.frozen?, hrow]
      unfold Px.v at v35
      refine wpOp_step rfl (fun K hK => ?_)
      go_simp
      refine hK _ _ (.inr ⟨fun j hj => ?_, x35, r35, w, p, by omega, hr, hgr, ?_, V, ?_⟩)
      · refine set_all hsz hj ?_
        have hall : ∀ i, i < 25 → listed.getD i false = true := fun i hi => by
          have hi2 : i = 0 ∨ i = 1 ∨ i = 2 ∨ i = 3 ∨ i = 4 ∨ i = 5 ∨ i = 6 ∨ i = 7 ∨ i = 8 ∨ i = 9 ∨ i = 10 ∨ i = 11 ∨ i = 12 ∨ i = 13 ∨ i = 14 ∨ i = 15 ∨ i = 16 ∨ i = 17 ∨ i = 18 ∨ i = 19 ∨ i = 20 ∨ i = 21 ∨ i = 22 ∨ i = 23 ∨ i = 24 := by omega
          rcases hi2 with rfl | rfl | rfl | rfl | rfl | rfl | rfl | rfl | rfl | rfl | rfl | rfl | rfl | rfl | rfl | rfl | rfl | rfl | rfl | rfl | rfl | rfl | rfl | rfl | rfl
          all_goals first | exact hd _ (by simp; exact .inl rfl) rfl | exact hd { on := _, ground := .phase } (by simp) rfl | exact hd { on := _, ground := .data } (by simp) rfl
        by_cases h25 : j = 25
        · exact .inl h25
        · exact .inr (hall j (by omega))
      · rfl
      · simp [v35]
  · intro fuel listed a W hI hall
    rcases hI with ⟨hsz, hne, _⟩ | ⟨_, q, hq, W1, p', hp', hr', hg', rfl, V, rfl⟩
    · have h1 := hall 25 (by decide)
      have hin : 25 < listed.size := by omega
      simp [hin] at h1 hne
      rw [h1] at hne
      cases hne
    have HQ := Lib.hid (fin_px (HR.out W1 hg') q)
    have HF : Hid (DrewP w g p (.returned q.v) ((((W1.setCell ⟨R, 0, none⟩ (.int .i64 q.r)).setCell ⟨R, 1, none⟩ (.int .i64 q.g)).setCell ⟨R, 2, none⟩ (.int .i64 q.b)).setCell ⟨R, 3, none⟩ (.int .i64 q.a))) := Lib.hid ⟨q, rfl, hq, ⟨p', hp', hr'.kept fun j hj => by
      have hz := hr'.lt
      rw [Below.heap_setCell _ _ _ j (by simp; omega), Below.heap_setCell _ _ _ j (by simp; omega), Below.heap_setCell _ _ _ j (by simp; omega), Below.heap_setCell _ _ _ j (by simp; omega)]⟩,
      grown_own (grown_trans HG.out hg') (grown_px W1 R _ _ _ _) (fun x hx => by injection hx with hx; omega)⟩
    clear hr' hg' hall hr2
    go_wp2_with fail
    (try simp only [Exit.inBlock, Exit.then])
    exact bodyPost_ret (results_cell_row rfl _ _ R 40 #[.int .i64 q.r, .int .i64 q.g, .int .i64 q.b, .int .i64 q.a] (0, 0) _ rfl HQ.out Try.underlying40 rfl (by kernel_rfl)) rfl HF.out
end Go.Proofs.Ytnnpjcbdcjdojaa
namespace Go.Proofs.Ytnnpjcbdcjdojaa
open Go.RowKit

set_option maxHeartbeats 400000 in
theorem oddAt_any (g p : Nat) (m : Int) (w : World) (h : Rdr w g p) (hp : p ≤ 1000000000) (hm : 1 ≤ m) (hm2 : m ≤ 1000000000) :
    Calls Try.prog 40 #[.pointer (some ⟨g, 0, none⟩), .int .i64 m] w fun e w' => ∃ b : Bool, e = .returned (.bool b) ∧ ∃ p', p' ≤ p + 1 ∧ Rdr w' g p' ∧ w.grownBy w' (some g) := by
  go_enter Try.func40, Try.ntmps40
  go_wp2_with fail
  refine (pick_any g p _ _ h (by omega) (by omega) (by omega)).mono ?_
  rintro e w1 ⟨k1, rfl, -, -, hr1, hg1, -⟩
  go_wp2_with fail
  go_ret
  exact ⟨_, rfl, p + 1, Nat.le_refl _, hr1, hg1⟩
/-- A row of the call's own that does not lie in the reader's block stays as the reader goes on. -/
theorem Own.keepRd {w w' : World} {base g : Nat} {v : Value} {l : List UInt8} (h : Own w base v l) (hg : w.grownBy w' (some g)) (hb : g < base) : Own w' base v l :=
  h.keep hg (by
    cases hv : v.ownBlock with
    | none => exact .inl rfl
    | some q =>
      refine .inr fun e => ?_
      have := (World.ownsRow.lt h q hv).1
      injection e with e
      omega)
end Go.Proofs.Ytnnpjcbdcjdojaa
namespace Go.Proofs.Ytnnpjcbdcjdojaa
open Go.RowKit

/-- What l20Ras answers. -/
def DrewR (w : World) (g p : Nat) (e : Ending) (w' : World) : Prop :=
  ∃ W H : Int, ∃ A c, ∃ l : List Px, e = .returned (rasV W H A l.length c) ∧ HasP w' w'.heap.size A l ∧ l.length ≤ c ∧ l.length ≤ 36 ∧ (∃ p', p' ≤ p + 2000 ∧ Rdr w' g p') ∧ w.grownBy w' (some g) ∧ ∀ b o, A = some ⟨b, o, none⟩ → w.heap.size ≤ b
/-- Block g holds a pixel. -/
def PixAtB (w : World) (g : Nat) (q : Px) : Prop := w.heap[g]? = some (.cells #[.int .i64 q.r, .int .i64 q.g, .int .i64 q.b, .int .i64 q.a] 40 (0, 0))
section
variable {w w' : World} {g : Nat} {q : Px}
theorem PixAtB.c0 (h : PixAtB w g q) : w.cell? ⟨g, 0, none⟩ = some (.int .i64 q.r) := by rw [cell_of_row w g 0 _ _ _ h]; rfl
theorem PixAtB.c1 (h : PixAtB w g q) : w.cell? ⟨g, 1, none⟩ = some (.int .i64 q.g) := by rw [cell_of_row w g 1 _ _ _ h]; rfl
theorem PixAtB.c2 (h : PixAtB w g q) : w.cell? ⟨g, 2, none⟩ = some (.int .i64 q.b) := by rw [cell_of_row w g 2 _ _ _ h]; rfl
theorem PixAtB.c3 (h : PixAtB w g q) : w.cell? ⟨g, 3, none⟩ = some (.int .i64 q.a) := by rw [cell_of_row w g 3 _ _ _ h]; rfl
theorem PixAtB.lt (h : PixAtB w g q) : g < w.heap.size := (Array.getElem?_eq_some_iff.1 h).1
theorem PixAtB.free (h : PixAtB w g q) (i : Nat) : w.frozen? ⟨g, i, none⟩ = false := by unfold PixAtB at h; simp [World.frozen?, h]
theorem PixAtB.grown {row : Option Nat} (h : PixAtB w g q) (hg : w.grownBy w' row) (hne : row ≠ some g) : PixAtB w' g q := (hg.block g h.lt (fun e => hne e.symm)).trans h
theorem PixAtB.put (h : PixAtB w g q) (p : Px) : PixAtB ((((w.setCell ⟨g, 0, none⟩ (.int .i64 p.r)).setCell ⟨g, 1, none⟩ (.int .i64 p.g)).setCell ⟨g, 2, none⟩ (.int .i64 p.b)).setCell ⟨g, 3, none⟩ (.int .i64 p.a)) g p := fin_px h p
end
theorem OwnP.keepNe {w w' : World} {base g : Nat} {v : Value} {l : List Px} (h : OwnP w base v l) (hg : w.grownBy w' (some g)) (hb : g < base) : OwnP w' base v l := h.keepRd hg hb
set_option maxHeartbeats 400000 in
theorem odd_any (g p : Nat) (m : Int) (w : World) (h : Rdr w g p) (hp : p ≤ 1000000000) (hm : 0 ≤ m) (hm2 : m ≤ 1000000000) :
    Calls Try.prog 40 #[.pointer (some ⟨g, 0, none⟩), .int .i64 m] w fun e w' => ∃ b : Bool, e = .returned (.bool b) ∧ ∃ p', p' ≤ p + 1 ∧ Rdr w' g p' ∧ w.grownBy w' (some g) := by
  by_cases h1 : 1 ≤ m
  · exact oddAt_any g p m w h hp h1 hm2
  · obtain rfl : m = 0 := by omega
    clear h1
    go_enter Try.func40, Try.ntmps40
    go_wp2_with fail
    go_ret
    exact ⟨_, rfl, p, by omega, h, World.grownBy.refl _ _⟩
theorem HasP.set_ne {w : World} {B R : Nat} {A : Option Addr} {l : List Px} (h : HasP w B A l) (hA : ∀ b o, A = some ⟨b, o, none⟩ → b ≠ R) (i : Nat) (x : Value) : HasP (w.setCell ⟨R, i, none⟩ x) B A l := by
  rcases h with rfl | ⟨b, o, rfl, hb, hc⟩
  · exact .inl rfl
  · exact .inr ⟨b, o, rfl, hb, fun j y hy => (hc j y hy).kept fun q hq => World.cell?_of_block (Below.heap_setCell w _ _ _ (by rw [hq]; exact hA b o rfl))⟩
theorem HasP.tail {w : World} {B b o : Nat} {q : Px} {l : List Px} (h : HasP w B (some ⟨b, o, none⟩) (q :: l)) : HasP w B (some ⟨b, o + 4, none⟩) l := by
  rcases h with h | ⟨b', o', e, hb, hc⟩
  · cases h
  · injection e with e
    injection e with e1 e2 _
    subst e1 e2
    exact .inr ⟨b, o + 4, rfl, hb, fun j y hy => by
      have := hc (j + 1) y (by simpa using hy)
      rw [show o + (j + 1) * 4 = o + 4 + j * 4 from by omega] at this
      exact this⟩
theorem HasP.setG {w : World} {B b o i : Nat} {q : Px} {l : List Px} (h : HasP w B (some ⟨b, o, none⟩) l) (hq : l[i]? = some q) (z : Int) : HasP (w.setCell ⟨b, o + i * 4 + 1, none⟩ (.int .i64 z)) B (some ⟨b, o, none⟩) (l.set i ⟨q.r, z, q.b, q.a⟩) := by
  rcases h with rfl | ⟨b', o', e, hb, hc⟩
  · simp at hq
  · injection e with e
    injection e with e1 e2 _
    subst e1 e2
    refine .inr ⟨b, o, rfl, hb, fun j y hy => ?_⟩
    have other : ∀ k, k ≠ o + i * 4 + 1 → (w.setCell ⟨b, o + i * 4 + 1, none⟩ (.int .i64 z)).cell? ⟨b, k, none⟩ = w.cell? ⟨b, k, none⟩ := fun k hk => by
      apply World.cell?_setCell_other
      intro e
      injection e with _ e2 _
      exact hk e2.symm
    by_cases hji : j = i
    · subst hji
      have hil : j < l.length := (List.getElem?_eq_some_iff.1 hq).1
      rw [List.getElem?_set_self hil] at hy
      injection hy with hy
      subst hy
      obtain ⟨c0, c1, c2, c3⟩ := hc j q hq
      exact ⟨(other _ (by omega)).trans c0, World.cell?_setCell_same w _ _ c1, (other _ (by omega)).trans c2, (other _ (by omega)).trans c3⟩
    · rw [List.getElem?_set_ne (Ne.symm hji)] at hy
      obtain ⟨c0, c1, c2, c3⟩ := hc j y hy
      exact ⟨(other _ (by omega)).trans c0, (other _ (by omega)).trans c1, (other _ (by omega)).trans c2, (other _ (by omega)).trans c3⟩
/-- The state of the draw of a raster after k pixels: R the result, X the raster, L the last pixel. -/
def RasSt (w0 : World) (g R X L B : Nat) (W H : Int) (N k : Nat) (w : World) : Prop :=
  ∃ A c, ∃ l : List Px, ∃ q p', l.length = k ∧ RasAtB w R 0 0 none 0 0 25 ∧ RasAtB w X W H A k c 25 ∧ PixAtB w L q ∧ OwnP w B (.slice A k c) l ∧ Rdr w g p' ∧ p' ≤ N + 29 * k ∧ w0.grownBy w (some g) ∧ B ≤ w.heap.size
set_option maxHeartbeats 4000000 in
theorem l20Ras_any (g p : Nat) (n : Int) (w : World) (h : Rdr w g p) (hp : p ≤ 10000000) (hn : 0 ≤ n) (hn2 : n ≤ 1000000000) :
    Calls Try.prog 43 #[.pointer (some ⟨g, 0, none⟩), .int .i64 n] w (DrewR w g p) := by
  have hgw := h.lt
  have hR0 : RasAtB (w.alloc (.cells #[.int .i64 0, .int .i64 0, .slice none 0 0] 25)) w.heap.size 0 0 none 0 0 25 := heap_alloc_new w _
  have hG0 : w.grownBy (w.alloc (.cells #[.int .i64 0, .int .i64 0, .slice none 0 0] 25)) (some g) := World.grownBy_alloc w _ _
  have hr0 := h.alloc (.cells #[.int .i64 0, .int .i64 0, .slice none 0 0] 25)
  go_enter Try.func43, Try.ntmps43
  go_wp2_with fail
  generalize w.alloc (.cells #[.int .i64 0, .int .i64 0, .slice none 0 0] 25) = w0 at *
  obtain ⟨R, hRR, hRg⟩ : ∃ R, w.heap.size = R ∧ g < R := ⟨_, rfl, hgw⟩
  rw [hRR] at hR0 ⊢
  refine (pick_any g p _ _ hr0 (by omega) (by omega) (by omega)).mono ?_
  rintro e w1 ⟨k1, rfl, hk1, -, hr1, hg1, -⟩
  have hk1' : (k1 : Int) < 6 := hk1 (by omega)
  have hR1 := hR0.grown hg1 (by simp; omega)
  have hG1 := grown_trans hG0 hg1
  clear hk1 hr0 hg1 hR0 hG0
  go_wp2_with fail
  refine (pick_any g (p + 1) _ _ hr1 (by omega) (by omega) (by omega)).mono ?_
  rintro e w2 ⟨k2, rfl, hk2, -, hr2, hg2, -⟩
  have hk2' : (k2 : Int) < 6 := hk2 (by omega)
  have hR2 := hR1.grown hg2 (by simp; omega)
  have hG2 := grown_trans hG1 hg2
  have hrz := hR2.lt
  have hX3 : RasAtB (w2.alloc (.cells #[.int .i64 (1 + (k1 : Int)), .int .i64 (1 + (k2 : Int)), .slice none 0 0] 25)) w2.heap.size (1 + k1) (1 + k2) none 0 0 25 := heap_alloc_new w2 _
  have hR3 := hR2.grown (World.grownBy_alloc w2 (.cells #[.int .i64 (1 + (k1 : Int)), .int .i64 (1 + (k2 : Int)), .slice none 0 0] 25) (some g)) (by simp; omega)
  have hG3 := grown_trans hG2 (World.grownBy_alloc w2 (.cells #[.int .i64 (1 + (k1 : Int)), .int .i64 (1 + (k2 : Int)), .slice none 0 0] 25) (some g))
  have hr3 := hr2.alloc (.cells #[.int .i64 (1 + (k1 : Int)), .int .i64 (1 + (k2 : Int)), .slice none 0 0] 25)
  obtain ⟨X, hXX, hXR⟩ : ∃ X, w2.heap.size = X ∧ R < X := ⟨_, rfl, hrz⟩
  rw [hXX] at hX3
  clear hk2 hg2 hr1 hr2 hR1 hR2 hG1 hG2
  go_wp2_with fail
  try rw [hXX]
  generalize w2.alloc (.cells #[.int .i64 (1 + (k1 : Int)), .int .i64 (1 + (k2 : Int)), .slice none 0 0] 25) = w3 at *
  refine (l20Pix_any g (p + 1 + 1) _ hr3 (by omega)).mono ?_
  rintro e w4 ⟨q, rfl, -, ⟨p4, hp4, hr4⟩, hg4⟩
  have hX4 := hX3.grown hg4 (by simp; omega)
  have hR4 := hR3.grown hg4 (by simp; omega)
  have hG4 := grown_trans hG3 hg4
  have hL5 : PixAtB (w4.alloc (.cells #[.int .i64 q.r, .int .i64 q.g, .int .i64 q.b, .int .i64 q.a] 40)) w4.heap.size q := heap_alloc_new w4 _
  have hX5 := hX4.grown (World.grownBy_alloc w4 (.cells #[.int .i64 q.r, .int .i64 q.g, .int .i64 q.b, .int .i64 q.a] 40) (some g)) (by simp; omega)
  have hR5 := hR4.grown (World.grownBy_alloc w4 (.cells #[.int .i64 q.r, .int .i64 q.g, .int .i64 q.b, .int .i64 q.a] 40) (some g)) (by simp; omega)
  have hG5 := grown_trans hG4 (World.grownBy_alloc w4 (.cells #[.int .i64 q.r, .int .i64 q.g, .int .i64 q.b, .int .i64 q.a] 40) (some g))
  have hr5 := hr4.alloc (.cells #[.int .i64 q.r, .int .i64 q.g, .int .i64 q.b, .int .i64 q.a] 40)
  obtain ⟨L, hLL, hXL⟩ : ∃ L, w4.heap.size = L ∧ X < L := ⟨_, rfl, hX4.lt⟩
  rw [hLL] at hL5
  unfold Px.v
  clear hg4 hr3 hr4 hX3 hX4 hR3 hR4 hG3 hG4 h
  go_wp2_with fail
  try rw [hLL]
  generalize w4.alloc (.cells #[.int .i64 q.r, .int .i64 q.g, .int .i64 q.b, .int .i64 q.a] 40) = w5 at *
  obtain ⟨W, hW⟩ : ∃ W, 1 + (k1 : Int) = W := ⟨_, rfl⟩
  obtain ⟨H, hH⟩ : ∃ H, 1 + (k2 : Int) = H := ⟨_, rfl⟩
  have hWb : 1 ≤ W ∧ W ≤ 6 := by omega
  have hHb : 1 ≤ H ∧ H ≤ 6 := by omega
  have h36 := mul36 hWb hHb
  obtain ⟨N, hN⟩ : ∃ N : Nat, W * H = (N : Int) := ⟨(W * H).toNat, by omega⟩
  have hN36 : N ≤ 36 := by omega
  have hN1 : 1 ≤ N := by omega
  have hwr : wrap64 (W * H) = (N : Int) := by rw [hN]; unfold wrap64; omega
  rw [hW, hH] at hX5
  have HST : Hid (RasSt w g R X L w5.heap.size W H (p + 30) 0 w5) := Lib.hid ⟨none, 0, [], q, p4, rfl, hR5, hX5, hL5, ownP_nil _ _, hr5, by omega, hG5, Nat.le_refl _⟩
  have hLz := hL5.lt
  rw [hW, hH]
  have HN := Lib.hid hN
  clear hR5 hX5 hL5 hr5 hG5 hN h36 hW hH
  go_loopw [7] (fun i wr => ∃ k : Nat, k ≤ N ∧ i = .int .i64 k ∧ RasSt w g R X L w5.heap.size W H (p + 30) k wr) (fun i _ => N - (intOf i).toNat)
  case atStart => exact ⟨0, Nat.zero_le _, rfl, HST.out⟩
  case round =>
    obtain ⟨k, hk, rfl, A, c, l, q, p', hl, hR, hX, hL, hown, hrd, hp', hG, hz⟩ := hrel
    have x0 := hX.c0
    have x1 := hX.c1
    have x2 := hX.c2
    by_cases hlt : k < N
    · go_wp2_with fail
      refine (pick_any g p' _ _ hrd (by omega) (by omega) (by omega)).mono ?_
      rintro e wa ⟨k3, rfl, -, -, hrA, hgA, -⟩
      have hRa := hR.grown hgA (by simp; omega)
      have hXa := hX.grown hgA (by simp; omega)
      have hLa := hL.grown hgA (by simp; omega)
      have hownA := hown.keepRd hgA (by omega)
      have hGa := grown_trans hG hgA
      have hzA := Nat.le_trans hz hgA.size
      clear hR hX hL hown hG hz hgA hrd x0 x1 x2
      by_cases h3 : 0 < (k3 : Int)
      · go_wp2_with fail
        refine (l20Pix_any g (p' + 1) _ hrA (by omega)).mono ?_
        rintro e wb ⟨qb, rfl, -, ⟨pb, hpb, hrB⟩, hgB⟩
        have hXb := hXa.grown hgB (by simp; omega)
        have hLb := hLa.grown hgB (by simp; omega)
        have hRs := (((hRa.grown hgB (by simp; omega)).set_other (b := L) (by omega) 0 (.int .i64 qb.r)).set_other (b := L) (by omega) 1 (.int .i64 qb.g)).set_other (b := L) (by omega) 2 (.int .i64 qb.b) |>.set_other (b := L) (by omega) 3 (.int .i64 qb.a)
        have hXs := ((hXb.set_other (b := L) (by omega) 0 (.int .i64 qb.r)).set_other (b := L) (by omega) 1 (.int .i64 qb.g)).set_other (b := L) (by omega) 2 (.int .i64 qb.b) |>.set_other (b := L) (by omega) 3 (.int .i64 qb.a)
        have hLs := hLb.put qb
        have hownS := OwnP.set_low (OwnP.set_low (OwnP.set_low (OwnP.set_low (hownA.keepRd hgB (by omega)) hLz 0 (.int .i64 qb.r)) hLz 1 (.int .i64 qb.g)) hLz 2 (.int .i64 qb.b)) hLz 3 (.int .i64 qb.a)
        have hGs := grown_own (grown_trans hGa hgB) (grown_px wb L (.int .i64 qb.r) (.int .i64 qb.g) (.int .i64 qb.b) (.int .i64 qb.a)) (fun b hb => by injection hb with hb; omega)
        have hrS : Rdr ((((wb.setCell ⟨L, 0, none⟩ (.int .i64 qb.r)).setCell ⟨L, 1, none⟩ (.int .i64 qb.g)).setCell ⟨L, 2, none⟩ (.int .i64 qb.b)).setCell ⟨L, 3, none⟩ (.int .i64 qb.a)) g pb := hrB.kept (fun j hj => by
          have := hrB.lt
          rw [Below.heap_setCell _ _ _ j (by simp; omega), Below.heap_setCell _ _ _ j (by simp; omega), Below.heap_setCell _ _ _ j (by simp; omega), Below.heap_setCell _ _ _ j (by simp; omega)])
        have hzS : w5.heap.size ≤ wb.heap.size := Nat.le_trans hzA hgB.size
        have l0 := hLb.c0
        have l1 := hLb.c1
        have l2 := hLb.c2
        have l3 := hLb.c3
        have lf0 := hLb.free 0
        have lf1 := hLb.free 1
        have lf2 := hLb.free 2
        have lf3 := hLb.free 3
        have x2 := hXb.c2
        have hne : ¬ X = L := by omega
        unfold Px.v
        clear hRa hXa hLa hownA hGa hgB hrA hrB hXb hLb
        have HOs := Lib.hid hownS
        have HXs := Lib.hid hXs
        have HRs := Lib.hid hRs
        have HLs := Lib.hid hLs
        have HrS := Lib.hid hrS
        have HGs := Lib.hid hGs
        have sz : Hid (((((wb.setCell ⟨L, 0, none⟩ (.int .i64 qb.r)).setCell ⟨L, 1, none⟩ (.int .i64 qb.g)).setCell ⟨L, 2, none⟩ (.int .i64 qb.b)).setCell ⟨L, 3, none⟩ (.int .i64 qb.a)).heap.size = wb.heap.size) := Lib.hid (by simp)
        have hll : l.length + 1 ≤ 1073741824 := by omega
        have hbS : Hid (w5.heap.size ≤ ((((wb.setCell ⟨L, 0, none⟩ (.int .i64 qb.r)).setCell ⟨L, 1, none⟩ (.int .i64 qb.g)).setCell ⟨L, 2, none⟩ (.int .i64 qb.b)).setCell ⟨L, 3, none⟩ (.int .i64 qb.a)).heap.size) := Lib.hid (by rw [sz.out]; exact hzS)
        clear hownS hXs hRs hLs hrS hGs
        go_wp2_with (at_builtin; refine wpList_pushP rfl (.tmp 32) (.tmp 34) rfl w5.heap.size (.slice A k c) l rfl HOs.out qb wb.heap.size sz.out rfl hll hbS.out ?_; intro g6 c6 w6 ho6 hg6 h6; have hXg := Lib.hid ((HXs.out.grown (World.grownBy_alloc ((((wb.setCell ⟨L, 0, none⟩ (.int .i64 qb.r)).setCell ⟨L, 1, none⟩ (.int .i64 qb.g)).setCell ⟨L, 2, none⟩ (.int .i64 qb.b)).setCell ⟨L, 3, none⟩ (.int .i64 qb.a)) (.cells #[.int .i64 qb.r, .int .i64 qb.g, .int .i64 qb.b, .int .i64 qb.a] 40) none) (by simp)).grown hg6 (fun e => by have := (World.ownsRow.lt HOs.out _ e).1; omega)); have x62 := hXg.out.c2; have x6f := hXg.out.free 2)
        have hB6 : ∀ b, b < w5.heap.size → (Value.slice A k c).ownBlock ≠ some b := fun b hb e => by have := (World.ownsRow.lt HOs.out _ e).1; omega
        have hRg := (HRs.out.grown (World.grownBy_alloc ((((wb.setCell ⟨L, 0, none⟩ (.int .i64 qb.r)).setCell ⟨L, 1, none⟩ (.int .i64 qb.g)).setCell ⟨L, 2, none⟩ (.int .i64 qb.b)).setCell ⟨L, 3, none⟩ (.int .i64 qb.a)) (.cells #[.int .i64 qb.r, .int .i64 qb.g, .int .i64 qb.b, .int .i64 qb.a] 40) none) (by simp)).grown hg6 (hB6 R (by omega))
        have hLg := (HLs.out.grown (World.grownBy_alloc ((((wb.setCell ⟨L, 0, none⟩ (.int .i64 qb.r)).setCell ⟨L, 1, none⟩ (.int .i64 qb.g)).setCell ⟨L, 2, none⟩ (.int .i64 qb.b)).setCell ⟨L, 3, none⟩ (.int .i64 qb.a)) (.cells #[.int .i64 qb.r, .int .i64 qb.g, .int .i64 qb.b, .int .i64 qb.a] 40) none) (by simp)).grown hg6 (hB6 L (by omega))
        have hrg := (HrS.out.alloc (.cells #[.int .i64 qb.r, .int .i64 qb.g, .int .i64 qb.b, .int .i64 qb.a] 40)).grown hg6 (fun j hj => by have := (World.ownsRow.lt HOs.out _ hj).1; omega)
        have hGg := grown_own (grown_trans HGs.out (World.grownBy_alloc ((((wb.setCell ⟨L, 0, none⟩ (.int .i64 qb.r)).setCell ⟨L, 1, none⟩ (.int .i64 qb.g)).setCell ⟨L, 2, none⟩ (.int .i64 qb.b)).setCell ⟨L, 3, none⟩ (.int .i64 qb.a)) (.cells #[.int .i64 qb.r, .int .i64 qb.g, .int .i64 qb.b, .int .i64 qb.a] 40) (some g))) hg6 (fun b hb => by have := (World.ownsRow.lt HOs.out _ hb).1; omega)
        have hz6 : w5.heap.size ≤ w6.heap.size := Nat.le_trans hbS.out (Nat.le_trans (by simp) hg6.size)
        have hg6l : w5.heap.size ≤ g6 := (World.ownsRow.lt ho6 g6 rfl).1
        rw [hl] at ho6
        have HST6 : Hid (RasSt w g R X L w5.heap.size W H (p + 30) (k + 1) (w6.setCell ⟨X, 2, none⟩ (.slice (some ⟨g6, 0, none⟩) (k + 1) c6))) := Lib.hid ⟨some ⟨g6, 0, none⟩, c6, l ++ [qb], qb, pb, by simp [hl], hRg.set_other (by omega) 2 _, hXg.out.set2 _ _ _, (Below.heap_setCell w6 _ _ L (by simp; omega)).trans hLg, OwnP.set_low ho6 (by omega) 2 _, hrg.kept (fun j hj => Below.heap_setCell w6 _ _ j (by simp; omega)), by omega, grown_own hGg (grown_cell w6 X 2 _) (fun b hb => by injection hb with hb; omega), by simpa using hz6⟩
        clear ho6 hg6 h6 hRg hLg hrg hGg HOs HXs HRs HLs HrS HGs hB6
        go_roundw
        case rel => exact ⟨k + 1, by omega, by go_num, HST6.out⟩
        case measure => simp [intOf]; omega
      · have hk30 : ¬ (0 < (k3 : Int)) := h3
        have hzS := hzA
        have x2 := hXa.c2
        have l0 := hLa.c0
        have l1 := hLa.c1
        have l2 := hLa.c2
        have l3 := hLa.c3
        have hRs := hRa
        have hXs := hXa
        have hLs := hLa
        have hownS := hownA
        have hGs := hGa
        have hrS := hrA
        clear hRa hXa hLa hownA hGa hrA
        have HOs := Lib.hid hownS
        have HXs := Lib.hid hXs
        have HRs := Lib.hid hRs
        have HLs := Lib.hid hLs
        have HrS := Lib.hid hrS
        have HGs := Lib.hid hGs
        have hll : l.length + 1 ≤ 1073741824 := by omega
        have hbS : Hid (w5.heap.size ≤ wa.heap.size) := Lib.hid hzS
        clear hownS hXs hRs hLs hrS hGs
        go_wp2_with (at_builtin; refine wpList_pushP rfl (.tmp 32) (.tmp 34) rfl w5.heap.size (.slice A k c) l rfl HOs.out q wa.heap.size rfl rfl hll hbS.out ?_; intro g6 c6 w6 ho6 hg6 h6; have hXg := Lib.hid ((HXs.out.grown (World.grownBy_alloc wa (.cells #[.int .i64 q.r, .int .i64 q.g, .int .i64 q.b, .int .i64 q.a] 40) none) (by simp)).grown hg6 (fun e => by have := (World.ownsRow.lt HOs.out _ e).1; omega)); have x62 := hXg.out.c2; have x6f := hXg.out.free 2)
        have hB6 : ∀ b, b < w5.heap.size → (Value.slice A k c).ownBlock ≠ some b := fun b hb e => by have := (World.ownsRow.lt HOs.out _ e).1; omega
        have hRg := (HRs.out.grown (World.grownBy_alloc wa (.cells #[.int .i64 q.r, .int .i64 q.g, .int .i64 q.b, .int .i64 q.a] 40) none) (by simp)).grown hg6 (hB6 R (by omega))
        have hLg := (HLs.out.grown (World.grownBy_alloc wa (.cells #[.int .i64 q.r, .int .i64 q.g, .int .i64 q.b, .int .i64 q.a] 40) none) (by simp)).grown hg6 (hB6 L (by omega))
        have hrg := (HrS.out.alloc (.cells #[.int .i64 q.r, .int .i64 q.g, .int .i64 q.b, .int .i64 q.a] 40)).grown hg6 (fun j hj => by have := (World.ownsRow.lt HOs.out _ hj).1; omega)
        have hGg := grown_own (grown_trans HGs.out (World.grownBy_alloc wa (.cells #[.int .i64 q.r, .int .i64 q.g, .int .i64 q.b, .int .i64 q.a] 40) (some g))) hg6 (fun b hb => by have := (World.ownsRow.lt HOs.out _ hb).1; omega)
        have hz6 : w5.heap.size ≤ w6.heap.size := Nat.le_trans hbS.out (Nat.le_trans (by simp) hg6.size)
        have hg6l : w5.heap.size ≤ g6 := (World.ownsRow.lt ho6 g6 rfl).1
        rw [hl] at ho6
        have HST6 : Hid (RasSt w g R X L w5.heap.size W H (p + 30) (k + 1) (w6.setCell ⟨X, 2, none⟩ (.slice (some ⟨g6, 0, none⟩) (k + 1) c6))) := Lib.hid ⟨some ⟨g6, 0, none⟩, c6, l ++ [q], q, (p' + 1), by simp [hl], hRg.set_other (by omega) 2 _, hXg.out.set2 _ _ _, (Below.heap_setCell w6 _ _ L (by simp; omega)).trans hLg, OwnP.set_low ho6 (by omega) 2 _, hrg.kept (fun j hj => Below.heap_setCell w6 _ _ j (by simp; omega)), by omega, grown_own hGg (grown_cell w6 X 2 _) (fun b hb => by injection hb with hb; omega), by simpa using hz6⟩
        clear ho6 hg6 h6 hRg hLg hrg hGg HOs HXs HRs HLs HrS HGs hB6
        go_roundw
        case rel => exact ⟨k + 1, by omega, by go_num, HST6.out⟩
        case measure => simp [intOf]; omega
    · obtain rfl : k = N := by omega
      clear hk hXX hLL HN HST
      have HAne : Hid (∀ b o, A = some ⟨b, o, none⟩ → R < b ∧ X < b) := Lib.hid fun b o e => by
        subst e
        rcases hown.2 with ⟨e, -⟩ | ⟨g', cap, cur, e, hb, -⟩
        · cases e
        · injection e with e _ _
          injection e with e
          injection e with e1 e2 _
          subst e1 e2
          exact ⟨by omega, by omega⟩
      have hasl : HasP wr wr.heap.size A l := hown.reads
      have hlc : l.length ≤ c := by
        obtain ⟨A', c', e, hc', -⟩ := hown.has
        injection e with _ _ e
        omega
      have FIN : Hid (∀ (W1 : World) (W' H' : Int) (A' : Option Addr) (c' : Nat) (l' : List Px) (p'' : Nat), RasAtB W1 R 0 0 none 0 0 25 → HasP W1 W1.heap.size A' l' → (∀ b o, A' = some ⟨b, o, none⟩ → R < b) → l'.length ≤ c' → l'.length ≤ 36 → Rdr W1 g p'' → p'' ≤ p + 2000 → w.grownBy W1 (some g) →
          RasAtB (((W1.setCell ⟨R, 0, none⟩ (.int .i64 W')).setCell ⟨R, 1, none⟩ (.int .i64 H')).setCell ⟨R, 2, none⟩ (.slice A' l'.length c')) R W' H' A' l'.length c' 25 ∧ DrewR w g p (.returned (.agg #[.int .i64 W', .int .i64 H', .slice A' l'.length c'])) (((W1.setCell ⟨R, 0, none⟩ (.int .i64 W')).setCell ⟨R, 1, none⟩ (.int .i64 H')).setCell ⟨R, 2, none⟩ (.slice A' l'.length c'))) := Lib.hid fun W1 W' H' A' c' l' p'' h1 h2 h3 h4 h5 h6 h7 h8 => ⟨fin_ras h1 _ _ _, W', H', A', c', l', rfl, by simpa using ((h2.set_ne (fun b o e => Nat.ne_of_gt (h3 b o e)) 0 (.int .i64 W')).set_ne (fun b o e => Nat.ne_of_gt (h3 b o e)) 1 (.int .i64 H')).set_ne (fun b o e => Nat.ne_of_gt (h3 b o e)) 2 (.slice A' l'.length c'), h4, h5, ⟨p'', h7, h6.kept (fun j hj => by
          rw [Below.heap_setCell _ _ _ j (by simp; omega), Below.heap_setCell _ _ _ j (by simp; omega), Below.heap_setCell _ _ _ j (by simp; omega)])⟩, grown_own (grown_own (grown_own h8 (grown_cell W1 R 0 _) (fun b hb => by injection hb with hb; omega)) (grown_cell _ R 1 _) (fun b hb => by injection hb with hb; omega)) (grown_cell _ R 2 _) (fun b hb => by injection hb with hb; omega), fun b o e => by have := h3 b o e; omega⟩
      go_wp2_with fail
      refine (odd_any g p' _ _ hrd (by omega) hn hn2).mono ?_
      rintro e wo ⟨bo, rfl, po, hpo, hro, hgo⟩
      have hRo := hR.grown hgo (by simp; omega)
      have hXo := hX.grown hgo (by simp; omega)
      have howno := hown.keepRd hgo (by omega)
      have haso := howno.reads
      have hGo := grown_trans hG hgo
      have hzo := Nat.le_trans hz hgo.size
      clear hR hX hL hown hG hz hrd hgo x0 x1 x2 hasl hwr hlt
      cases bo
      · have HF := Lib.hid (FIN.out wo W H A c l po hRo haso (fun b o e => (HAne.out b o e).1) hlc (by omega) hro (by omega) hGo)
        rw [hl] at HF
        have r0 := hRo.c0
        have r1 := hRo.c1
        have r2 := hRo.c2
        have rf0 := hRo.free 0
        have rf1 := hRo.free 1
        have rf2 := hRo.free 2
        have x0 := hXo.c0
        have x1 := hXo.c1
        have x2 := hXo.c2
        have hne : ¬ R = X := by omega
        clear FIN hRo hXo howno haso hGo hro
        go_wp2_with fail
        (try simp only [Exit.inBlock, Exit.then])
        exact bodyPost_ret (results_cell_row rfl _ _ R 25 #[.int .i64 W, .int .i64 H, .slice A k c] (0, 0) _ rfl HF.out.1 Try.underlying25 rfl (by kernel_rfl)) rfl HF.out.2
      · go_wp2_with fail
        refine (pick_any g po _ _ hro (by omega) (by omega) (by omega)).mono ?_
        rintro e wp ⟨k4, rfl, hk4, -, hrp, hgp, -⟩
        have hk4' : (k4 : Int) < 4 := hk4 (by omega)
        have hRp := hRo.grown hgp (by simp; omega)
        have hXp := hXo.grown hgp (by simp; omega)
        have hownp := howno.keepRd hgp (by omega)
        have hGp := grown_trans hGo hgp
        have hzp := Nat.le_trans hzo hgp.size
        have hnXR : ¬ X = R := by omega
        have hnRX : ¬ R = X := by omega
        clear hRo hXo howno haso hGo hro hgp hk4 hzo
        have h4 : k4 = 0 ∨ k4 = 1 ∨ k4 = 2 ∨ k4 = 3 := by omega
        rcases h4 with rfl | rfl | rfl | rfl
        · have hw7 := IntWalk.i64_in (W + 1) (by omega)
          have hXd := hXp.drew1
          have hRd := hRp.drew1
          have hownd := hownp.drewN 1
          have hGd := grown_trans hGp (grown_drew1 wp (some g))
          have hrd := hrp.drewN 1
          have hgz := hrp.lt
          have HS0 : wp.drew.cell? ⟨X, 0, none⟩ = some (.int .i64 W) := hXp.c0
          have hXzz := hXp.lt
          have hnX : ¬ X = wp.heap.size := by omega
          go_wp2_with fail
          refine wp_region_T (fun w' => w'.cell? ⟨X, 0, none⟩ = some (.int .i64 W)) 9 (by kernel_rfl) ?_
          refine wpAnyT_take (i := 0) (d := 58) (v := .pointer (some ⟨X, 0, none⟩)) rfl rfl (by kernel_rfl) (by kernel_rfl) (by kernel_rfl) (by kernel_rfl) (by kernel_rfl) (fun _ _ _ h => h) HS0 (Or.inl ⟨by rfl, fun w' hS' => ?_⟩) ?_
          · go_simp
          simp only [Act.put, List.setIfInBounds_toArray, List.set_cons_zero, List.set_cons_succ]
          refine wpAnyT_take (i := 1) (d := 59) (v := .int .i64 W) rfl rfl (by kernel_rfl) (by kernel_rfl) (by kernel_rfl) (by kernel_rfl) (by kernel_rfl) (fun _ _ _ h => h) HS0 (Or.inl ⟨by rfl, fun w' hS' => ?_⟩) ?_
          · go_simp
          simp only [Act.put, List.setIfInBounds_toArray, List.set_cons_zero, List.set_cons_succ]
          refine wpAnyT_take (i := 2) (d := 60) (v := .int .i64 (W + 1)) rfl rfl (by kernel_rfl) (by kernel_rfl) (by kernel_rfl) (by kernel_rfl) (by kernel_rfl) (fun _ _ _ h => h) HS0 (Or.inl ⟨by rfl, fun w' hS' => ?_⟩) ?_
          · go_simp
          simp only [Act.put, List.setIfInBounds_toArray, List.set_cons_zero, List.set_cons_succ]
          refine wpAnyT_take (i := 4) (d := 62) (v := .pointer (some ⟨g, 0, none⟩)) rfl rfl (by kernel_rfl) (by kernel_rfl) (by kernel_rfl) (by kernel_rfl) (by kernel_rfl) (fun _ _ _ h => h) HS0 (Or.inl ⟨by rfl, fun w' hS' => ?_⟩) ?_
          · go_simp
          simp only [Act.put, List.setIfInBounds_toArray, List.set_cons_zero, List.set_cons_succ]
          refine wpAnyT_two (i := 3) (j := 5) (by kernel_rfl) rfl rfl (fun K hK => ?_) (fun K hK => ?_)
          · have hX5 : RasAtB (wp.alloc (.cells #[.int .i64 0, .int .i64 (-1), .int .i64 7, .int .i64 (W + 1)] 3)).drew X W H A k c 25 := (hXp.grown (World.grownBy_alloc wp (.cells #[.int .i64 0, .int .i64 (-1), .int .i64 7, .int .i64 (W + 1)] 3) none) (by simp)).drew1
            have hR5 : RasAtB (wp.alloc (.cells #[.int .i64 0, .int .i64 (-1), .int .i64 7, .int .i64 (W + 1)] 3)).drew R 0 0 none 0 0 25 := (hRp.grown (World.grownBy_alloc wp (.cells #[.int .i64 0, .int .i64 (-1), .int .i64 7, .int .i64 (W + 1)] 3) none) (by simp)).drew1
            have hown5 : OwnP (wp.alloc (.cells #[.int .i64 0, .int .i64 (-1), .int .i64 7, .int .i64 (W + 1)] 3)).drew w5.heap.size (.slice A k c) l := (show OwnP (wp.alloc (.cells #[.int .i64 0, .int .i64 (-1), .int .i64 7, .int .i64 (W + 1)] 3)) w5.heap.size (.slice A k c) l from World.ownsRow.alloc hownp _)
            have hG5 : w.grownBy (wp.alloc (.cells #[.int .i64 0, .int .i64 (-1), .int .i64 7, .int .i64 (W + 1)] 3)).drew (some g) := grown_trans (grown_trans hGp (World.grownBy_alloc wp (.cells #[.int .i64 0, .int .i64 (-1), .int .i64 7, .int .i64 (W + 1)] 3) (some g))) (grown_drew1 _ _)
            have hr5 : Rdr (wp.alloc (.cells #[.int .i64 0, .int .i64 (-1), .int .i64 7, .int .i64 (W + 1)] 3)).drew g (po + 1) := (hrp.alloc (.cells #[.int .i64 0, .int .i64 (-1), .int .i64 7, .int .i64 (W + 1)] 3)).drewN 1
            have S5 := Lib.hid hX5.c0
            go_simp
            refine hK.out _ _ (fun _ => S5.out) ?_
            clear hK
            refine wpAnyT_one (i := 5) (by kernel_rfl) rfl (fun K hK => ?_)
            go_simp
            refine (pick_any g (po + 1) _ _ hr5 (by omega) (by omega) (by omega)).mono ?_
            rintro e w6 ⟨k5, rfl, hk5, -, hr6, hg6, -⟩
            have hk5' : (k5 : Int) < 4 := hk5 (by omega)
            obtain ⟨z, hz⟩ : ∃ z : Int, w6.cell? ⟨wp.heap.size, k5, none⟩ = some (.int .i64 z) := by
              obtain ⟨s, e, _, _, ht⟩ := Slot.stays (tab_new (n := 4) (R := fun _ => True) (t := 3) (w := wp) #[.int .i64 0, .int .i64 (-1), .int .i64 7, .int .i64 (W + 1)] hgz (fun j hj => by
                match j, hj with
                | 0, _ => exact ⟨_, rfl, trivial⟩
                | 1, _ => exact ⟨_, rfl, trivial⟩
                | 2, _ => exact ⟨_, rfl, trivial⟩
                | 3, _ => exact ⟨_, rfl, trivial⟩)) (show (wp.alloc (.cells #[.int .i64 0, .int .i64 (-1), .int .i64 7, .int .i64 (W + 1)] 3)).grownBy w6 (some g) from grown_trans (grown_drew1 _ _) hg6)
              injection e with e1 _ _
              injection e1 with e1
              injection e1 with e1 _ _
              rw [e1]
              obtain ⟨z, hz, _⟩ := ht k5 (by omega)
              exact ⟨z, hz⟩
            have hX6 := hX5.grown hg6 (by simp; omega)
            have hR6 := hR5.grown hg6 (by simp; omega)
            have hown6 := hown5.keepRd hg6 (by omega)
            have hG6 := grown_trans hG5 hg6
            refine hK.out _ _ (fun _ => hX6.c0) ?_
            clear hK hX5 hR5 hown5 hG5 hr5 S5 hg6 hk5 hXd hRd hownd hGd hrd HS0 hXp hRp hownp hGp hrp
            have pk5 : 0 ≤ (k5 : Int) ∧ (k5 : Int) < 4 := by omega
            have S6 := Lib.hid hX6.c0
            have y0 := hX6.c0
            have y1 := hX6.c1
            have y2 := hX6.c2
            have yf := hX6.free 0
            have hXz := hX6.lt
            have hRe := hR6.set_other (b := X) (by omega) 0 (.int .i64 z)
            have hre : Rdr (w6.setCell ⟨X, 0, none⟩ (.int .i64 z)) g (po + 1 + 1) := hr6.kept (fun j hj => Below.heap_setCell w6 _ _ j (by simp; omega))
            have hGe := grown_own hG6 (grown_cell w6 X 0 (.int .i64 z)) (fun b hb => by injection hb with hb; omega)
            have hase := (OwnP.set_low hown6 (b := X) (by omega) 0 (.int .i64 z)).reads
            have HF := Lib.hid (FIN.out _ z H A c l (po + 1 + 1) hRe hase (fun b o e => (HAne.out b o e).1) hlc (by omega) hre (by omega) hGe)
            rw [hl] at HF
            have hR60 := hR6.c0
            have hR61 := hR6.c1
            have hR62 := hR6.c2
            have hRf0 := hR6.free 0
            have hRf1 := hR6.free 1
            have hRf2 := hR6.free 2
            clear FIN hX6 hR6 hown6 hG6 hr6 hRe hre hGe hase
            refine wpAnyT_one (i := 6) (by kernel_rfl) rfl (fun K hK => ?_)
            go_simp
            refine hK.out _ _ (fun _ => S6.out) ?_
            clear hK
            refine wpAnyT_one (i := 7) (by kernel_rfl) rfl (fun K hK => ?_)
            go_simp
            refine hK.out _ _ (fun _ => S6.out) ?_
            clear hK
            refine wpAnyT_one (i := 8) (by kernel_rfl) rfl (fun K hK => ?_)
            go_simp
            refine hK.out _ _ (fun _ => S6.out) ?_
            clear hK
            refine wpAnyT_one (i := 9) (by kernel_rfl) rfl (fun K hK => ?_)
            go_simp
            refine hK.out _ _ (fun h => last_out h) ?_
            clear hK S6
            refine wpAnyT_done (by kernel_rfl) ?_ _
            go_wp2_with fail
            (try simp only [Exit.inBlock, Exit.then])
            exact bodyPost_ret (results_cell_row rfl _ _ R 25 #[.int .i64 z, .int .i64 H, .slice A k c] (0, 0) _ rfl HF.out.1 Try.underlying25 rfl (by kernel_rfl)) rfl HF.out.2
          · go_simp
            refine (pick_any g (po + 1) _ _ hrd (by omega) (by omega) (by omega)).mono ?_
            rintro e wq ⟨k5, rfl, hk5, -, hr5, hg5, -⟩
            have hk5' : (k5 : Int) < 4 := hk5 (by omega)
            have hX5 := hXd.grown hg5 (by simp; omega)
            have hR5 := hRd.grown hg5 (by simp; omega)
            have hown5 := hownd.keepRd hg5 (by omega)
            have hG5 := grown_trans hGd hg5
            have hgz5 := hr5.lt
            refine hK.out _ _ (fun _ => hX5.c0) ?_
            clear hK
            try simp only [Act.put, List.setIfInBounds_toArray, List.set_cons_zero, List.set_cons_succ]
            refine wpAnyT_one (i := 3) (by kernel_rfl) rfl (fun K hK => ?_)
            go_simp
            obtain ⟨z, hz⟩ : ∃ z : Int, (wq.alloc (.cells #[.int .i64 0, .int .i64 (-1), .int .i64 7, .int .i64 (W + 1)] 3)).cell? ⟨wq.heap.size, k5, none⟩ = some (.int .i64 z) := by
              obtain ⟨s, e, _, _, ht⟩ := Slot.stays (tab_new (n := 4) (R := fun _ => True) (t := 3) (w := wq) #[.int .i64 0, .int .i64 (-1), .int .i64 7, .int .i64 (W + 1)] hgz5 (fun j hj => by
                match j, hj with
                | 0, _ => exact ⟨_, rfl, trivial⟩
                | 1, _ => exact ⟨_, rfl, trivial⟩
                | 2, _ => exact ⟨_, rfl, trivial⟩
                | 3, _ => exact ⟨_, rfl, trivial⟩)) (World.grownBy.refl _ _)
              injection e with e1 _ _
              injection e1 with e1
              injection e1 with e1 _ _
              rw [e1]
              obtain ⟨z, hz, _⟩ := ht k5 (by omega)
              exact ⟨z, hz⟩
            have hX6 := hX5.grown (World.grownBy_alloc wq (.cells #[.int .i64 0, .int .i64 (-1), .int .i64 7, .int .i64 (W + 1)] 3) none) (by simp)
            have hR6 := hR5.grown (World.grownBy_alloc wq (.cells #[.int .i64 0, .int .i64 (-1), .int .i64 7, .int .i64 (W + 1)] 3) none) (by simp)
            have hown6 := (show OwnP (wq.alloc (.cells #[.int .i64 0, .int .i64 (-1), .int .i64 7, .int .i64 (W + 1)] 3)) w5.heap.size (.slice A k c) l from World.ownsRow.alloc hown5 _)
            have hG6 := grown_trans hG5 (World.grownBy_alloc wq (.cells #[.int .i64 0, .int .i64 (-1), .int .i64 7, .int .i64 (W + 1)] 3) (some g))
            have hr6 := hr5.alloc (.cells #[.int .i64 0, .int .i64 (-1), .int .i64 7, .int .i64 (W + 1)] 3)
            refine hK.out _ _ (fun _ => hX6.c0) ?_
            generalize wq.alloc (.cells #[.int .i64 0, .int .i64 (-1), .int .i64 7, .int .i64 (W + 1)] 3) = w6 at *
            clear hK hX5 hR5 hown5 hG5 hr5 hg5 hk5 hXd hRd hownd hGd hrd HS0 hXp hRp hownp hGp hrp
            have pk5 : 0 ≤ (k5 : Int) ∧ (k5 : Int) < 4 := by omega
            have S6 := Lib.hid hX6.c0
            have y0 := hX6.c0
            have y1 := hX6.c1
            have y2 := hX6.c2
            have yf := hX6.free 0
            have hXz := hX6.lt
            have hRe := hR6.set_other (b := X) (by omega) 0 (.int .i64 z)
            have hre : Rdr (w6.setCell ⟨X, 0, none⟩ (.int .i64 z)) g (po + 1 + 1) := hr6.kept (fun j hj => Below.heap_setCell w6 _ _ j (by simp; omega))
            have hGe := grown_own hG6 (grown_cell w6 X 0 (.int .i64 z)) (fun b hb => by injection hb with hb; omega)
            have hase := (OwnP.set_low hown6 (b := X) (by omega) 0 (.int .i64 z)).reads
            have HF := Lib.hid (FIN.out _ z H A c l (po + 1 + 1) hRe hase (fun b o e => (HAne.out b o e).1) hlc (by omega) hre (by omega) hGe)
            rw [hl] at HF
            have hR60 := hR6.c0
            have hR61 := hR6.c1
            have hR62 := hR6.c2
            have hRf0 := hR6.free 0
            have hRf1 := hR6.free 1
            have hRf2 := hR6.free 2
            clear FIN hX6 hR6 hown6 hG6 hr6 hRe hre hGe hase
            refine wpAnyT_one (i := 6) (by kernel_rfl) rfl (fun K hK => ?_)
            go_simp
            refine hK.out _ _ (fun _ => S6.out) ?_
            clear hK
            refine wpAnyT_one (i := 7) (by kernel_rfl) rfl (fun K hK => ?_)
            go_simp
            refine hK.out _ _ (fun _ => S6.out) ?_
            clear hK
            refine wpAnyT_one (i := 8) (by kernel_rfl) rfl (fun K hK => ?_)
            go_simp
            refine hK.out _ _ (fun _ => S6.out) ?_
            clear hK
            refine wpAnyT_one (i := 9) (by kernel_rfl) rfl (fun K hK => ?_)
            go_simp
            refine hK.out _ _ (fun h => last_out h) ?_
            clear hK S6
            refine wpAnyT_done (by kernel_rfl) ?_ _
            go_wp2_with fail
            (try simp only [Exit.inBlock, Exit.then])
            exact bodyPost_ret (results_cell_row rfl _ _ R 25 #[.int .i64 z, .int .i64 H, .slice A k c] (0, 0) _ rfl HF.out.1 Try.underlying25 rfl (by kernel_rfl)) rfl HF.out.2
        · have hX5 := hXp.grown (World.grownBy_alloc wp (.cells #[.int .i64 0, .int .i64 7] 3) none) (by simp)
          have hR5 := hRp.grown (World.grownBy_alloc wp (.cells #[.int .i64 0, .int .i64 7] 3) none) (by simp)
          have hown5 := (show OwnP (wp.alloc (.cells #[.int .i64 0, .int .i64 7] 3)) w5.heap.size (.slice A k c) l from World.ownsRow.alloc hownp _)
          have hG5 := grown_trans hGp (World.grownBy_alloc wp (.cells #[.int .i64 0, .int .i64 7] 3) (some g))
          have C5 := Lib.hid (pick_any g (po + 1) 2 _ (hrp.alloc (.cells #[.int .i64 0, .int .i64 7] 3)) (by omega) (by omega) (by omega))
          have hgw5 := hrp.lt
          clear hrp
          go_wp2_with fail
          refine C5.out.mono ?_
          rintro e w6 ⟨k5, rfl, hk5, -, hr6, hg6, -⟩
          have hk5' : (k5 : Int) < 2 := hk5 (by omega)
          have pk5 : 0 ≤ (k5 : Int) ∧ (k5 : Int) < 2 := by omega
          obtain ⟨z, hz⟩ : ∃ z : Int, w6.cell? ⟨wp.heap.size, k5, none⟩ = some (.int .i64 z) := by
            obtain ⟨s, e, _, _, ht⟩ := Slot.stays (tab_new (n := 2) (R := fun _ => True) (t := 3) #[.int .i64 0, .int .i64 7] hgw5 (fun j hj => by
              match j, hj with
              | 0, _ => exact ⟨_, rfl, trivial⟩
              | 1, _ => exact ⟨_, rfl, trivial⟩)) hg6
            injection e with e1 _ _
            injection e1 with e1
            injection e1 with e1 _ _
            rw [e1]
            obtain ⟨z, hz, _⟩ := ht k5 (by omega)
            exact ⟨z, hz⟩
          have hX6 := hX5.grown hg6 (by simp; omega)
          have hR6 := hR5.grown hg6 (by simp; omega)
          have hown6 := hown5.keepRd hg6 (by omega)
          have hXz := hX6.lt
          have hRe := hR6.set_other (b := X) (by omega) 1 (.int .i64 z)
          have hXe := hX6.set1 z
          have hre : Rdr (w6.setCell ⟨X, 1, none⟩ (.int .i64 z)) g (po + 1 + 1) := hr6.kept (fun j hj => Below.heap_setCell w6 _ _ j (by simp; omega))
          have hGe := grown_own (grown_trans hG5 hg6) (grown_cell w6 X 1 (.int .i64 z)) (fun b hb => by injection hb with hb; omega)
          have hase := (OwnP.set_low hown6 (b := X) (by omega) 1 (.int .i64 z)).reads
          have HF := Lib.hid (FIN.out _ W z A c l (po + 1 + 1) hRe hase (fun b o e => (HAne.out b o e).1) hlc (by omega) hre (by omega) hGe)
          have r0 := hRe.c0
          have r1 := hRe.c1
          have r2 := hRe.c2
          have rf0 := hRe.free 0
          have rf1 := hRe.free 1
          have rf2 := hRe.free 2
          have x0 := hXe.c0
          have x1 := hXe.c1
          have x2 := hXe.c2
          rw [hl] at HF
          have y0 := hX6.c0
          have y1 := hX6.c1
          have y2 := hX6.c2
          have yf := hX6.free 1
          have hR60 := hR6.c0
          have hR61 := hR6.c1
          have hR62 := hR6.c2
          have hRf0 := hR6.free 0
          have hRf1 := hR6.free 1
          have hRf2 := hR6.free 2
          clear r0 r1 r2 rf0 rf1 rf2 x0 x1 x2 FIN hX5 hR5 hown5 hG5 hg6 hX6 hR6 hown6 hRe hXe hre hGe hase C5 hr6 hk5 hXp hRp hownp hGp
          go_wp2_with fail
          (try simp only [Exit.inBlock, Exit.then])
          exact bodyPost_ret (results_cell_row rfl _ _ R 25 #[.int .i64 W, .int .i64 z, .slice A k c] (0, 0) _ rfl HF.out.1 Try.underlying25 rfl (by kernel_rfl)) rfl HF.out.2
        · obtain ⟨q0, lt, rfl⟩ : ∃ q0 lt, l = q0 :: lt := by
            cases l with
            | nil => simp at hl; omega
            | cons q0 lt => exact ⟨q0, lt, rfl⟩
          obtain ⟨gA, rfl⟩ : ∃ gA, A = some ⟨gA, 0, none⟩ := by
            rcases hownp.2 with ⟨e, hn0⟩ | ⟨g', cap, cur, e, -⟩
            · simp at hn0
            · injection e with e _ _
              exact ⟨g', e⟩
          have hk1l : 1 ≤ k := by simp at hl; omega
          have hgA := (HAne.out gA 0 rfl).1
          have hasp := hownp.reads
          have hXz := hXp.lt
          have hGe' := fun v => grown_own hGp (grown_cell wp X 2 v) (fun b hb => by injection hb with hb; omega)
          have hre' : ∀ v, Rdr (wp.setCell ⟨X, 2, none⟩ v) g (po + 1) := fun v => hrp.kept (fun j hj => Below.heap_setCell wp _ _ j (by simp; omega))
          have hRe' := fun v => hRp.set_other (b := X) (by omega) 2 v
          have hlt : lt.length = k - 1 := by simp at hl; omega
          have y0 := hXp.c0
          have y1 := hXp.c1
          have y2 := hXp.c2
          have yf := hXp.free 2
          have hR60 := hRp.c0
          have hR61 := hRp.c1
          have hR62 := hRp.c2
          have hRf0 := hRp.free 0
          have hRf1 := hRp.free 1
          have hRf2 := hRp.free 2
          have hkc : (k : Int) ≤ (c : Int) := by simp at hlc; omega
          have hk36 : (k : Int) ≤ 36 := by omega
          by_cases hc1 : c = 1
          · have hlt0 : lt = [] := List.eq_nil_of_length_eq_zero (by simp at hlc; omega)
            subst hlt0
            have HF := Lib.hid (FIN.out _ W H (some ⟨gA, 0, none⟩) 0 [] (po + 1) (hRe' (.slice (some ⟨gA, 0, none⟩) 0 0)) (.inl rfl) (fun b o e => by injection e with e; injection e with e1 _ _; omega) (Nat.zero_le _) (Nat.zero_le _) (hre' _) (by omega) (hGe' _))
            obtain rfl : k = 1 := by simp at hl; omega
            subst hc1
            clear FIN hXp hRp hownp hGp hGe' hre' hRe' hrp hasp
            go_wp2_with fail
            (try simp only [Exit.inBlock, Exit.then])
            exact bodyPost_ret (results_cell_row rfl _ _ R 25 #[.int .i64 W, .int .i64 H, .slice (some ⟨gA, 0, none⟩) 0 0] (0, 0) _ rfl HF.out.1 Try.underlying25 rfl (by kernel_rfl)) rfl HF.out.2
          · have HF := Lib.hid (FIN.out _ W H (some ⟨gA, 4, none⟩) (c - 1) lt (po + 1) (hRe' (.slice (some ⟨gA, 4, none⟩) lt.length (c - 1))) (by have := (HasP.tail hasp).set_ne (R := X) (fun b o e => by injection e with e; injection e with e1 _ _; have := (HAne.out gA 0 rfl).2; omega) 2 (.slice (some ⟨gA, 4, none⟩) lt.length (c - 1)); simpa using this) (fun b o e => by injection e with e; injection e with e1 _ _; omega) (by simp at hlc; omega) (by simp at hl; omega) (hre' _) (by omega) (hGe' _))
            rw [hlt] at HF
            clear FIN hXp hRp hownp hGp hGe' hre' hRe' hrp hasp
            go_wp2_with fail
            (try simp only [Exit.inBlock, Exit.then])
            exact bodyPost_ret (results_cell_row rfl _ _ R 25 #[.int .i64 W, .int .i64 H, .slice (some ⟨gA, 4, none⟩) (k - 1) (c - 1)] (0, 0) _ rfl HF.out.1 Try.underlying25 rfl (by kernel_rfl)) rfl HF.out.2
        · obtain ⟨gA, rfl⟩ : ∃ gA, A = some ⟨gA, 0, none⟩ := by
            rcases hownp.2 with ⟨e, hn0⟩ | ⟨g', cap, cur, e, -⟩
            · omega
            · injection e with e _ _
              exact ⟨g', e⟩
          have hXd := hXp.drew1
          have hRd := hRp.drew1
          have hownd := hownp.drewN 1
          have hGd := grown_trans hGp (grown_drew1 wp (some g))
          have hrd := hrp.drewN 1
          have hgz := hrp.lt
          have HS0 : wp.drew.cell? ⟨X, 2, none⟩ = some (.slice (some ⟨gA, 0, none⟩) k c) := hXp.c2
          have hXzz := hXp.lt
          have hnX : ¬ X = wp.heap.size := by omega
          go_wp2_with fail
          refine wp_region_T (fun w' => w'.cell? ⟨X, 2, none⟩ = some (.slice (some ⟨gA, 0, none⟩) k c)) 14 (by kernel_rfl) ?_
          refine wpAnyT_take (i := 0) (d := 42) (v := .pointer (some ⟨X, 2, none⟩)) rfl rfl (by kernel_rfl) (by kernel_rfl) (by kernel_rfl) (by kernel_rfl) (by kernel_rfl) (fun _ _ _ h => h) HS0 (Or.inl ⟨by rfl, fun w' hS' => ?_⟩) ?_
          · go_simp
          simp only [Act.put, List.setIfInBounds_toArray, List.set_cons_zero, List.set_cons_succ]
          refine wpAnyT_take (i := 1) (d := 43) (v := .slice (some ⟨gA, 0, none⟩) k c) rfl rfl (by kernel_rfl) (by kernel_rfl) (by kernel_rfl) (by kernel_rfl) (by kernel_rfl) (fun _ _ _ h => h) HS0 (Or.inl ⟨by rfl, fun w' hS' => ?_⟩) ?_
          · go_simp
          simp only [Act.put, List.setIfInBounds_toArray, List.set_cons_zero, List.set_cons_succ]
          refine wpAnyT_take (i := 2) (d := 44) (v := .pointer (some ⟨g, 0, none⟩)) rfl rfl (by kernel_rfl) (by kernel_rfl) (by kernel_rfl) (by kernel_rfl) (by kernel_rfl) (fun _ _ _ h => h) HS0 (Or.inl ⟨by rfl, fun w' hS' => ?_⟩) ?_
          · go_simp
          simp only [Act.put, List.setIfInBounds_toArray, List.set_cons_zero, List.set_cons_succ]
          refine wpAnyT_take (i := 3) (d := 45) (v := .pointer (some ⟨X, 2, none⟩)) rfl rfl (by kernel_rfl) (by kernel_rfl) (by kernel_rfl) (by kernel_rfl) (by kernel_rfl) (fun _ _ _ h => h) HS0 (Or.inl ⟨by rfl, fun w' hS' => ?_⟩) ?_
          · go_simp
          simp only [Act.put, List.setIfInBounds_toArray, List.set_cons_zero, List.set_cons_succ]
          refine wpAnyT_take (i := 4) (d := 46) (v := .slice (some ⟨gA, 0, none⟩) k c) rfl rfl (by kernel_rfl) (by kernel_rfl) (by kernel_rfl) (by kernel_rfl) (by kernel_rfl) (fun _ _ _ h => h) HS0 (Or.inl ⟨by rfl, fun w' hS' => ?_⟩) ?_
          · go_simp
          simp only [Act.put, List.setIfInBounds_toArray, List.set_cons_zero, List.set_cons_succ]
          refine wpAnyT_take (i := 5) (d := 47) (v := .int .i64 (k : Int)) rfl rfl (by kernel_rfl) (by kernel_rfl) (by kernel_rfl) (by kernel_rfl) (by kernel_rfl) (fun _ _ _ h => h) HS0 (Or.inl ⟨by rfl, fun w' hS' => ?_⟩) ?_
          · go_simp
          simp only [Act.put, List.setIfInBounds_toArray, List.set_cons_zero, List.set_cons_succ]
          refine wpAnyT_take (i := 8) (d := 50) (v := .pointer (some ⟨g, 0, none⟩)) rfl rfl (by kernel_rfl) (by kernel_rfl) (by kernel_rfl) (by kernel_rfl) (by kernel_rfl) (fun _ _ _ h => h) HS0 (Or.inl ⟨by rfl, fun w' hS' => ?_⟩) ?_
          · go_simp
          simp only [Act.put, List.setIfInBounds_toArray, List.set_cons_zero, List.set_cons_succ]
          refine wpAnyT_two (i := 6) (j := 7) (by kernel_rfl) rfl rfl (fun K hK => ?_) (fun K hK => ?_)
          · go_simp
            refine (pick_any g (po + 1) _ _ hrd (by omega) (by omega) (by omega)).mono ?_
            rintro e wa1 ⟨k5, rfl, hk5, -, hra, hga, -⟩
            have hk5' : (k5 : Int) < (k : Int) := hk5 (by omega)
            have hXa := hXd.grown hga (by simp; omega)
            have hRa := hRd.grown hga (by simp; omega)
            have howna := hownd.keepRd hga (by omega)
            have hGa := grown_trans hGd hga
            refine hK.out _ _ (fun _ => hXa.c2) ?_
            clear hK
            try simp only [Act.put, List.setIfInBounds_toArray]
            refine wpAnyT_two (i := 7) (j := 9) (by kernel_rfl) rfl rfl (fun K hK => ?_) (fun K hK => ?_)
            · go_simp
              have hXb : RasAtB (wa1.alloc (.cells #[.int .i64 (-1), .int .i64 256] 3)) X W H (some ⟨gA, 0, none⟩) k c 25 := hXa.grown (World.grownBy_alloc wa1 (.cells #[.int .i64 (-1), .int .i64 256] 3) none) (by simp)
              have hRb : RasAtB (wa1.alloc (.cells #[.int .i64 (-1), .int .i64 256] 3)) R 0 0 none 0 0 25 := hRa.grown (World.grownBy_alloc wa1 (.cells #[.int .i64 (-1), .int .i64 256] 3) none) (by simp)
              have hownb : OwnP (wa1.alloc (.cells #[.int .i64 (-1), .int .i64 256] 3)) w5.heap.size (.slice (some ⟨gA, 0, none⟩) k c) l := World.ownsRow.alloc howna _
              have hGb : w.grownBy (wa1.alloc (.cells #[.int .i64 (-1), .int .i64 256] 3)) (some g) := grown_trans hGa (World.grownBy_alloc wa1 (.cells #[.int .i64 (-1), .int .i64 256] 3) (some g))
              have hrb : Rdr (wa1.alloc (.cells #[.int .i64 (-1), .int .i64 256] 3)) g _ := hra.alloc (.cells #[.int .i64 (-1), .int .i64 256] 3)
              refine hK.out _ _ (fun _ => hXb.c2) ?_
              clear hK
              refine wpAnyT_one (i := 9) (by kernel_rfl) rfl (fun K hK => ?_)
              go_simp
              refine (pick_any g (po + 1 + 1) _ _ hrb (by omega) (by omega) (by omega)).mono ?_
              rintro e w6 ⟨k6, rfl, hk6, -, hr6, hg6, -⟩
              have hk6' : (k6 : Int) < 2 := hk6 (by omega)
              have hX6 := hXb.grown hg6 (by simp; omega)
              have hR6 := hRb.grown hg6 (by simp; omega)
              have hown6 := hownb.keepRd hg6 (by omega)
              have hG6 := grown_trans hGb hg6
              refine hK.out _ _ (fun _ => hX6.c2) ?_
              clear hK
              try simp only [Act.put, List.setIfInBounds_toArray]
              have hgza := hra.lt
              obtain ⟨z, hz⟩ : ∃ z : Int, w6.cell? ⟨wa1.heap.size, k6, none⟩ = some (.int .i64 z) := by
                obtain ⟨s, e, _, _, ht⟩ := Slot.stays (tab_new (n := 2) (R := fun _ => True) (t := 3) (w := wa1) #[.int .i64 (-1), .int .i64 256] hgza (fun j hj => by
                  match j, hj with
                  | 0, _ => exact ⟨_, rfl, trivial⟩
                  | 1, _ => exact ⟨_, rfl, trivial⟩)) hg6
                injection e with e1 _ _
                injection e1 with e1
                injection e1 with e1 _ _
                rw [e1]
                obtain ⟨z, hz, _⟩ := ht k6 (by omega)
                exact ⟨z, hz⟩
              clear hXa hRa howna hGa hra hga hXb hRb hownb hGb hrb hg6 hk5 hk6
              clear hXd hRd hownd hGd hrd HS0 hXp hRp hownp hGp hrp
              have pk6 : 0 ≤ (k6 : Int) ∧ (k6 : Int) < 2 := by omega
              have pk5 : 0 ≤ (k5 : Int) ∧ (k5 : Int) < (k : Int) := by omega
              have S6 := Lib.hid hX6.c2
              have hXz := hX6.lt
              have hfl := flatP_length l
              have ho6 : w6.ownsRow w5.heap.size 40 4 (.slice (some ⟨gA, 0, none⟩) k c) k (flatP l) := by
                have := hown6
                unfold OwnP at this
                rw [hl] at this
                exact this
              have pf := ho6.frozenAt (k5 * 4 + 1)
              obtain ⟨q5, hq5⟩ : ∃ q5, l[k5]? = some q5 := ⟨_, List.getElem?_eq_getElem (by omega)⟩
              obtain ⟨yg, hyg⟩ : ∃ y, w6.cell? ⟨gA, k5 * 4 + 1, none⟩ = some y := by
                rw [ho6.cellAt (k5 * 4 + 1) (by omega)]
                exact ⟨_, List.getElem?_eq_getElem (by omega)⟩
              have hgl : w5.heap.size ≤ gA := (World.ownsRow.lt ho6 gA rfl).1
              have hase : HasP (w6.setCell ⟨gA, k5 * 4 + 1, none⟩ (.int .i64 z)) (w6.setCell ⟨gA, k5 * 4 + 1, none⟩ (.int .i64 z)).heap.size (some ⟨gA, 0, none⟩) (l.set k5 ⟨q5.r, z, q5.b, q5.a⟩) := by
                have := HasP.setG hown6.reads hq5 z
                rw [Nat.zero_add] at this
                simpa using this
              have hRe := hR6.set_other (b := gA) (by omega) (k5 * 4 + 1) (.int .i64 z)
              have hXe := hX6.set_other (b := gA) (by omega) (k5 * 4 + 1) (.int .i64 z)
              have hre : Rdr (w6.setCell ⟨gA, k5 * 4 + 1, none⟩ (.int .i64 z)) g (po + 1 + 1 + 1) := hr6.kept (fun j hj => Below.heap_setCell w6 _ _ j (by simp; omega))
              have hGe := grown_own hG6 (grown_cell w6 gA (k5 * 4 + 1) (.int .i64 z)) (fun b hb => by injection hb with hb; omega)
              have HF := Lib.hid (FIN.out _ W H (some ⟨gA, 0, none⟩) c (l.set k5 ⟨q5.r, z, q5.b, q5.a⟩) (po + 1 + 1 + 1) hRe hase (fun b o e => (HAne.out b o e).1) (by rw [List.length_set]; exact hlc) (by rw [List.length_set]; omega) hre (by omega) hGe)
              rw [List.length_set, hl] at HF
              have y0 := hX6.c0
              have y1 := hX6.c1
              have y2 := hX6.c2
              have hR60 := hR6.c0
              have hR61 := hR6.c1
              have hR62 := hR6.c2
              have hRf0 := hR6.free 0
              have hRf1 := hR6.free 1
              have hRf2 := hR6.free 2
              have hnA1 : ¬ gA = X := by omega
              have hnA2 : ¬ gA = R := by omega
              have hnA3 : ¬ X = gA := by omega
              have hnA4 : ¬ R = gA := by omega
              have HLK := Lib.hid hl
              clear FIN hX6 hR6 hown6 hG6 hr6 hRe hXe hre hGe hase ho6 hfl hq5 hl
              refine wpAnyT_one (i := 10) (by kernel_rfl) rfl (fun K hK => ?_)
              go_simp
              refine hK.out _ _ (fun _ => S6.out) ?_
              clear hK
              refine wpAnyT_one (i := 11) (by kernel_rfl) rfl (fun K hK => ?_)
              go_simp
              refine hK.out _ _ (fun _ => S6.out) ?_
              clear hK
              refine wpAnyT_one (i := 12) (by kernel_rfl) rfl (fun K hK => ?_)
              go_simp
              refine hK.out _ _ (fun _ => S6.out) ?_
              clear hK
              refine wpAnyT_one (i := 13) (by kernel_rfl) rfl (fun K hK => ?_)
              go_simp
              refine hK.out _ _ (fun _ => S6.out) ?_
              clear hK
              refine wpAnyT_one (i := 14) (by kernel_rfl) rfl (fun K hK => ?_)
              go_simp
              refine hK.out _ _ (fun h => last_out h) ?_
              clear hK S6
              refine wpAnyT_done (by kernel_rfl) ?_ _
              go_wp2_with fail
              (try simp only [Exit.inBlock, Exit.then])
              exact bodyPost_ret (results_cell_row rfl _ _ R 25 #[.int .i64 W, .int .i64 H, .slice (some ⟨gA, 0, none⟩) k c] (0, 0) _ rfl HF.out.1 Try.underlying25 rfl (by kernel_rfl)) rfl HF.out.2
            · go_simp
              refine (pick_any g (po + 1 + 1) _ _ hra (by omega) (by omega) (by omega)).mono ?_
              rintro e wa2 ⟨k6, rfl, hk6, -, hrb, hgb, -⟩
              have hk6' : (k6 : Int) < 2 := hk6 (by omega)
              have hXb := hXa.grown hgb (by simp; omega)
              have hRb := hRa.grown hgb (by simp; omega)
              have hownb := howna.keepRd hgb (by omega)
              have hGb := grown_trans hGa hgb
              refine hK.out _ _ (fun _ => hXb.c2) ?_
              clear hK
              try simp only [Act.put, List.setIfInBounds_toArray]
              refine wpAnyT_one (i := 7) (by kernel_rfl) rfl (fun K hK => ?_)
              go_simp
              have hX6 : RasAtB (wa2.alloc (.cells #[.int .i64 (-1), .int .i64 256] 3)) X W H (some ⟨gA, 0, none⟩) k c 25 := hXb.grown (World.grownBy_alloc wa2 (.cells #[.int .i64 (-1), .int .i64 256] 3) none) (by simp)
              have hR6 : RasAtB (wa2.alloc (.cells #[.int .i64 (-1), .int .i64 256] 3)) R 0 0 none 0 0 25 := hRb.grown (World.grownBy_alloc wa2 (.cells #[.int .i64 (-1), .int .i64 256] 3) none) (by simp)
              have hown6 : OwnP (wa2.alloc (.cells #[.int .i64 (-1), .int .i64 256] 3)) w5.heap.size (.slice (some ⟨gA, 0, none⟩) k c) l := World.ownsRow.alloc hownb _
              have hG6 : w.grownBy (wa2.alloc (.cells #[.int .i64 (-1), .int .i64 256] 3)) (some g) := grown_trans hGb (World.grownBy_alloc wa2 (.cells #[.int .i64 (-1), .int .i64 256] 3) (some g))
              have hr6 : Rdr (wa2.alloc (.cells #[.int .i64 (-1), .int .i64 256] 3)) g _ := hrb.alloc (.cells #[.int .i64 (-1), .int .i64 256] 3)
              refine hK.out _ _ (fun _ => hX6.c2) ?_
              clear hK
              have hgzb := hrb.lt
              obtain ⟨z, hz⟩ : ∃ z : Int, (wa2.alloc (.cells #[.int .i64 (-1), .int .i64 256] 3)).cell? ⟨wa2.heap.size, k6, none⟩ = some (.int .i64 z) := by
                obtain ⟨s, e, _, _, ht⟩ := Slot.stays (tab_new (n := 2) (R := fun _ => True) (t := 3) (w := wa2) #[.int .i64 (-1), .int .i64 256] hgzb (fun j hj => by
                  match j, hj with
                  | 0, _ => exact ⟨_, rfl, trivial⟩
                  | 1, _ => exact ⟨_, rfl, trivial⟩)) (World.grownBy.refl _ _)
                injection e with e1 _ _
                injection e1 with e1
                injection e1 with e1 _ _
                rw [e1]
                obtain ⟨z, hz, _⟩ := ht k6 (by omega)
                exact ⟨z, hz⟩
              generalize wa2.alloc (.cells #[.int .i64 (-1), .int .i64 256] 3) = w6 at *
              clear hXa hRa howna hGa hra hga hXb hRb hownb hGb hrb hgb hk5 hk6
              clear hXd hRd hownd hGd hrd HS0 hXp hRp hownp hGp hrp
              have pk6 : 0 ≤ (k6 : Int) ∧ (k6 : Int) < 2 := by omega
              have pk5 : 0 ≤ (k5 : Int) ∧ (k5 : Int) < (k : Int) := by omega
              have S6 := Lib.hid hX6.c2
              have hXz := hX6.lt
              have hfl := flatP_length l
              have ho6 : w6.ownsRow w5.heap.size 40 4 (.slice (some ⟨gA, 0, none⟩) k c) k (flatP l) := by
                have := hown6
                unfold OwnP at this
                rw [hl] at this
                exact this
              have pf := ho6.frozenAt (k5 * 4 + 1)
              obtain ⟨q5, hq5⟩ : ∃ q5, l[k5]? = some q5 := ⟨_, List.getElem?_eq_getElem (by omega)⟩
              obtain ⟨yg, hyg⟩ : ∃ y, w6.cell? ⟨gA, k5 * 4 + 1, none⟩ = some y := by
                rw [ho6.cellAt (k5 * 4 + 1) (by omega)]
                exact ⟨_, List.getElem?_eq_getElem (by omega)⟩
              have hgl : w5.heap.size ≤ gA := (World.ownsRow.lt ho6 gA rfl).1
              have hase : HasP (w6.setCell ⟨gA, k5 * 4 + 1, none⟩ (.int .i64 z)) (w6.setCell ⟨gA, k5 * 4 + 1, none⟩ (.int .i64 z)).heap.size (some ⟨gA, 0, none⟩) (l.set k5 ⟨q5.r, z, q5.b, q5.a⟩) := by
                have := HasP.setG hown6.reads hq5 z
                rw [Nat.zero_add] at this
                simpa using this
              have hRe := hR6.set_other (b := gA) (by omega) (k5 * 4 + 1) (.int .i64 z)
              have hXe := hX6.set_other (b := gA) (by omega) (k5 * 4 + 1) (.int .i64 z)
              have hre : Rdr (w6.setCell ⟨gA, k5 * 4 + 1, none⟩ (.int .i64 z)) g (po + 1 + 1 + 1) := hr6.kept (fun j hj => Below.heap_setCell w6 _ _ j (by simp; omega))
              have hGe := grown_own hG6 (grown_cell w6 gA (k5 * 4 + 1) (.int .i64 z)) (fun b hb => by injection hb with hb; omega)
              have HF := Lib.hid (FIN.out _ W H (some ⟨gA, 0, none⟩) c (l.set k5 ⟨q5.r, z, q5.b, q5.a⟩) (po + 1 + 1 + 1) hRe hase (fun b o e => (HAne.out b o e).1) (by rw [List.length_set]; exact hlc) (by rw [List.length_set]; omega) hre (by omega) hGe)
              rw [List.length_set, hl] at HF
              have y0 := hX6.c0
              have y1 := hX6.c1
              have y2 := hX6.c2
              have hR60 := hR6.c0
              have hR61 := hR6.c1
              have hR62 := hR6.c2
              have hRf0 := hR6.free 0
              have hRf1 := hR6.free 1
              have hRf2 := hR6.free 2
              have hnA1 : ¬ gA = X := by omega
              have hnA2 : ¬ gA = R := by omega
              have hnA3 : ¬ X = gA := by omega
              have hnA4 : ¬ R = gA := by omega
              have HLK := Lib.hid hl
              clear FIN hX6 hR6 hown6 hG6 hr6 hRe hXe hre hGe hase ho6 hfl hq5 hl
              refine wpAnyT_one (i := 10) (by kernel_rfl) rfl (fun K hK => ?_)
              go_simp
              refine hK.out _ _ (fun _ => S6.out) ?_
              clear hK
              refine wpAnyT_one (i := 11) (by kernel_rfl) rfl (fun K hK => ?_)
              go_simp
              refine hK.out _ _ (fun _ => S6.out) ?_
              clear hK
              refine wpAnyT_one (i := 12) (by kernel_rfl) rfl (fun K hK => ?_)
              go_simp
              refine hK.out _ _ (fun _ => S6.out) ?_
              clear hK
              refine wpAnyT_one (i := 13) (by kernel_rfl) rfl (fun K hK => ?_)
              go_simp
              refine hK.out _ _ (fun _ => S6.out) ?_
              clear hK
              refine wpAnyT_one (i := 14) (by kernel_rfl) rfl (fun K hK => ?_)
              go_simp
              refine hK.out _ _ (fun h => last_out h) ?_
              clear hK S6
              refine wpAnyT_done (by kernel_rfl) ?_ _
              go_wp2_with fail
              (try simp only [Exit.inBlock, Exit.then])
              exact bodyPost_ret (results_cell_row rfl _ _ R 25 #[.int .i64 W, .int .i64 H, .slice (some ⟨gA, 0, none⟩) k c] (0, 0) _ rfl HF.out.1 Try.underlying25 rfl (by kernel_rfl)) rfl HF.out.2
          · go_simp
            have hXa : RasAtB (wp.alloc (.cells #[.int .i64 (-1), .int .i64 256] 3)).drew X W H (some ⟨gA, 0, none⟩) k c 25 := (hXp.grown (World.grownBy_alloc wp (.cells #[.int .i64 (-1), .int .i64 256] 3) none) (by simp)).drew1
            have hRa : RasAtB (wp.alloc (.cells #[.int .i64 (-1), .int .i64 256] 3)).drew R 0 0 none 0 0 25 := (hRp.grown (World.grownBy_alloc wp (.cells #[.int .i64 (-1), .int .i64 256] 3) none) (by simp)).drew1
            have howna : OwnP (wp.alloc (.cells #[.int .i64 (-1), .int .i64 256] 3)).drew w5.heap.size (.slice (some ⟨gA, 0, none⟩) k c) l := (show OwnP (wp.alloc (.cells #[.int .i64 (-1), .int .i64 256] 3)) w5.heap.size (.slice (some ⟨gA, 0, none⟩) k c) l from World.ownsRow.alloc hownp _)
            have hGa : w.grownBy (wp.alloc (.cells #[.int .i64 (-1), .int .i64 256] 3)).drew (some g) := grown_trans (grown_trans hGp (World.grownBy_alloc wp (.cells #[.int .i64 (-1), .int .i64 256] 3) (some g))) (grown_drew1 _ _)
            have hra : Rdr (wp.alloc (.cells #[.int .i64 (-1), .int .i64 256] 3)).drew g (po + 1) := (hrp.alloc (.cells #[.int .i64 (-1), .int .i64 256] 3)).drewN 1
            refine hK.out _ _ (fun _ => hXa.c2) ?_
            clear hK
            refine wpAnyT_one (i := 6) (by kernel_rfl) rfl (fun K hK => ?_)
            go_simp
            refine (pick_any g (po + 1) _ _ hra (by omega) (by omega) (by omega)).mono ?_
            rintro e wa2 ⟨k5, rfl, hk5, -, hrb, hgb, -⟩
            have hk5' : (k5 : Int) < (k : Int) := hk5 (by omega)
            have hXb := hXa.grown hgb (by simp; omega)
            have hRb := hRa.grown hgb (by simp; omega)
            have hownb := howna.keepRd hgb (by omega)
            have hGb := grown_trans hGa hgb
            refine hK.out _ _ (fun _ => hXb.c2) ?_
            clear hK
            try simp only [Act.put, List.setIfInBounds_toArray]
            refine wpAnyT_one (i := 9) (by kernel_rfl) rfl (fun K hK => ?_)
            go_simp
            refine (pick_any g (po + 1 + 1) _ _ hrb (by omega) (by omega) (by omega)).mono ?_
            rintro e w6 ⟨k6, rfl, hk6, -, hr6, hg6, -⟩
            have hk6' : (k6 : Int) < 2 := hk6 (by omega)
            have hX6 := hXb.grown hg6 (by simp; omega)
            have hR6 := hRb.grown hg6 (by simp; omega)
            have hown6 := hownb.keepRd hg6 (by omega)
            have hG6 := grown_trans hGb hg6
            refine hK.out _ _ (fun _ => hX6.c2) ?_
            clear hK
            try simp only [Act.put, List.setIfInBounds_toArray]
            obtain ⟨z, hz⟩ : ∃ z : Int, w6.cell? ⟨wp.heap.size, k6, none⟩ = some (.int .i64 z) := by
              obtain ⟨s, e, _, _, ht⟩ := Slot.stays (tab_new (n := 2) (R := fun _ => True) (t := 3) (w := wp) #[.int .i64 (-1), .int .i64 256] hgz (fun j hj => by
                match j, hj with
                | 0, _ => exact ⟨_, rfl, trivial⟩
                | 1, _ => exact ⟨_, rfl, trivial⟩)) (show (wp.alloc (.cells #[.int .i64 (-1), .int .i64 256] 3)).grownBy w6 (some g) from grown_trans (grown_trans (grown_drew1 _ _) hgb) hg6)
              injection e with e1 _ _
              injection e1 with e1
              injection e1 with e1 _ _
              rw [e1]
              obtain ⟨z, hz, _⟩ := ht k6 (by omega)
              exact ⟨z, hz⟩
            clear hXa hRa howna hGa hra hXb hRb hownb hGb hrb hgb hg6 hk5 hk6
            clear hXd hRd hownd hGd hrd HS0 hXp hRp hownp hGp hrp
            have pk6 : 0 ≤ (k6 : Int) ∧ (k6 : Int) < 2 := by omega
            have pk5 : 0 ≤ (k5 : Int) ∧ (k5 : Int) < (k : Int) := by omega
            have S6 := Lib.hid hX6.c2
            have hXz := hX6.lt
            have hfl := flatP_length l
            have ho6 : w6.ownsRow w5.heap.size 40 4 (.slice (some ⟨gA, 0, none⟩) k c) k (flatP l) := by
              have := hown6
              unfold OwnP at this
              rw [hl] at this
              exact this
            have pf := ho6.frozenAt (k5 * 4 + 1)
            obtain ⟨q5, hq5⟩ : ∃ q5, l[k5]? = some q5 := ⟨_, List.getElem?_eq_getElem (by omega)⟩
            obtain ⟨yg, hyg⟩ : ∃ y, w6.cell? ⟨gA, k5 * 4 + 1, none⟩ = some y := by
              rw [ho6.cellAt (k5 * 4 + 1) (by omega)]
              exact ⟨_, List.getElem?_eq_getElem (by omega)⟩
            have hgl : w5.heap.size ≤ gA := (World.ownsRow.lt ho6 gA rfl).1
            have hase : HasP (w6.setCell ⟨gA, k5 * 4 + 1, none⟩ (.int .i64 z)) (w6.setCell ⟨gA, k5 * 4 + 1, none⟩ (.int .i64 z)).heap.size (some ⟨gA, 0, none⟩) (l.set k5 ⟨q5.r, z, q5.b, q5.a⟩) := by
              have := HasP.setG hown6.reads hq5 z
              rw [Nat.zero_add] at this
              simpa using this
            have hRe := hR6.set_other (b := gA) (by omega) (k5 * 4 + 1) (.int .i64 z)
            have hXe := hX6.set_other (b := gA) (by omega) (k5 * 4 + 1) (.int .i64 z)
            have hre : Rdr (w6.setCell ⟨gA, k5 * 4 + 1, none⟩ (.int .i64 z)) g (po + 1 + 1 + 1) := hr6.kept (fun j hj => Below.heap_setCell w6 _ _ j (by simp; omega))
            have hGe := grown_own hG6 (grown_cell w6 gA (k5 * 4 + 1) (.int .i64 z)) (fun b hb => by injection hb with hb; omega)
            have HF := Lib.hid (FIN.out _ W H (some ⟨gA, 0, none⟩) c (l.set k5 ⟨q5.r, z, q5.b, q5.a⟩) (po + 1 + 1 + 1) hRe hase (fun b o e => (HAne.out b o e).1) (by rw [List.length_set]; exact hlc) (by rw [List.length_set]; omega) hre (by omega) hGe)
            rw [List.length_set, hl] at HF
            have y0 := hX6.c0
            have y1 := hX6.c1
            have y2 := hX6.c2
            have hR60 := hR6.c0
            have hR61 := hR6.c1
            have hR62 := hR6.c2
            have hRf0 := hR6.free 0
            have hRf1 := hR6.free 1
            have hRf2 := hR6.free 2
            have hnA1 : ¬ gA = X := by omega
            have hnA2 : ¬ gA = R := by omega
            have hnA3 : ¬ X = gA := by omega
            have hnA4 : ¬ R = gA := by omega
            have HLK := Lib.hid hl
            clear FIN hX6 hR6 hown6 hG6 hr6 hRe hXe hre hGe hase ho6 hfl hq5 hl
            refine wpAnyT_one (i := 10) (by kernel_rfl) rfl (fun K hK => ?_)
            go_simp
            refine hK.out _ _ (fun _ => S6.out) ?_
            clear hK
            refine wpAnyT_one (i := 11) (by kernel_rfl) rfl (fun K hK => ?_)
            go_simp
            refine hK.out _ _ (fun _ => S6.out) ?_
            clear hK
            refine wpAnyT_one (i := 12) (by kernel_rfl) rfl (fun K hK => ?_)
            go_simp
            refine hK.out _ _ (fun _ => S6.out) ?_
            clear hK
            refine wpAnyT_one (i := 13) (by kernel_rfl) rfl (fun K hK => ?_)
            go_simp
            refine hK.out _ _ (fun _ => S6.out) ?_
            clear hK
            refine wpAnyT_one (i := 14) (by kernel_rfl) rfl (fun K hK => ?_)
            go_simp
            refine hK.out _ _ (fun h => last_out h) ?_
            clear hK S6
            refine wpAnyT_done (by kernel_rfl) ?_ _
            go_wp2_with fail
            (try simp only [Exit.inBlock, Exit.then])
            exact bodyPost_ret (results_cell_row rfl _ _ R 25 #[.int .i64 W, .int .i64 H, .slice (some ⟨gA, 0, none⟩) k c] (0, 0) _ rfl HF.out.1 Try.underlying25 rfl (by kernel_rfl)) rfl HF.out.2
end Go.Proofs.Ytnnpjcbdcjdojaa
namespace Go.Proofs.Ytnnpjcbdcjdojaa
open Go.RowKit
/-- What they answer. -/
def DrewO (w : World) (e : Ending) (w' : World) : Prop :=
  ∃ W H : Int, ∃ A c, ∃ l : List Px, e = .returned (rasV W H A l.length c) ∧ HasP w' w'.heap.size A l ∧ l.length ≤ c ∧ l.length ≤ 36 ∧ Below w.heap.size w w'
theorem results_row_tmp2 {P : Program} {fn : Func} {p u u2 : Tmp} {ty : TypeId} (h : fn.results = #[.cell p ty, .tmp u, .tmp u2]) (tmps : Array Value) (w : World) (g : Nat) (t : TypeId) (cs : Array Value) (fr : Nat × Nat) (d : TypeDesc) (b b2 : Value)
    (hp : tmps.getD p undef = .pointer (some ⟨g, 0, none⟩)) (hb : tmps.getD u undef = b) (hb2 : tmps.getD u2 undef = b2) (hg : w.heap[g]? = some (.cells cs t fr))
    (hu : P.underlying ty = some d) (hd : (match d with | .struct _ | .array _ _ => true | _ => false) = true) (hi : (P.info? ty).map (·.size) = some cs.size) :
    (results fn tmps).run P w = .ok (.tuple #[.agg cs, b, b2]) w := by
  have e : (results fn tmps).run P w = ((asAddr (tmps.getD p undef)).run P w).andThen fun a w1 => ((loadVar ty a).run P w1).andThen fun v w2 => .ok (.tuple #[v, tmps.getD u undef, tmps.getD u2 undef]) w2 := by
    simp only [results, h]
    simp [Sem.run_bind, Result.andThen]
  rw [e, hp, hb, hb2]
  simp [asAddr, run_loadVar_row w g t ty cs fr d hg hu hd hi, Result.andThen]
theorem HasP.grown_ne {w w' : World} {g : Nat} {A : Option Addr} {l : List Px} (h : HasP w w.heap.size A l) (hg : w.grownBy w' (some g)) (hA : ∀ b o, A = some ⟨b, o, none⟩ → b ≠ g) : HasP w' w.heap.size A l := by
  rcases h with rfl | ⟨b, o, rfl, hb, hc⟩
  · exact .inl rfl
  · exact .inr ⟨b, o, rfl, hb, fun j y hy => (hc j y hy).kept fun q hq => World.cell?_of_block (hg.block _ (by omega) (by rw [hq]; intro e; injection e with e; exact hA b o rfl e))⟩
set_option maxHeartbeats 1000000 in
theorem drawRasBytes_any (A : Option Addr) (c : Nat) (l : List UInt8) (w : World) (hs : l.length ≤ 1073741824) (hc : l.length ≤ c) (h : Has w w.heap.size A l) :
    Calls Try.prog 25 #[.slice A l.length c] w (DrewO w) := by
  have hb0 : Below w.heap.size w (w.alloc (.cells #[.int .i64 0, .int .i64 0, .slice none 0 0] 25)) := (Below.refl _ w).alloc (Nat.le_refl _) _
  have hx0 : RasAtB (w.alloc (.cells #[.int .i64 0, .int .i64 0, .slice none 0 0] 25)) w.heap.size 0 0 none 0 0 25 := heap_alloc_new w _
  have h0 : Has (w.alloc (.cells #[.int .i64 0, .int .i64 0, .slice none 0 0] 25)) (w.alloc (.cells #[.int .i64 0, .int .i64 0, .slice none 0 0] 25)).heap.size A l := (h.below hb0).wider (by simp)
  go_enter Try.func25, Try.ntmps25
  go_wp2_with fail
  generalize w.alloc (.cells #[.int .i64 0, .int .i64 0, .slice none 0 0] 25) = w0 at *
  have hlt := hx0.lt
  refine (l20Open_any A c l _ hs hc h0).mono ?_
  rintro e w1 ⟨rfl, hr, b1⟩
  have hx1 := hx0.below b1 hlt
  have B1 : Below w.heap.size w w1 := hb0.trans (b1.mono (by omega))
  have hz1 := hr.lt
  clear hb0 b1 hx0 h0 h hs hc
  go_wp2_with fail
  refine (l20Ras_any _ 0 5 _ hr (by omega) (by omega) (by omega)).mono ?_
  rintro e w2 ⟨W, H, A2, c2, l2, rfl, hh2, hc2, hl2, ⟨p2, hp2, hr2⟩, hg2, hn2⟩
  have HX2 := Lib.hid (hx1.grown hg2 (by simp; omega))
  have HB2 := Lib.hid (below_of_grown B1 hg2 (by omega) B1.size)
  have hne : ∀ b o, A2 = some ⟨b, o, none⟩ → b ≠ w.heap.size := fun b o e => by have := hn2 b o e; omega
  have HHe : Hid (HasP (((w2.setCell ⟨w.heap.size, 0, none⟩ (.int .i64 W)).setCell ⟨w.heap.size, 1, none⟩ (.int .i64 H)).setCell ⟨w.heap.size, 2, none⟩ (.slice A2 l2.length c2)) (((w2.setCell ⟨w.heap.size, 0, none⟩ (.int .i64 W)).setCell ⟨w.heap.size, 1, none⟩ (.int .i64 H)).setCell ⟨w.heap.size, 2, none⟩ (.slice A2 l2.length c2)).heap.size A2 l2) := Lib.hid (by simpa using ((hh2.set_ne hne 0 (.int .i64 W)).set_ne hne 1 (.int .i64 H)).set_ne hne 2 (.slice A2 l2.length c2))
  have r0 := HX2.out.c0
  have r1 := HX2.out.c1
  have r2 := HX2.out.c2
  have f0 := HX2.out.free 0
  have f1 := HX2.out.free 1
  have f2 := HX2.out.free 2
  clear hn2 hne hx1 B1 hg2 hr2 hr hh2
  unfold rasV
  go_wp2_with fail
  (try simp only [Exit.inBlock, Exit.then])
  refine bodyPost_ret (results_cell_row rfl _ _ w.heap.size 25 #[.int .i64 W, .int .i64 H, .slice A2 l2.length c2] (0, 0) _ rfl (fin_ras HX2.out _ _ _) Try.underlying25 rfl (by kernel_rfl)) rfl ?_
  exact ⟨W, H, A2, c2, l2, rfl, HHe.out, hc2, hl2, ((HB2.out.setCell (Nat.le_refl _) _).setCell (Nat.le_refl _) _).setCell (Nat.le_refl _) _⟩
end Go.Proofs.Ytnnpjcbdcjdojaa
namespace Go.Proofs.Ytnnpjcbdcjdojaa
open Go.RowKit

/-- What l20Bytes answers: some bytes, no more than n; the reader stands further, and nothing else that was there has changed. -/
def DrewB (w : World) (g p n : Nat) (e : Ending) (w' : World) : Prop :=
  ∃ v, ∃ l : List UInt8, ∃ p', e = .returned v ∧ Own w' w.heap.size v l ∧ l.length ≤ n ∧ p' ≤ p + 3 * n + 1 ∧ Rdr w' g p' ∧ w.grownBy w' (some g)

/-- v does not lie in block g. -/
def v_ne (v : Value) (g : Nat) : Prop := v.ownBlock ≠ some g

theorem byte_of (z : Int) : ∃ x : UInt8, IntKind.u8.wrap z = (x.toNat : Int) := by
  refine ⟨UInt8.ofNat (z % 256).toNat, ?_⟩
  rw [IntKind.wrap_u8]
  simp
  omega

set_option maxHeartbeats 1000000 in
theorem l20Bytes_any (g p n : Nat) (m : Int) (hm : m = (n : Int)) (w : World) (h : Rdr w g p) (hp : p ≤ 100000000) (hn : n ≤ 1000) :
    Calls Try.prog 42 #[.pointer (some ⟨g, 0, none⟩), .int .i64 m] w (DrewB w g p n) := by
  subst hm
  have hgw := h.lt
  go_enter Try.func42, Try.ntmps42
  go_wp2_with fail
  refine (pick_any g p _ _ (h.alloc _) (by omega) (by omega) (by omega)).mono ?_
  rintro e w1 ⟨k1, rfl, hk1, -, hr1, hg1, -⟩
  have hk1 : k1 ≤ n := by have := hk1 (by omega); omega
  have hg0 : w.grownBy w1 (some g) := grown_trans (World.grownBy_alloc w _ _) hg1
  have ho1 : Own w1 w.heap.size (.slice (some ⟨w.heap.size, 0, none⟩) 0 0) [] := (own_empty (Nat.le_refl _)).keep hg1 (.inr (by simp [Value.ownBlock]; omega))
  clear hg1 h
  go_wp2_with fail
  go_loopw [5, 6] (fun v i wr => ∃ k p' : Nat, ∃ l : List UInt8, i = .int .i64 k ∧ Own wr w.heap.size v l ∧ l.length + k ≤ n ∧ p' + 3 * k ≤ p + 3 * n + 1 ∧ Rdr wr g p' ∧ w.grownBy wr (some g))
    (fun _ i _ => (intOf i).toNat)
  case atStart => exact ⟨k1, p + 1, [], rfl, ho1, by simp; omega, by omega, hr1, hg0⟩
  case round =>
    obtain ⟨k, p', l, rfl, hown, hlk, hpk, hrd, hgr⟩ := hrel
    have hwz := hgr.size
    by_cases hlt : 0 < k
    · go_wp2_with fail
      refine (pick_any g p' _ _ hrd (by omega) (by omega) (by omega)).mono ?_
      rintro e w2 ⟨a, rfl, -, -, hr2, hg2, -⟩
      go_wp2_with fail
      refine (pick_any g (p' + 1) _ _ hr2 (by omega) (by omega) (by omega)).mono ?_
      rintro e w3 ⟨b, rfl, -, -, hr3, hg3, -⟩
      go_wp2_with fail
      refine (pick_any g (p' + 1 + 1) _ _ (hr3.alloc _) (by omega) (by omega) (by omega)).mono ?_
      rintro e w4 ⟨j, rfl, hj, -, hr4, hg4, -⟩
      have hj3 : j < 3 := by have := hj (by omega); omega
      have hz3 : w.heap.size ≤ w3.heap.size := Nat.le_trans (Nat.le_trans hwz hg2.size) hg3.size
      obtain ⟨z, hz⟩ : ∃ z : Int, w4.cell? ⟨w3.heap.size, j, none⟩ = some (.int .i64 z) := by
        have hc : ∀ z, #[Value.int .i64 (a : Int), .int .i64 (b : Int), .int .i64 255][j]? = some (.int .i64 z) → w4.cell? ⟨w3.heap.size, j, none⟩ = some (.int .i64 z) := fun z hz =>
          hg4.cell ((World.cell?_alloc_mark w3 _ _ _ j).trans hz) (by simp; omega)
        match j, hj3 with
        | 0, _ => exact ⟨_, hc _ rfl⟩
        | 1, _ => exact ⟨_, hc _ rfl⟩
        | 2, _ => exact ⟨_, hc _ rfl⟩
      obtain ⟨x, hx⟩ := byte_of z
      have hb : v_ne u5 g := fun e => by have := World.ownsRow.lt hown g e; omega
      have ho4 : Own w4 w.heap.size u5 l := (((hown.keep hg2 (.inr hb)).keep hg3 (.inr hb)).alloc _).keep hg4 (.inr hb)
      have hgr4 : w.grownBy w4 (some g) := grown_trans (grown_trans (grown_trans hgr hg2) hg3) (grown_trans (World.grownBy_alloc w3 _ _) hg4)
      have hz4 := hgr4.size
      clear hown hg2 hg3 hg4 hr2 hr3 hrd hj
      go_wp2_with (at_builtin; refine wpList_push1 rfl (.tmp 16) (.tmp 27) rfl w.heap.size _ l rfl ho4 x w4.heap.size rfl rfl (by omega) (by omega) ?_; intro gg cap w5 ho5 hg5)
      have hgr5 : w.grownBy w5 (some g) := grown_own (grown_trans hgr4 (World.grownBy_alloc w4 (.cells #[.int .u8 (x.toNat : Int)] 5) _)) hg5 (fun q hq => (World.ownsRow.lt ho4 q hq).1)
      have hr5 : Rdr w5 g (p' + 1 + 1 + 1) := (hr4.alloc _).grown hg5 (fun q hq => by have := (World.ownsRow.lt ho4 q hq).1; omega)
      clear hg5 ho4 hr4 hgr4
      go_wp2
      go_roundw
      case rel => exact ⟨k - 1, p' + 1 + 1 + 1, l ++ [x], by go_num, ho5, by simp; omega, by omega, hr5, hgr5⟩
      case measure => simp [intOf]; omega
    · go_wp2
      go_ret
      exact ⟨_, l, p', rfl, hown, by omega, by omega, hrd, hgr⟩
end Go.Proofs.Ytnnpjcbdcjdojaa
namespace Go.Proofs.Ytnnpjcbdcjdojaa
open Go.RowKit

set_option maxHeartbeats 1000000 in
theorem drawFormPut_any (A : Option Addr) (c : Nat) (l : List UInt8) (w : World) (hs : l.length ≤ 1073741824) (hc : l.length ≤ c) (h : Has w w.heap.size A l) :
    Calls Try.prog 26 #[.slice A l.length c] w (DrewO w) := by
  have hb0 : Below w.heap.size w (w.alloc (.cells #[.int .i64 0, .int .i64 0, .slice none 0 0] 25)) := (Below.refl _ w).alloc (Nat.le_refl _) _
  have hx0 : RasAtB (w.alloc (.cells #[.int .i64 0, .int .i64 0, .slice none 0 0] 25)) w.heap.size 0 0 none 0 0 25 := heap_alloc_new w _
  have h0 : Has (w.alloc (.cells #[.int .i64 0, .int .i64 0, .slice none 0 0] 25)) (w.alloc (.cells #[.int .i64 0, .int .i64 0, .slice none 0 0] 25)).heap.size A l := (h.below hb0).wider (by simp)
  go_enter Try.func26, Try.ntmps26
  go_wp2_with fail
  generalize w.alloc (.cells #[.int .i64 0, .int .i64 0, .slice none 0 0] 25) = w0 at *
  have hlt := hx0.lt
  refine (l20Open_any A c l _ hs hc h0).mono ?_
  rintro e w1 ⟨rfl, hr, b1⟩
  have hx1 := hx0.below b1 hlt
  have B1 : Below w.heap.size w w1 := hb0.trans (b1.mono (by omega))
  have hz1 := hr.lt
  clear hb0 b1 hx0 h0 h hs hc
  go_wp2_with fail
  refine (l20Ras_any _ 0 6 _ hr (by omega) (by omega) (by omega)).mono ?_
  rintro e w2 ⟨W, H, A2, c2, l2, rfl, hh2, hc2, hl2, ⟨p2, hp2, hr2⟩, hg2, hn2⟩
  have HX2 := Lib.hid (hx1.grown hg2 (by simp; omega))
  have HB2 := Lib.hid (below_of_grown B1 hg2 (by omega) B1.size)
  have hne : ∀ b o, A2 = some ⟨b, o, none⟩ → b ≠ w.heap.size := fun b o e => by have := hn2 b o e; omega
  have HHe : Hid (HasP (((w2.setCell ⟨w.heap.size, 0, none⟩ (.int .i64 W)).setCell ⟨w.heap.size, 1, none⟩ (.int .i64 H)).setCell ⟨w.heap.size, 2, none⟩ (.slice A2 l2.length c2)) (((w2.setCell ⟨w.heap.size, 0, none⟩ (.int .i64 W)).setCell ⟨w.heap.size, 1, none⟩ (.int .i64 H)).setCell ⟨w.heap.size, 2, none⟩ (.slice A2 l2.length c2)).heap.size A2 l2) := Lib.hid (by simpa using ((hh2.set_ne hne 0 (.int .i64 W)).set_ne hne 1 (.int .i64 H)).set_ne hne 2 (.slice A2 l2.length c2))
  have r0 := HX2.out.c0
  have r1 := HX2.out.c1
  have r2 := HX2.out.c2
  have f0 := HX2.out.free 0
  have f1 := HX2.out.free 1
  have f2 := HX2.out.free 2
  clear hn2 hne hx1 B1 hg2 hr2 hr hh2
  unfold rasV
  go_wp2_with fail
  (try simp only [Exit.inBlock, Exit.then])
  refine bodyPost_ret (results_cell_row rfl _ _ w.heap.size 25 #[.int .i64 W, .int .i64 H, .slice A2 l2.length c2] (0, 0) _ rfl (fin_ras HX2.out _ _ _) Try.underlying25 rfl (by kernel_rfl)) rfl ?_
  exact ⟨W, H, A2, c2, l2, rfl, HHe.out, hc2, hl2, ((HB2.out.setCell (Nat.le_refl _) _).setCell (Nat.le_refl _) _).setCell (Nat.le_refl _) _⟩
theorem results_tmp2_row {P : Program} {fn : Func} {p u u2 : Tmp} {ty : TypeId} (h : fn.results = #[.tmp u, .tmp u2, .cell p ty]) (tmps : Array Value) (w : World) (g : Nat) (t : TypeId) (cs : Array Value) (fr : Nat × Nat) (d : TypeDesc) (b b2 : Value)
    (hp : tmps.getD p undef = .pointer (some ⟨g, 0, none⟩)) (hb : tmps.getD u undef = b) (hb2 : tmps.getD u2 undef = b2) (hg : w.heap[g]? = some (.cells cs t fr))
    (hu : P.underlying ty = some d) (hd : (match d with | .struct _ | .array _ _ => true | _ => false) = true) (hi : (P.info? ty).map (·.size) = some cs.size) :
    (results fn tmps).run P w = .ok (.tuple #[b, b2, .agg cs]) w := by
  have e : (results fn tmps).run P w = ((asAddr (tmps.getD p undef)).run P w).andThen fun a w1 => ((loadVar ty a).run P w1).andThen fun v w2 => .ok (.tuple #[tmps.getD u undef, tmps.getD u2 undef, v]) w2 := by
    simp only [results, h]
    simp [Sem.run_bind, Result.andThen]
  rw [e, hp, hb, hb2]
  simp [asAddr, run_loadVar_row w g t ty cs fr d hg hu hd hi, Result.andThen]
/-- What l20Kind answers. -/
def DrewK (w : World) (g p : Nat) (e : Ending) (w' : World) : Prop := ∃ kb : UInt8, e = .returned (.int .u8 (kb.toNat : Int)) ∧ Rdr w' g (p + 1) ∧ w.grownBy w' (some g)
set_option maxHeartbeats 400000 in
theorem l20Kind_any (g p : Nat) (w : World) (h : Rdr w g p) (hp : p ≤ 100000000) :
    Calls Try.prog 39 #[.pointer (some ⟨g, 0, none⟩)] w (DrewK w g p) := by
  have hgw := h.lt
  have hx0 : (w.alloc (.cells #[.int .u8 68, .int .u8 85, .int .u8 82, .int .u8 80] 5)).heap[w.heap.size]? = some (.cells #[.int .u8 68, .int .u8 85, .int .u8 82, .int .u8 80] 5 (0, 0)) := heap_alloc_new w _
  have HG0 : Hid (w.grownBy (w.alloc (.cells #[.int .u8 68, .int .u8 85, .int .u8 82, .int .u8 80] 5)) (some g)) := Lib.hid (World.grownBy_alloc w _ _)
  have hr0 := h.alloc (.cells #[.int .u8 68, .int .u8 85, .int .u8 82, .int .u8 80] 5)
  have HX0 := Lib.hid hx0
  clear h hx0
  go_enter Try.func39, Try.ntmps39
  go_wp2_with fail
  generalize w.alloc (.cells #[.int .u8 68, .int .u8 85, .int .u8 82, .int .u8 80] 5) = w0 at *
  refine (pick_any g p _ _ hr0 (by omega) (by omega) (by omega)).mono ?_
  rintro e w1 ⟨k1, rfl, hk1, -, hr1, hg1, -⟩
  have hk4 : (k1 : Int) < 4 := hk1 (by omega)
  have hx1 := (hg1.block w.heap.size (Array.getElem?_eq_some_iff.1 HX0.out).1 (by simp; omega)).trans HX0.out
  have HF : ∀ kb : UInt8, Hid (DrewK w g p (.returned (.int .u8 (kb.toNat : Int))) w1) := fun kb => Lib.hid ⟨kb, rfl, hr1, grown_trans HG0.out hg1⟩
  have HFF := Lib.hid HF
  clear hr0 hg1 hr1 hk1 HG0 HF
  rcases (by omega : k1 = 0 ∨ k1 = 1 ∨ k1 = 2 ∨ k1 = 3) with rfl | rfl | rfl | rfl
  · have d : w1.cell? ⟨w.heap.size, 0, none⟩ = some (.int .u8 68) := by rw [cell_of_row w1 _ 0 _ _ _ hx1]; rfl
    clear hx1
    go_wp2_with fail
    go_ret
    exact (HFF.out 68).out
  · have d : w1.cell? ⟨w.heap.size, 1, none⟩ = some (.int .u8 85) := by rw [cell_of_row w1 _ 1 _ _ _ hx1]; rfl
    clear hx1
    go_wp2_with fail
    go_ret
    exact (HFF.out 85).out
  · have d : w1.cell? ⟨w.heap.size, 2, none⟩ = some (.int .u8 82) := by rw [cell_of_row w1 _ 2 _ _ _ hx1]; rfl
    clear hx1
    go_wp2_with fail
    go_ret
    exact (HFF.out 82).out
  · have d : w1.cell? ⟨w.heap.size, 3, none⟩ = some (.int .u8 80) := by rw [cell_of_row w1 _ 3 _ _ _ hx1]; rfl
    clear hx1
    go_wp2_with fail
    go_ret
    exact (HFF.out 80).out
theorem HasP.set_low {w : World} {B : Nat} {A : Option Addr} {l : List Px} (h : HasP w B A l) {R : Nat} (hne : ∀ b o, A = some ⟨b, o, none⟩ → b ≠ R) (i : Nat) (v : Value) : HasP (w.setCell ⟨R, i, none⟩ v) B A l := by
  rcases h with rfl | ⟨b, o, rfl, hb, hc⟩
  · exact .inl rfl
  · exact .inr ⟨b, o, rfl, hb, fun j y hy => (hc j y hy).kept fun q hq => World.cell?_of_block (Below.heap_setCell w _ _ q.block (by rw [hq]; exact hne b o rfl))⟩
theorem Has.set_low {w : World} {B : Nat} {A : Option Addr} {l : List UInt8} (h : Has w B A l) {R : Nat} (hne : ∀ b o, A = some ⟨b, o, none⟩ → b ≠ R) (i : Nat) (v : Value) : Has (w.setCell ⟨R, i, none⟩ v) B A l := by
  rcases h with rfl | ⟨b, o, rfl, hb, hc⟩
  · exact .inl rfl
  · exact .inr ⟨b, o, rfl, hb, fun j y hy => (World.cell?_of_block (a := ⟨b, o + j, none⟩) (Below.heap_setCell w _ _ b (hne b o rfl))).trans (hc j y hy)⟩
/-- What DrawFormWrite answers. -/
def DrewW (w : World) (e : Ending) (w' : World) : Prop :=
  ∃ kb : UInt8, ∃ An cn, ∃ note : List UInt8, ∃ W H : Int, ∃ A c, ∃ l : List Px, e = .returned (.tuple #[.int .u8 (kb.toNat : Int), .slice An note.length cn, rasV W H A l.length c]) ∧ Has w' w'.heap.size An note ∧ note.length ≤ cn ∧ note.length ≤ 10 ∧ HasP w' w'.heap.size A l ∧ l.length ≤ c ∧ l.length ≤ 36 ∧ Below w.heap.size w w'
theorem own_block {w : World} {base : Nat} {A : Option Addr} {n c : Nat} {l : List UInt8} (h : Own w base (.slice A n c) l) : ∀ b o, A = some ⟨b, o, none⟩ → base ≤ b := fun b o e => by
  subst e
  rcases h.2 with ⟨e, -⟩ | ⟨g', cap, cur, e, hb, -⟩
  · cases e
  · injection e with e _ _
    injection e with e
    injection e with e1 _ _
    omega
set_option maxHeartbeats 1000000 in
theorem drawFormWrite_any (A : Option Addr) (c : Nat) (l : List UInt8) (w : World) (hs : l.length ≤ 1073741824) (hc : l.length ≤ c) (h : Has w w.heap.size A l) :
    Calls Try.prog 12 #[.slice A l.length c] w (DrewW w) := by
  have hb0 : Below w.heap.size w (w.alloc (.cells #[.int .i64 0, .int .i64 0, .slice none 0 0] 25)) := (Below.refl _ w).alloc (Nat.le_refl _) _
  have hx0 : RasAtB (w.alloc (.cells #[.int .i64 0, .int .i64 0, .slice none 0 0] 25)) w.heap.size 0 0 none 0 0 25 := heap_alloc_new w _
  have h0 : Has (w.alloc (.cells #[.int .i64 0, .int .i64 0, .slice none 0 0] 25)) (w.alloc (.cells #[.int .i64 0, .int .i64 0, .slice none 0 0] 25)).heap.size A l := (h.below hb0).wider (by simp)
  go_enter Try.func12, Try.ntmps12
  go_wp2_with fail
  generalize w.alloc (.cells #[.int .i64 0, .int .i64 0, .slice none 0 0] 25) = w0 at *
  have hlt := hx0.lt
  refine (l20Open_any A c l _ hs hc h0).mono ?_
  rintro e w1 ⟨rfl, hr, b1⟩
  have hx1 := hx0.below b1 hlt
  have B1 : Below w.heap.size w w1 := hb0.trans (b1.mono (by omega))
  have hz1 := hr.lt
  clear hb0 b1 hx0 h0 h hs hc
  go_wp2_with fail
  refine (l20Kind_any _ 0 _ hr (by omega)).mono ?_
  rintro e w2 ⟨kb, rfl, hr2, hg2⟩
  have hx2 := hx1.grown hg2 (by simp; omega)
  have B2 := below_of_grown B1 hg2 (by omega) B1.size
  clear hx1 B1 hg2 hr
  go_wp2_with fail
  refine (oddAt_any _ (0 + 1) _ _ hr2 (by omega) (by omega) (by omega)).mono ?_
  rintro e w3 ⟨q3, rfl, p3, hp3, hr3, hg3⟩
  have hx3 := hx2.grown hg3 (by simp; omega)
  have B3 := below_of_grown B2 hg3 (by omega) B2.size
  clear hx2 B2 hg3 hr2
  have REST : Hid (∀ (W4 : World) (p4 : Nat), p4 ≤ 1000 → Rdr W4 w0.heap.size p4 → RasAtB W4 w.heap.size 0 0 none 0 0 25 → Below w.heap.size w W4 → Calls Try.prog 42 #[.pointer (some ⟨w0.heap.size, 0, none⟩), .int .i64 10] W4 fun e w5 => ∃ A5 c5, ∃ n5 : List UInt8, e = .returned (.slice A5 n5.length c5) ∧ Has w5 w5.heap.size A5 n5 ∧ n5.length ≤ c5 ∧ n5.length ≤ 10 ∧ (∀ b o, A5 = some ⟨b, o, none⟩ → W4.heap.size ≤ b) ∧ (∃ p5, p5 ≤ 2000 ∧ Rdr w5 w0.heap.size p5) ∧ RasAtB w5 w.heap.size 0 0 none 0 0 25 ∧ Below w.heap.size w w5 ∧ W4.heap.size ≤ w5.heap.size) := Lib.hid fun W4 p4 hp4 hr4 hx4 hB4 => (l20Bytes_any w0.heap.size p4 10 10 rfl W4 hr4 (by omega) (by omega)).mono fun e w5 ⟨v, n5, p5, he, ho, hl, hp5, hr5, hg5⟩ => by
    obtain ⟨A5, c5, rfl, hc5, hh5⟩ := ho.has
    exact ⟨A5, c5, n5, he, hh5, hc5, hl, own_block ho, ⟨p5, by omega, hr5⟩, hx4.grown hg5 (by simp; omega), below_of_grown hB4 hg5 (by omega) hB4.size, hg5.size⟩
  have LAST : Hid (∀ (W5 : World) (p5 : Nat) (A5 : Option Addr) (n5 : List UInt8) (D : Nat), p5 ≤ 2000 → Rdr W5 w0.heap.size p5 → RasAtB W5 w.heap.size 0 0 none 0 0 25 → Below w.heap.size w W5 → Has W5 W5.heap.size A5 n5 → (∀ b o, A5 = some ⟨b, o, none⟩ → D ≤ b) → w0.heap.size < D → Calls Try.prog 43 #[.pointer (some ⟨w0.heap.size, 0, none⟩), .int .i64 9] W5 fun e w6 => ∃ W H : Int, ∃ A6 c6, ∃ l6 : List Px, e = .returned (.agg #[.int .i64 W, .int .i64 H, .slice A6 l6.length c6]) ∧ RasAtB w6 w.heap.size 0 0 none 0 0 25 ∧ (Has (((w6.setCell ⟨w.heap.size, 0, none⟩ (.int .i64 W)).setCell ⟨w.heap.size, 1, none⟩ (.int .i64 H)).setCell ⟨w.heap.size, 2, none⟩ (.slice A6 l6.length c6)) (((w6.setCell ⟨w.heap.size, 0, none⟩ (.int .i64 W)).setCell ⟨w.heap.size, 1, none⟩ (.int .i64 H)).setCell ⟨w.heap.size, 2, none⟩ (.slice A6 l6.length c6)).heap.size A5 n5 ∧ HasP (((w6.setCell ⟨w.heap.size, 0, none⟩ (.int .i64 W)).setCell ⟨w.heap.size, 1, none⟩ (.int .i64 H)).setCell ⟨w.heap.size, 2, none⟩ (.slice A6 l6.length c6)) (((w6.setCell ⟨w.heap.size, 0, none⟩ (.int .i64 W)).setCell ⟨w.heap.size, 1, none⟩ (.int .i64 H)).setCell ⟨w.heap.size, 2, none⟩ (.slice A6 l6.length c6)).heap.size A6 l6) ∧ l6.length ≤ c6 ∧ l6.length ≤ 36 ∧ Below w.heap.size w w6) := Lib.hid fun W5 p5 A5 n5 D hp5 hr5 hx5 hB5 hh5 hA5 hD => (l20Ras_any w0.heap.size p5 9 W5 hr5 (by omega) (by omega) (by omega)).mono fun e w6 ⟨W, H, A6, c6, l6, he, hh6, hc6, hl6, _, hg6, hn6⟩ => by
    have hz5 := hr5.lt
    have hz5' := hx5.lt
    have n6 : ∀ b o, A6 = some ⟨b, o, none⟩ → b ≠ w.heap.size := fun b o e => by have := hn6 b o e; omega
    have n5' : ∀ b o, A5 = some ⟨b, o, none⟩ → b ≠ w.heap.size := fun b o e => by have := hA5 b o e; omega
    have n5'' : ∀ b o, A5 = some ⟨b, o, none⟩ → b ≠ w0.heap.size := fun b o e => by have := hA5 b o e; omega
    have h56 : Has w6 w6.heap.size A5 n5 := by
      rcases hh5 with rfl | ⟨b, o, rfl, hb, hcc⟩
      · exact .inl rfl
      · exact .inr ⟨b, o, rfl, Nat.lt_of_lt_of_le hb hg6.size, fun i x hx => (World.cell?_of_block (a := ⟨b, o + i, none⟩) (hg6.block b hb (by intro e; injection e with e; exact n5'' b o rfl e))).trans (hcc i x hx)⟩
    exact ⟨W, H, A6, c6, l6, he, hx5.grown hg6 (by simp; omega), ⟨by simpa using ((h56.set_low n5' 0 (.int .i64 W)).set_low n5' 1 (.int .i64 H)).set_low n5' 2 (.slice A6 l6.length c6), by simpa using ((hh6.set_low n6 0 (.int .i64 W)).set_low n6 1 (.int .i64 H)).set_low n6 2 (.slice A6 l6.length c6)⟩, hc6, hl6, below_of_grown hB5 hg6 (by omega) hB5.size⟩
  cases q3
  · have CB := Lib.hid (REST.out w3 p3 (by omega) hr3 hx3 B3)
    have hz3 := hr3.lt
    clear REST hx3 B3 hr3
    go_wp2_with fail
    refine CB.out.mono ?_
    rintro e w5 ⟨A5, c5, n5, rfl, hh5, hc5, hl5, hA5, ⟨p5, hp5, hr5⟩, hx5, B5, -⟩
    have CL := Lib.hid (LAST.out w5 p5 A5 n5 _ hp5 hr5 hx5 B5 hh5 hA5 hz3)
    clear CB LAST hh5 hr5 hx5 B5 hA5
    go_wp2_with fail
    refine CL.out.mono ?_
    rintro e w6 ⟨W, H, A6, c6, l6, rfl, hx6, hHP, hc6, hl6, B6⟩
    have HX6 := Lib.hid hx6
    have HHP := Lib.hid hHP
    have HB6 := Lib.hid B6
    have r0 := hx6.c0
    have r1 := hx6.c1
    have r2 := hx6.c2
    have f0 := hx6.free 0
    have f1 := hx6.free 1
    have f2 := hx6.free 2
    clear CL hx6 hHP B6
    go_wp2_with fail
    (try simp only [Exit.inBlock, Exit.then])
    refine bodyPost_ret (results_tmp2_row rfl _ _ w.heap.size 25 #[.int .i64 W, .int .i64 H, .slice A6 l6.length c6] (0, 0) _ (.int .u8 (kb.toNat : Int)) (.slice A5 n5.length c5) rfl rfl rfl (fin_ras HX6.out _ _ _) Try.underlying25 rfl (by kernel_rfl)) rfl ?_
    exact ⟨kb, A5, c5, n5, W, H, A6, c6, l6, rfl, HHP.out.1, hc5, hl5, HHP.out.2, hc6, hl6, ((HB6.out.setCell (Nat.le_refl _) _).setCell (Nat.le_refl _) _).setCell (Nat.le_refl _) _⟩
  · have CP := Lib.hid (pick_any w0.heap.size p3 256 w3 hr3 (by omega) (by omega) (by omega))
    have HX3 := Lib.hid hx3
    have HB3 := Lib.hid B3
    clear hx3 B3 hr3
    go_wp2_with fail
    refine CP.out.mono ?_
    rintro e w4 ⟨k4, rfl, hk4, -, hr4, hg4, -⟩
    have hk4' : (k4 : Int) < 256 := hk4 (by omega)
    have hx4 := HX3.out.grown hg4 (by simp; omega)
    have B4 := below_of_grown HB3.out hg4 (by omega) HB3.out.size
    have CB := Lib.hid (REST.out w4 (p3 + 1) (by omega) hr4 hx4 B4)
    have hz4 := hr4.lt
    have HKB := Lib.hid (by_of k4 (by omega))
    clear REST hx4 B4 hr4 hg4 hk4 CP HX3 HB3
    go_wp2_with fail
    refine CB.out.mono ?_
    rintro e w5 ⟨A5, c5, n5, rfl, hh5, hc5, hl5, hA5, ⟨p5, hp5, hr5⟩, hx5, B5, -⟩
    have CL := Lib.hid (LAST.out w5 p5 A5 n5 _ hp5 hr5 hx5 B5 hh5 hA5 hz4)
    clear CB LAST hh5 hr5 hx5 B5 hA5
    go_wp2_with fail
    refine CL.out.mono ?_
    rintro e w6 ⟨W, H, A6, c6, l6, rfl, hx6, hHP, hc6, hl6, B6⟩
    have HX6 := Lib.hid hx6
    have HHP := Lib.hid hHP
    have HB6 := Lib.hid B6
    have r0 := hx6.c0
    have r1 := hx6.c1
    have r2 := hx6.c2
    have f0 := hx6.free 0
    have f1 := hx6.free 1
    have f2 := hx6.free 2
    clear CL hx6 hHP B6
    go_wp2_with fail
    (try simp only [Exit.inBlock, Exit.then])
    refine bodyPost_ret (results_tmp2_row rfl _ _ w.heap.size 25 #[.int .i64 W, .int .i64 H, .slice A6 l6.length c6] (0, 0) _ (.int .u8 (k4 : Int)) (.slice A5 n5.length c5) rfl rfl rfl (fin_ras HX6.out _ _ _) Try.underlying25 rfl (by kernel_rfl)) rfl ?_
    exact ⟨UInt8.ofNat k4, A5, c5, n5, W, H, A6, c6, l6, by rw [HKB.out]; rfl, HHP.out.1, hc5, hl5, HHP.out.2, hc6, hl6, ((HB6.out.setCell (Nat.le_refl _) _).setCell (Nat.le_refl _) _).setCell (Nat.le_refl _) _⟩
end Go.Proofs.Ytnnpjcbdcjdojaa
