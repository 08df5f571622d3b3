/-
  l20Ras draws some raster: at most 36 pixels, in memory that can be read. Condition: fewer than 10^7 draws before.
-/
import Derived.Test.YtiemlakjallphabDoorDrawPix
import Derived.Test.YtiemlakjallphabDoorDrawOdd
import Derived.Test.YtiemlakjallphabDoorPushP
import Derived.Test.YtiemlakjallphabDoorPixO
import Derived.Test.YtiemlakjallphabDoorRasBox
import Derived.Test.YtiemlakjallphabDoorRegT
namespace Go.Proofs.YtiemlakjallphabDoor
set_option maxRecDepth 4000
open Go.RowKit

/-- What l20Ras answers. -/
def DrewR (w : World) (g p : Nat) (e : Ending) (w' : World) : Prop :=
  ∃ W H : Int, ∃ A c, ∃ l : List Px, e = .returned (rasV W H A l.length c) ∧ HasP w' w'.heap.size A l ∧ l.length ≤ c ∧ l.length ≤ 36 ∧ (∃ p', p' ≤ p + 2000 ∧ Rdr w' g p') ∧ w.grownBy w' (some g) ∧ ∀ b o, A = some ⟨b, o, none⟩ → w.heap.size ≤ b
/-- Block g holds a pixel. -/
def PixAtB (w : World) (g : Nat) (q : Px) : Prop := w.heap[g]? = some (.cells #[.int .i64 q.r, .int .i64 q.g, .int .i64 q.b, .int .i64 q.a] 62 (0, 0))
section
variable {w w' : World} {g : Nat} {q : Px}
theorem PixAtB.c0 (h : PixAtB w g q) : w.cell? ⟨g, 0, none⟩ = some (.int .i64 q.r) := by rw [cell_of_row w g 0 _ _ _ h]; rfl
theorem PixAtB.c1 (h : PixAtB w g q) : w.cell? ⟨g, 1, none⟩ = some (.int .i64 q.g) := by rw [cell_of_row w g 1 _ _ _ h]; rfl
theorem PixAtB.c2 (h : PixAtB w g q) : w.cell? ⟨g, 2, none⟩ = some (.int .i64 q.b) := by rw [cell_of_row w g 2 _ _ _ h]; rfl
theorem PixAtB.c3 (h : PixAtB w g q) : w.cell? ⟨g, 3, none⟩ = some (.int .i64 q.a) := by rw [cell_of_row w g 3 _ _ _ h]; rfl
theorem PixAtB.lt (h : PixAtB w g q) : g < w.heap.size := (Array.getElem?_eq_some_iff.1 h).1
theorem PixAtB.free (h : PixAtB w g q) (i : Nat) : w.frozen? ⟨g, i, none⟩ = false := by unfold PixAtB at h; simp [World.frozen?, h]
theorem PixAtB.grown {row : Option Nat} (h : PixAtB w g q) (hg : w.grownBy w' row) (hne : row ≠ some g) : PixAtB w' g q := (hg.block g h.lt (fun e => hne e.symm)).trans h
theorem PixAtB.put (h : PixAtB w g q) (p : Px) : PixAtB ((((w.setCell ⟨g, 0, none⟩ (.int .i64 p.r)).setCell ⟨g, 1, none⟩ (.int .i64 p.g)).setCell ⟨g, 2, none⟩ (.int .i64 p.b)).setCell ⟨g, 3, none⟩ (.int .i64 p.a)) g p := fin_px h p
end
theorem OwnP.keepNe {w w' : World} {base g : Nat} {v : Value} {l : List Px} (h : OwnP w base v l) (hg : w.grownBy w' (some g)) (hb : g < base) : OwnP w' base v l := h.keepRd hg hb
set_option maxHeartbeats 400000 in
theorem odd_any (g p : Nat) (m : Int) (w : World) (h : Rdr w g p) (hp : p ≤ 1000000000) (hm : 0 ≤ m) (hm2 : m ≤ 1000000000) :
    Calls Tryd.prog 58 #[.pointer (some ⟨g, 0, none⟩), .int .i64 m] w fun e w' => ∃ b : Bool, e = .returned (.bool b) ∧ ∃ p', p' ≤ p + 1 ∧ Rdr w' g p' ∧ w.grownBy w' (some g) := by
  by_cases h1 : 1 ≤ m
  · exact oddAt_any g p m w h hp h1 hm2
  · obtain rfl : m = 0 := by omega
    clear h1
    go_enter Tryd.func58, Tryd.ntmps58
    go_wp2_with fail
    go_ret
    exact ⟨_, rfl, p, by omega, h, World.grownBy.refl _ _⟩
theorem HasP.set_ne {w : World} {B R : Nat} {A : Option Addr} {l : List Px} (h : HasP w B A l) (hA : ∀ b o, A = some ⟨b, o, none⟩ → b ≠ R) (i : Nat) (x : Value) : HasP (w.setCell ⟨R, i, none⟩ x) B A l := by
  rcases h with rfl | ⟨b, o, rfl, hb, hc⟩
  · exact .inl rfl
  · exact .inr ⟨b, o, rfl, hb, fun j y hy => (hc j y hy).kept fun q hq => World.cell?_of_block (Below.heap_setCell w _ _ _ (by rw [hq]; exact hA b o rfl))⟩
theorem HasP.tail {w : World} {B b o : Nat} {q : Px} {l : List Px} (h : HasP w B (some ⟨b, o, none⟩) (q :: l)) : HasP w B (some ⟨b, o + 4, none⟩) l := by
  rcases h with h | ⟨b', o', e, hb, hc⟩
  · cases h
  · injection e with e
    injection e with e1 e2 _
    subst e1 e2
    exact .inr ⟨b, o + 4, rfl, hb, fun j y hy => by
      have := hc (j + 1) y (by simpa using hy)
      rw [show o + (j + 1) * 4 = o + 4 + j * 4 from by omega] at this
      exact this⟩
theorem HasP.setG {w : World} {B b o i : Nat} {q : Px} {l : List Px} (h : HasP w B (some ⟨b, o, none⟩) l) (hq : l[i]? = some q) (z : Int) : HasP (w.setCell ⟨b, o + i * 4 + 1, none⟩ (.int .i64 z)) B (some ⟨b, o, none⟩) (l.set i ⟨q.r, z, q.b, q.a⟩) := by
  rcases h with rfl | ⟨b', o', e, hb, hc⟩
  · simp at hq
  · injection e with e
    injection e with e1 e2 _
    subst e1 e2
    refine .inr ⟨b, o, rfl, hb, fun j y hy => ?_⟩
    have other : ∀ k, k ≠ o + i * 4 + 1 → (w.setCell ⟨b, o + i * 4 + 1, none⟩ (.int .i64 z)).cell? ⟨b, k, none⟩ = w.cell? ⟨b, k, none⟩ := fun k hk => by
      apply World.cell?_setCell_other
      intro e
      injection e with _ e2 _
      exact hk e2.symm
    by_cases hji : j = i
    · subst hji
      have hil : j < l.length := (List.getElem?_eq_some_iff.1 hq).1
      rw [List.getElem?_set_self hil] at hy
      injection hy with hy
      subst hy
      obtain ⟨c0, c1, c2, c3⟩ := hc j q hq
      exact ⟨(other _ (by omega)).trans c0, World.cell?_setCell_same w _ _ c1, (other _ (by omega)).trans c2, (other _ (by omega)).trans c3⟩
    · rw [List.getElem?_set_ne (Ne.symm hji)] at hy
      obtain ⟨c0, c1, c2, c3⟩ := hc j y hy
      exact ⟨(other _ (by omega)).trans c0, (other _ (by omega)).trans c1, (other _ (by omega)).trans c2, (other _ (by omega)).trans c3⟩
/-- The state of the draw of a raster after k pixels: R the result, X the raster, L the last pixel. -/
def RasSt (w0 : World) (g R X L B : Nat) (W H : Int) (N k : Nat) (w : World) : Prop :=
  ∃ A c, ∃ l : List Px, ∃ q p', l.length = k ∧ RasAtB w R 0 0 none 0 0 30 ∧ RasAtB w X W H A k c 30 ∧ PixAtB w L q ∧ OwnP w B (.slice A k c) l ∧ Rdr w g p' ∧ p' ≤ N + 29 * k ∧ w0.grownBy w (some g) ∧ B ≤ w.heap.size
set_option maxHeartbeats 4000000 in
theorem l20Ras_any (g p : Nat) (n : Int) (w : World) (h : Rdr w g p) (hp : p ≤ 10000000) (hn : 0 ≤ n) (hn2 : n ≤ 1000000000) :
    Calls Tryd.prog 51 #[.pointer (some ⟨g, 0, none⟩), .int .i64 n] w (DrewR w g p) := by
  have hgw := h.lt
  have hR0 : RasAtB (w.alloc (.cells #[.int .i64 0, .int .i64 0, .slice none 0 0] 30)) w.heap.size 0 0 none 0 0 30 := heap_alloc_new w _
  have hG0 : w.grownBy (w.alloc (.cells #[.int .i64 0, .int .i64 0, .slice none 0 0] 30)) (some g) := World.grownBy_alloc w _ _
  have hr0 := h.alloc (.cells #[.int .i64 0, .int .i64 0, .slice none 0 0] 30)
  go_enter Tryd.func51, Tryd.ntmps51
  go_wp2_with fail
  generalize w.alloc (.cells #[.int .i64 0, .int .i64 0, .slice none 0 0] 30) = w0 at *
  obtain ⟨R, hRR, hRg⟩ : ∃ R, w.heap.size = R ∧ g < R := ⟨_, rfl, hgw⟩
  rw [hRR] at hR0 ⊢
  refine (pick_any g p _ _ hr0 (by omega) (by omega) (by omega)).mono ?_
  rintro e w1 ⟨k1, rfl, hk1, -, hr1, hg1, -⟩
  have hk1' : (k1 : Int) < 6 := hk1 (by omega)
  have hR1 := hR0.grown hg1 (by simp; omega)
  have hG1 := grown_trans hG0 hg1
  clear hk1 hr0 hg1 hR0 hG0
  go_wp2_with fail
  refine (pick_any g (p + 1) _ _ hr1 (by omega) (by omega) (by omega)).mono ?_
  rintro e w2 ⟨k2, rfl, hk2, -, hr2, hg2, -⟩
  have hk2' : (k2 : Int) < 6 := hk2 (by omega)
  have hR2 := hR1.grown hg2 (by simp; omega)
  have hG2 := grown_trans hG1 hg2
  have hrz := hR2.lt
  have hX3 : RasAtB (w2.alloc (.cells #[.int .i64 (1 + (k1 : Int)), .int .i64 (1 + (k2 : Int)), .slice none 0 0] 30)) w2.heap.size (1 + k1) (1 + k2) none 0 0 30 := heap_alloc_new w2 _
  have hR3 := hR2.grown (World.grownBy_alloc w2 (.cells #[.int .i64 (1 + (k1 : Int)), .int .i64 (1 + (k2 : Int)), .slice none 0 0] 30) (some g)) (by simp; omega)
  have hG3 := grown_trans hG2 (World.grownBy_alloc w2 (.cells #[.int .i64 (1 + (k1 : Int)), .int .i64 (1 + (k2 : Int)), .slice none 0 0] 30) (some g))
  have hr3 := hr2.alloc (.cells #[.int .i64 (1 + (k1 : Int)), .int .i64 (1 + (k2 : Int)), .slice none 0 0] 30)
  obtain ⟨X, hXX, hXR⟩ : ∃ X, w2.heap.size = X ∧ R < X := ⟨_, rfl, hrz⟩
  rw [hXX] at hX3
  clear hk2 hg2 hr1 hr2 hR1 hR2 hG1 hG2
  go_wp2_with fail
  try rw [hXX]
  generalize w2.alloc (.cells #[.int .i64 (1 + (k1 : Int)), .int .i64 (1 + (k2 : Int)), .slice none 0 0] 30) = w3 at *
  refine (l20Pix_any g (p + 1 + 1) _ hr3 (by omega)).mono ?_
  rintro e w4 ⟨q, rfl, -, ⟨p4, hp4, hr4⟩, hg4⟩
  have hX4 := hX3.grown hg4 (by simp; omega)
  have hR4 := hR3.grown hg4 (by simp; omega)
  have hG4 := grown_trans hG3 hg4
  have hL5 : PixAtB (w4.alloc (.cells #[.int .i64 q.r, .int .i64 q.g, .int .i64 q.b, .int .i64 q.a] 62)) w4.heap.size q := heap_alloc_new w4 _
  have hX5 := hX4.grown (World.grownBy_alloc w4 (.cells #[.int .i64 q.r, .int .i64 q.g, .int .i64 q.b, .int .i64 q.a] 62) (some g)) (by simp; omega)
  have hR5 := hR4.grown (World.grownBy_alloc w4 (.cells #[.int .i64 q.r, .int .i64 q.g, .int .i64 q.b, .int .i64 q.a] 62) (some g)) (by simp; omega)
  have hG5 := grown_trans hG4 (World.grownBy_alloc w4 (.cells #[.int .i64 q.r, .int .i64 q.g, .int .i64 q.b, .int .i64 q.a] 62) (some g))
  have hr5 := hr4.alloc (.cells #[.int .i64 q.r, .int .i64 q.g, .int .i64 q.b, .int .i64 q.a] 62)
  obtain ⟨L, hLL, hXL⟩ : ∃ L, w4.heap.size = L ∧ X < L := ⟨_, rfl, hX4.lt⟩
  rw [hLL] at hL5
  unfold Px.v
  clear hg4 hr3 hr4 hX3 hX4 hR3 hR4 hG3 hG4 h
  go_wp2_with fail
  try rw [hLL]
  generalize w4.alloc (.cells #[.int .i64 q.r, .int .i64 q.g, .int .i64 q.b, .int .i64 q.a] 62) = w5 at *
  obtain ⟨W, hW⟩ : ∃ W, 1 + (k1 : Int) = W := ⟨_, rfl⟩
  obtain ⟨H, hH⟩ : ∃ H, 1 + (k2 : Int) = H := ⟨_, rfl⟩
  have hWb : 1 ≤ W ∧ W ≤ 6 := by omega
  have hHb : 1 ≤ H ∧ H ≤ 6 := by omega
  have h36 := mul36 hWb hHb
  obtain ⟨N, hN⟩ : ∃ N : Nat, W * H = (N : Int) := ⟨(W * H).toNat, by omega⟩
  have hN36 : N ≤ 36 := by omega
  have hN1 : 1 ≤ N := by omega
  have hwr : wrap64 (W * H) = (N : Int) := by rw [hN]; unfold wrap64; omega
  rw [hW, hH] at hX5
  have HST : Hid (RasSt w g R X L w5.heap.size W H (p + 30) 0 w5) := Lib.hid ⟨none, 0, [], q, p4, rfl, hR5, hX5, hL5, ownP_nil _ _, hr5, by omega, hG5, Nat.le_refl _⟩
  have hLz := hL5.lt
  rw [hW, hH]
  have HN := Lib.hid hN
  clear hR5 hX5 hL5 hr5 hG5 hN h36 hW hH
  go_loopw [7] (fun i wr => ∃ k : Nat, k ≤ N ∧ i = .int .i64 k ∧ RasSt w g R X L w5.heap.size W H (p + 30) k wr) (fun i _ => N - (intOf i).toNat)
  case atStart => exact ⟨0, Nat.zero_le _, rfl, HST.out⟩
  case round =>
    obtain ⟨k, hk, rfl, A, c, l, q, p', hl, hR, hX, hL, hown, hrd, hp', hG, hz⟩ := hrel
    have x0 := hX.c0
    have x1 := hX.c1
    have x2 := hX.c2
    by_cases hlt : k < N
    · go_wp2_with fail
      refine (pick_any g p' _ _ hrd (by omega) (by omega) (by omega)).mono ?_
      rintro e wa ⟨k3, rfl, -, -, hrA, hgA, -⟩
      have hRa := hR.grown hgA (by simp; omega)
      have hXa := hX.grown hgA (by simp; omega)
      have hLa := hL.grown hgA (by simp; omega)
      have hownA := hown.keepRd hgA (by omega)
      have hGa := grown_trans hG hgA
      have hzA := Nat.le_trans hz hgA.size
      clear hR hX hL hown hG hz hgA hrd x0 x1 x2
      by_cases h3 : 0 < (k3 : Int)
      · go_wp2_with fail
        refine (l20Pix_any g (p' + 1) _ hrA (by omega)).mono ?_
        rintro e wb ⟨qb, rfl, -, ⟨pb, hpb, hrB⟩, hgB⟩
        have hXb := hXa.grown hgB (by simp; omega)
        have hLb := hLa.grown hgB (by simp; omega)
        have hRs := (((hRa.grown hgB (by simp; omega)).set_other (b := L) (by omega) 0 (.int .i64 qb.r)).set_other (b := L) (by omega) 1 (.int .i64 qb.g)).set_other (b := L) (by omega) 2 (.int .i64 qb.b) |>.set_other (b := L) (by omega) 3 (.int .i64 qb.a)
        have hXs := ((hXb.set_other (b := L) (by omega) 0 (.int .i64 qb.r)).set_other (b := L) (by omega) 1 (.int .i64 qb.g)).set_other (b := L) (by omega) 2 (.int .i64 qb.b) |>.set_other (b := L) (by omega) 3 (.int .i64 qb.a)
        have hLs := hLb.put qb
        have hownS := OwnP.set_low (OwnP.set_low (OwnP.set_low (OwnP.set_low (hownA.keepRd hgB (by omega)) hLz 0 (.int .i64 qb.r)) hLz 1 (.int .i64 qb.g)) hLz 2 (.int .i64 qb.b)) hLz 3 (.int .i64 qb.a)
        have hGs := grown_own (grown_trans hGa hgB) (grown_px wb L (.int .i64 qb.r) (.int .i64 qb.g) (.int .i64 qb.b) (.int .i64 qb.a)) (fun b hb => by injection hb with hb; omega)
        have hrS : Rdr ((((wb.setCell ⟨L, 0, none⟩ (.int .i64 qb.r)).setCell ⟨L, 1, none⟩ (.int .i64 qb.g)).setCell ⟨L, 2, none⟩ (.int .i64 qb.b)).setCell ⟨L, 3, none⟩ (.int .i64 qb.a)) g pb := hrB.kept (fun j hj => by
          have := hrB.lt
          rw [Below.heap_setCell _ _ _ j (by simp; omega), Below.heap_setCell _ _ _ j (by simp; omega), Below.heap_setCell _ _ _ j (by simp; omega), Below.heap_setCell _ _ _ j (by simp; omega)])
        have hzS : w5.heap.size ≤ wb.heap.size := Nat.le_trans hzA hgB.size
        have l0 := hLb.c0
        have l1 := hLb.c1
        have l2 := hLb.c2
        have l3 := hLb.c3
        have lf0 := hLb.free 0
        have lf1 := hLb.free 1
        have lf2 := hLb.free 2
        have lf3 := hLb.free 3
        have x2 := hXb.c2
        have hne : ¬ X = L := by omega
        unfold Px.v
        clear hRa hXa hLa hownA hGa hgB hrA hrB hXb hLb
        have HOs := Lib.hid hownS
        have HXs := Lib.hid hXs
        have HRs := Lib.hid hRs
        have HLs := Lib.hid hLs
        have HrS := Lib.hid hrS
        have HGs := Lib.hid hGs
        have sz : Hid (((((wb.setCell ⟨L, 0, none⟩ (.int .i64 qb.r)).setCell ⟨L, 1, none⟩ (.int .i64 qb.g)).setCell ⟨L, 2, none⟩ (.int .i64 qb.b)).setCell ⟨L, 3, none⟩ (.int .i64 qb.a)).heap.size = wb.heap.size) := Lib.hid (by simp)
        have hll : l.length + 1 ≤ 1073741824 := by omega
        have hbS : Hid (w5.heap.size ≤ ((((wb.setCell ⟨L, 0, none⟩ (.int .i64 qb.r)).setCell ⟨L, 1, none⟩ (.int .i64 qb.g)).setCell ⟨L, 2, none⟩ (.int .i64 qb.b)).setCell ⟨L, 3, none⟩ (.int .i64 qb.a)).heap.size) := Lib.hid (by rw [sz.out]; exact hzS)
        clear hownS hXs hRs hLs hrS hGs
        go_wp2_with (at_builtin; refine wpList_pushP rfl (.tmp 32) (.tmp 34) rfl w5.heap.size (.slice A k c) l rfl HOs.out qb wb.heap.size sz.out rfl hll hbS.out ?_; intro g6 c6 w6 ho6 hg6 h6; have hXg := Lib.hid ((HXs.out.grown (World.grownBy_alloc ((((wb.setCell ⟨L, 0, none⟩ (.int .i64 qb.r)).setCell ⟨L, 1, none⟩ (.int .i64 qb.g)).setCell ⟨L, 2, none⟩ (.int .i64 qb.b)).setCell ⟨L, 3, none⟩ (.int .i64 qb.a)) (.cells #[.int .i64 qb.r, .int .i64 qb.g, .int .i64 qb.b, .int .i64 qb.a] 62) none) (by simp)).grown hg6 (fun e => by have := (World.ownsRow.lt HOs.out _ e).1; omega)); have x62 := hXg.out.c2; have x6f := hXg.out.free 2)
        have hB6 : ∀ b, b < w5.heap.size → (Value.slice A k c).ownBlock ≠ some b := fun b hb e => by have := (World.ownsRow.lt HOs.out _ e).1; omega
        have hRg := (HRs.out.grown (World.grownBy_alloc ((((wb.setCell ⟨L, 0, none⟩ (.int .i64 qb.r)).setCell ⟨L, 1, none⟩ (.int .i64 qb.g)).setCell ⟨L, 2, none⟩ (.int .i64 qb.b)).setCell ⟨L, 3, none⟩ (.int .i64 qb.a)) (.cells #[.int .i64 qb.r, .int .i64 qb.g, .int .i64 qb.b, .int .i64 qb.a] 62) none) (by simp)).grown hg6 (hB6 R (by omega))
        have hLg := (HLs.out.grown (World.grownBy_alloc ((((wb.setCell ⟨L, 0, none⟩ (.int .i64 qb.r)).setCell ⟨L, 1, none⟩ (.int .i64 qb.g)).setCell ⟨L, 2, none⟩ (.int .i64 qb.b)).setCell ⟨L, 3, none⟩ (.int .i64 qb.a)) (.cells #[.int .i64 qb.r, .int .i64 qb.g, .int .i64 qb.b, .int .i64 qb.a] 62) none) (by simp)).grown hg6 (hB6 L (by omega))
        have hrg := (HrS.out.alloc (.cells #[.int .i64 qb.r, .int .i64 qb.g, .int .i64 qb.b, .int .i64 qb.a] 62)).grown hg6 (fun j hj => by have := (World.ownsRow.lt HOs.out _ hj).1; omega)
        have hGg := grown_own (grown_trans HGs.out (World.grownBy_alloc ((((wb.setCell ⟨L, 0, none⟩ (.int .i64 qb.r)).setCell ⟨L, 1, none⟩ (.int .i64 qb.g)).setCell ⟨L, 2, none⟩ (.int .i64 qb.b)).setCell ⟨L, 3, none⟩ (.int .i64 qb.a)) (.cells #[.int .i64 qb.r, .int .i64 qb.g, .int .i64 qb.b, .int .i64 qb.a] 62) (some g))) hg6 (fun b hb => by have := (World.ownsRow.lt HOs.out _ hb).1; omega)
        have hz6 : w5.heap.size ≤ w6.heap.size := Nat.le_trans hbS.out (Nat.le_trans (by simp) hg6.size)
        have hg6l : w5.heap.size ≤ g6 := (World.ownsRow.lt ho6 g6 rfl).1
        rw [hl] at ho6
        have HST6 : Hid (RasSt w g R X L w5.heap.size W H (p + 30) (k + 1) (w6.setCell ⟨X, 2, none⟩ (.slice (some ⟨g6, 0, none⟩) (k + 1) c6))) := Lib.hid ⟨some ⟨g6, 0, none⟩, c6, l ++ [qb], qb, pb, by simp [hl], hRg.set_other (by omega) 2 _, hXg.out.set2 _ _ _, (Below.heap_setCell w6 _ _ L (by simp; omega)).trans hLg, OwnP.set_low ho6 (by omega) 2 _, hrg.kept (fun j hj => Below.heap_setCell w6 _ _ j (by simp; omega)), by omega, grown_own hGg (grown_cell w6 X 2 _) (fun b hb => by injection hb with hb; omega), by simpa using hz6⟩
        clear ho6 hg6 h6 hRg hLg hrg hGg HOs HXs HRs HLs HrS HGs hB6
        go_roundw
        case rel => exact ⟨k + 1, by omega, by go_num, HST6.out⟩
        case measure => simp [intOf]; omega
      · have hk30 : ¬ (0 < (k3 : Int)) := h3
        have hzS := hzA
        have x2 := hXa.c2
        have l0 := hLa.c0
        have l1 := hLa.c1
        have l2 := hLa.c2
        have l3 := hLa.c3
        have hRs := hRa
        have hXs := hXa
        have hLs := hLa
        have hownS := hownA
        have hGs := hGa
        have hrS := hrA
        clear hRa hXa hLa hownA hGa hrA
        have HOs := Lib.hid hownS
        have HXs := Lib.hid hXs
        have HRs := Lib.hid hRs
        have HLs := Lib.hid hLs
        have HrS := Lib.hid hrS
        have HGs := Lib.hid hGs
        have hll : l.length + 1 ≤ 1073741824 := by omega
        have hbS : Hid (w5.heap.size ≤ wa.heap.size) := Lib.hid hzS
        clear hownS hXs hRs hLs hrS hGs
        go_wp2_with (at_builtin; refine wpList_pushP rfl (.tmp 32) (.tmp 34) rfl w5.heap.size (.slice A k c) l rfl HOs.out q wa.heap.size rfl rfl hll hbS.out ?_; intro g6 c6 w6 ho6 hg6 h6; have hXg := Lib.hid ((HXs.out.grown (World.grownBy_alloc wa (.cells #[.int .i64 q.r, .int .i64 q.g, .int .i64 q.b, .int .i64 q.a] 62) none) (by simp)).grown hg6 (fun e => by have := (World.ownsRow.lt HOs.out _ e).1; omega)); have x62 := hXg.out.c2; have x6f := hXg.out.free 2)
        have hB6 : ∀ b, b < w5.heap.size → (Value.slice A k c).ownBlock ≠ some b := fun b hb e => by have := (World.ownsRow.lt HOs.out _ e).1; omega
        have hRg := (HRs.out.grown (World.grownBy_alloc wa (.cells #[.int .i64 q.r, .int .i64 q.g, .int .i64 q.b, .int .i64 q.a] 62) none) (by simp)).grown hg6 (hB6 R (by omega))
        have hLg := (HLs.out.grown (World.grownBy_alloc wa (.cells #[.int .i64 q.r, .int .i64 q.g, .int .i64 q.b, .int .i64 q.a] 62) none) (by simp)).grown hg6 (hB6 L (by omega))
        have hrg := (HrS.out.alloc (.cells #[.int .i64 q.r, .int .i64 q.g, .int .i64 q.b, .int .i64 q.a] 62)).grown hg6 (fun j hj => by have := (World.ownsRow.lt HOs.out _ hj).1; omega)
        have hGg := grown_own (grown_trans HGs.out (World.grownBy_alloc wa (.cells #[.int .i64 q.r, .int .i64 q.g, .int .i64 q.b, .int .i64 q.a] 62) (some g))) hg6 (fun b hb => by have := (World.ownsRow.lt HOs.out _ hb).1; omega)
        have hz6 : w5.heap.size ≤ w6.heap.size := Nat.le_trans hbS.out (Nat.le_trans (by simp) hg6.size)
        have hg6l : w5.heap.size ≤ g6 := (World.ownsRow.lt ho6 g6 rfl).1
        rw [hl] at ho6
        have HST6 : Hid (RasSt w g R X L w5.heap.size W H (p + 30) (k + 1) (w6.setCell ⟨X, 2, none⟩ (.slice (some ⟨g6, 0, none⟩) (k + 1) c6))) := Lib.hid ⟨some ⟨g6, 0, none⟩, c6, l ++ [q], q, (p' + 1), by simp [hl], hRg.set_other (by omega) 2 _, hXg.out.set2 _ _ _, (Below.heap_setCell w6 _ _ L (by simp; omega)).trans hLg, OwnP.set_low ho6 (by omega) 2 _, hrg.kept (fun j hj => Below.heap_setCell w6 _ _ j (by simp; omega)), by omega, grown_own hGg (grown_cell w6 X 2 _) (fun b hb => by injection hb with hb; omega), by simpa using hz6⟩
        clear ho6 hg6 h6 hRg hLg hrg hGg HOs HXs HRs HLs HrS HGs hB6
        go_roundw
        case rel => exact ⟨k + 1, by omega, by go_num, HST6.out⟩
        case measure => simp [intOf]; omega
    · obtain rfl : k = N := by omega
      clear hk hXX hLL HN HST
      have HAne : Hid (∀ b o, A = some ⟨b, o, none⟩ → R < b ∧ X < b) := Lib.hid fun b o e => by
        subst e
        rcases hown.2 with ⟨e, -⟩ | ⟨g', cap, cur, e, hb, -⟩
        · cases e
        · injection e with e _ _
          injection e with e
          injection e with e1 e2 _
          subst e1 e2
          exact ⟨by omega, by omega⟩
      have hasl : HasP wr wr.heap.size A l := hown.reads
      have hlc : l.length ≤ c := by
        obtain ⟨A', c', e, hc', -⟩ := hown.has
        injection e with _ _ e
        omega
      have FIN : Hid (∀ (W1 : World) (W' H' : Int) (A' : Option Addr) (c' : Nat) (l' : List Px) (p'' : Nat), RasAtB W1 R 0 0 none 0 0 30 → HasP W1 W1.heap.size A' l' → (∀ b o, A' = some ⟨b, o, none⟩ → R < b) → l'.length ≤ c' → l'.length ≤ 36 → Rdr W1 g p'' → p'' ≤ p + 2000 → w.grownBy W1 (some g) →
          RasAtB (((W1.setCell ⟨R, 0, none⟩ (.int .i64 W')).setCell ⟨R, 1, none⟩ (.int .i64 H')).setCell ⟨R, 2, none⟩ (.slice A' l'.length c')) R W' H' A' l'.length c' 30 ∧ DrewR w g p (.returned (.agg #[.int .i64 W', .int .i64 H', .slice A' l'.length c'])) (((W1.setCell ⟨R, 0, none⟩ (.int .i64 W')).setCell ⟨R, 1, none⟩ (.int .i64 H')).setCell ⟨R, 2, none⟩ (.slice A' l'.length c'))) := Lib.hid fun W1 W' H' A' c' l' p'' h1 h2 h3 h4 h5 h6 h7 h8 => ⟨fin_ras h1 _ _ _, W', H', A', c', l', rfl, by simpa using ((h2.set_ne (fun b o e => Nat.ne_of_gt (h3 b o e)) 0 (.int .i64 W')).set_ne (fun b o e => Nat.ne_of_gt (h3 b o e)) 1 (.int .i64 H')).set_ne (fun b o e => Nat.ne_of_gt (h3 b o e)) 2 (.slice A' l'.length c'), h4, h5, ⟨p'', h7, h6.kept (fun j hj => by
          rw [Below.heap_setCell _ _ _ j (by simp; omega), Below.heap_setCell _ _ _ j (by simp; omega), Below.heap_setCell _ _ _ j (by simp; omega)])⟩, grown_own (grown_own (grown_own h8 (grown_cell W1 R 0 _) (fun b hb => by injection hb with hb; omega)) (grown_cell _ R 1 _) (fun b hb => by injection hb with hb; omega)) (grown_cell _ R 2 _) (fun b hb => by injection hb with hb; omega), fun b o e => by have := h3 b o e; omega⟩
      go_wp2_with fail
      refine (odd_any g p' _ _ hrd (by omega) hn hn2).mono ?_
      rintro e wo ⟨bo, rfl, po, hpo, hro, hgo⟩
      have hRo := hR.grown hgo (by simp; omega)
      have hXo := hX.grown hgo (by simp; omega)
      have howno := hown.keepRd hgo (by omega)
      have haso := howno.reads
      have hGo := grown_trans hG hgo
      have hzo := Nat.le_trans hz hgo.size
      clear hR hX hL hown hG hz hrd hgo x0 x1 x2 hasl hwr hlt
      cases bo
      · have HF := Lib.hid (FIN.out wo W H A c l po hRo haso (fun b o e => (HAne.out b o e).1) hlc (by omega) hro (by omega) hGo)
        rw [hl] at HF
        have r0 := hRo.c0
        have r1 := hRo.c1
        have r2 := hRo.c2
        have rf0 := hRo.free 0
        have rf1 := hRo.free 1
        have rf2 := hRo.free 2
        have x0 := hXo.c0
        have x1 := hXo.c1
        have x2 := hXo.c2
        have hne : ¬ R = X := by omega
        clear FIN hRo hXo howno haso hGo hro
        go_wp2_with fail
        (try simp only [Exit.inBlock, Exit.then])
        exact bodyPost_ret (results_cell_row rfl _ _ R 30 #[.int .i64 W, .int .i64 H, .slice A k c] (0, 0) _ rfl HF.out.1 Tryd.underlying30 rfl (by kernel_rfl)) rfl HF.out.2
      · go_wp2_with fail
        refine (pick_any g po _ _ hro (by omega) (by omega) (by omega)).mono ?_
        rintro e wp ⟨k4, rfl, hk4, -, hrp, hgp, -⟩
        have hk4' : (k4 : Int) < 4 := hk4 (by omega)
        have hRp := hRo.grown hgp (by simp; omega)
        have hXp := hXo.grown hgp (by simp; omega)
        have hownp := howno.keepRd hgp (by omega)
        have hGp := grown_trans hGo hgp
        have hzp := Nat.le_trans hzo hgp.size
        have hnXR : ¬ X = R := by omega
        have hnRX : ¬ R = X := by omega
        clear hRo hXo howno haso hGo hro hgp hk4 hzo
        have h4 : k4 = 0 ∨ k4 = 1 ∨ k4 = 2 ∨ k4 = 3 := by omega
        rcases h4 with rfl | rfl | rfl | rfl
        · have hw7 := IntWalk.i64_in (W + 1) (by omega)
          have hXd := hXp.drew1
          have hRd := hRp.drew1
          have hownd := hownp.drewN 1
          have hGd := grown_trans hGp (grown_drew1 wp (some g))
          have hrd := hrp.drewN 1
          have hgz := hrp.lt
          have HS0 : wp.drew.cell? ⟨X, 0, none⟩ = some (.int .i64 W) := hXp.c0
          have hXzz := hXp.lt
          have hnX : ¬ X = wp.heap.size := by omega
          go_wp2_with fail
          refine wp_region_T (fun w' => w'.cell? ⟨X, 0, none⟩ = some (.int .i64 W)) 9 (by kernel_rfl) ?_
          refine wpAnyT_take (i := 0) (d := 58) (v := .pointer (some ⟨X, 0, none⟩)) rfl rfl (by kernel_rfl) (by kernel_rfl) (by kernel_rfl) (by kernel_rfl) (by kernel_rfl) (fun _ _ _ h => h) HS0 (Or.inl ⟨by rfl, fun w' hS' => ?_⟩) ?_
          · go_simp
          simp only [Act.put, List.setIfInBounds_toArray, List.set_cons_zero, List.set_cons_succ]
          refine wpAnyT_take (i := 1) (d := 59) (v := .int .i64 W) rfl rfl (by kernel_rfl) (by kernel_rfl) (by kernel_rfl) (by kernel_rfl) (by kernel_rfl) (fun _ _ _ h => h) HS0 (Or.inl ⟨by rfl, fun w' hS' => ?_⟩) ?_
          · go_simp
          simp only [Act.put, List.setIfInBounds_toArray, List.set_cons_zero, List.set_cons_succ]
          refine wpAnyT_take (i := 2) (d := 60) (v := .int .i64 (W + 1)) rfl rfl (by kernel_rfl) (by kernel_rfl) (by kernel_rfl) (by kernel_rfl) (by kernel_rfl) (fun _ _ _ h => h) HS0 (Or.inl ⟨by rfl, fun w' hS' => ?_⟩) ?_
          · go_simp
          simp only [Act.put, List.setIfInBounds_toArray, List.set_cons_zero, List.set_cons_succ]
          refine wpAnyT_take (i := 4) (d := 62) (v := .pointer (some ⟨g, 0, none⟩)) rfl rfl (by kernel_rfl) (by kernel_rfl) (by kernel_rfl) (by kernel_rfl) (by kernel_rfl) (fun _ _ _ h => h) HS0 (Or.inl ⟨by rfl, fun w' hS' => ?_⟩) ?_
          · go_simp
          simp only [Act.put, List.setIfInBounds_toArray, List.set_cons_zero, List.set_cons_succ]
          refine wpAnyT_two (i := 3) (j := 5) (by kernel_rfl) rfl rfl (fun K hK => ?_) (fun K hK => ?_)
          · have hX5 : RasAtB (wp.alloc (.cells #[.int .i64 0, .int .i64 (-1), .int .i64 7, .int .i64 (W + 1)] 3)).drew X W H A k c 30 := (hXp.grown (World.grownBy_alloc wp (.cells #[.int .i64 0, .int .i64 (-1), .int .i64 7, .int .i64 (W + 1)] 3) none) (by simp)).drew1
            have hR5 : RasAtB (wp.alloc (.cells #[.int .i64 0, .int .i64 (-1), .int .i64 7, .int .i64 (W + 1)] 3)).drew R 0 0 none 0 0 30 := (hRp.grown (World.grownBy_alloc wp (.cells #[.int .i64 0, .int .i64 (-1), .int .i64 7, .int .i64 (W + 1)] 3) none) (by simp)).drew1
            have hown5 : OwnP (wp.alloc (.cells #[.int .i64 0, .int .i64 (-1), .int .i64 7, .int .i64 (W + 1)] 3)).drew w5.heap.size (.slice A k c) l := (show OwnP (wp.alloc (.cells #[.int .i64 0, .int .i64 (-1), .int .i64 7, .int .i64 (W + 1)] 3)) w5.heap.size (.slice A k c) l from World.ownsRow.alloc hownp _)
            have hG5 : w.grownBy (wp.alloc (.cells #[.int .i64 0, .int .i64 (-1), .int .i64 7, .int .i64 (W + 1)] 3)).drew (some g) := grown_trans (grown_trans hGp (World.grownBy_alloc wp (.cells #[.int .i64 0, .int .i64 (-1), .int .i64 7, .int .i64 (W + 1)] 3) (some g))) (grown_drew1 _ _)
            have hr5 : Rdr (wp.alloc (.cells #[.int .i64 0, .int .i64 (-1), .int .i64 7, .int .i64 (W + 1)] 3)).drew g (po + 1) := (hrp.alloc (.cells #[.int .i64 0, .int .i64 (-1), .int .i64 7, .int .i64 (W + 1)] 3)).drewN 1
            have S5 := Lib.hid hX5.c0
            go_simp
            refine hK.out _ _ (fun _ => S5.out) ?_
            clear hK
            refine wpAnyT_one (i := 5) (by kernel_rfl) rfl (fun K hK => ?_)
            go_simp
            refine (pick_any g (po + 1) _ _ hr5 (by omega) (by omega) (by omega)).mono ?_
            rintro e w6 ⟨k5, rfl, hk5, -, hr6, hg6, -⟩
            have hk5' : (k5 : Int) < 4 := hk5 (by omega)
            obtain ⟨z, hz⟩ : ∃ z : Int, w6.cell? ⟨wp.heap.size, k5, none⟩ = some (.int .i64 z) := by
              obtain ⟨s, e, _, _, ht⟩ := Slot.stays (tab_new (n := 4) (R := fun _ => True) (t := 3) (w := wp) #[.int .i64 0, .int .i64 (-1), .int .i64 7, .int .i64 (W + 1)] hgz (fun j hj => by
                match j, hj with
                | 0, _ => exact ⟨_, rfl, trivial⟩
                | 1, _ => exact ⟨_, rfl, trivial⟩
                | 2, _ => exact ⟨_, rfl, trivial⟩
                | 3, _ => exact ⟨_, rfl, trivial⟩)) (show (wp.alloc (.cells #[.int .i64 0, .int .i64 (-1), .int .i64 7, .int .i64 (W + 1)] 3)).grownBy w6 (some g) from grown_trans (grown_drew1 _ _) hg6)
              injection e with e1 _ _
              injection e1 with e1
              injection e1 with e1 _ _
              rw [e1]
              obtain ⟨z, hz, _⟩ := ht k5 (by omega)
              exact ⟨z, hz⟩
            have hX6 := hX5.grown hg6 (by simp; omega)
            have hR6 := hR5.grown hg6 (by simp; omega)
            have hown6 := hown5.keepRd hg6 (by omega)
            have hG6 := grown_trans hG5 hg6
            refine hK.out _ _ (fun _ => hX6.c0) ?_
            clear hK hX5 hR5 hown5 hG5 hr5 S5 hg6 hk5 hXd hRd hownd hGd hrd HS0 hXp hRp hownp hGp hrp
            have pk5 : 0 ≤ (k5 : Int) ∧ (k5 : Int) < 4 := by omega
            have S6 := Lib.hid hX6.c0
            have y0 := hX6.c0
            have y1 := hX6.c1
            have y2 := hX6.c2
            have yf := hX6.free 0
            have hXz := hX6.lt
            have hRe := hR6.set_other (b := X) (by omega) 0 (.int .i64 z)
            have hre : Rdr (w6.setCell ⟨X, 0, none⟩ (.int .i64 z)) g (po + 1 + 1) := hr6.kept (fun j hj => Below.heap_setCell w6 _ _ j (by simp; omega))
            have hGe := grown_own hG6 (grown_cell w6 X 0 (.int .i64 z)) (fun b hb => by injection hb with hb; omega)
            have hase := (OwnP.set_low hown6 (b := X) (by omega) 0 (.int .i64 z)).reads
            have HF := Lib.hid (FIN.out _ z H A c l (po + 1 + 1) hRe hase (fun b o e => (HAne.out b o e).1) hlc (by omega) hre (by omega) hGe)
            rw [hl] at HF
            have hR60 := hR6.c0
            have hR61 := hR6.c1
            have hR62 := hR6.c2
            have hRf0 := hR6.free 0
            have hRf1 := hR6.free 1
            have hRf2 := hR6.free 2
            clear FIN hX6 hR6 hown6 hG6 hr6 hRe hre hGe hase
            refine wpAnyT_one (i := 6) (by kernel_rfl) rfl (fun K hK => ?_)
            go_simp
            refine hK.out _ _ (fun _ => S6.out) ?_
            clear hK
            refine wpAnyT_one (i := 7) (by kernel_rfl) rfl (fun K hK => ?_)
            go_simp
            refine hK.out _ _ (fun _ => S6.out) ?_
            clear hK
            refine wpAnyT_one (i := 8) (by kernel_rfl) rfl (fun K hK => ?_)
            go_simp
            refine hK.out _ _ (fun _ => S6.out) ?_
            clear hK
            refine wpAnyT_one (i := 9) (by kernel_rfl) rfl (fun K hK => ?_)
            go_simp
            refine hK.out _ _ (fun h => last_out h) ?_
            clear hK S6
            refine wpAnyT_done (by kernel_rfl) ?_ _
            go_wp2_with fail
            (try simp only [Exit.inBlock, Exit.then])
            exact bodyPost_ret (results_cell_row rfl _ _ R 30 #[.int .i64 z, .int .i64 H, .slice A k c] (0, 0) _ rfl HF.out.1 Tryd.underlying30 rfl (by kernel_rfl)) rfl HF.out.2
          · go_simp
            refine (pick_any g (po + 1) _ _ hrd (by omega) (by omega) (by omega)).mono ?_
            rintro e wq ⟨k5, rfl, hk5, -, hr5, hg5, -⟩
            have hk5' : (k5 : Int) < 4 := hk5 (by omega)
            have hX5 := hXd.grown hg5 (by simp; omega)
            have hR5 := hRd.grown hg5 (by simp; omega)
            have hown5 := hownd.keepRd hg5 (by omega)
            have hG5 := grown_trans hGd hg5
            have hgz5 := hr5.lt
            refine hK.out _ _ (fun _ => hX5.c0) ?_
            clear hK
            try simp only [Act.put, List.setIfInBounds_toArray, List.set_cons_zero, List.set_cons_succ]
            refine wpAnyT_one (i := 3) (by kernel_rfl) rfl (fun K hK => ?_)
            go_simp
            obtain ⟨z, hz⟩ : ∃ z : Int, (wq.alloc (.cells #[.int .i64 0, .int .i64 (-1), .int .i64 7, .int .i64 (W + 1)] 3)).cell? ⟨wq.heap.size, k5, none⟩ = some (.int .i64 z) := by
              obtain ⟨s, e, _, _, ht⟩ := Slot.stays (tab_new (n := 4) (R := fun _ => True) (t := 3) (w := wq) #[.int .i64 0, .int .i64 (-1), .int .i64 7, .int .i64 (W + 1)] hgz5 (fun j hj => by
                match j, hj with
                | 0, _ => exact ⟨_, rfl, trivial⟩
                | 1, _ => exact ⟨_, rfl, trivial⟩
                | 2, _ => exact ⟨_, rfl, trivial⟩
                | 3, _ => exact ⟨_, rfl, trivial⟩)) (World.grownBy.refl _ _)
              injection e with e1 _ _
              injection e1 with e1
              injection e1 with e1 _ _
              rw [e1]
              obtain ⟨z, hz, _⟩ := ht k5 (by omega)
              exact ⟨z, hz⟩
            have hX6 := hX5.grown (World.grownBy_alloc wq (.cells #[.int .i64 0, .int .i64 (-1), .int .i64 7, .int .i64 (W + 1)] 3) none) (by simp)
            have hR6 := hR5.grown (World.grownBy_alloc wq (.cells #[.int .i64 0, .int .i64 (-1), .int .i64 7, .int .i64 (W + 1)] 3) none) (by simp)
            have hown6 := (show OwnP (wq.alloc (.cells #[.int .i64 0, .int .i64 (-1), .int .i64 7, .int .i64 (W + 1)] 3)) w5.heap.size (.slice A k c) l from World.ownsRow.alloc hown5 _)
            have hG6 := grown_trans hG5 (World.grownBy_alloc wq (.cells #[.int .i64 0, .int .i64 (-1), .int .i64 7, .int .i64 (W + 1)] 3) (some g))
            have hr6 := hr5.alloc (.cells #[.int .i64 0, .int .i64 (-1), .int .i64 7, .int .i64 (W + 1)] 3)
            refine hK.out _ _ (fun _ => hX6.c0) ?_
            generalize wq.alloc (.cells #[.int .i64 0, .int .i64 (-1), .int .i64 7, .int .i64 (W + 1)] 3) = w6 at *
            clear hK hX5 hR5 hown5 hG5 hr5 hg5 hk5 hXd hRd hownd hGd hrd HS0 hXp hRp hownp hGp hrp
            have pk5 : 0 ≤ (k5 : Int) ∧ (k5 : Int) < 4 := by omega
            have S6 := Lib.hid hX6.c0
            have y0 := hX6.c0
            have y1 := hX6.c1
            have y2 := hX6.c2
            have yf := hX6.free 0
            have hXz := hX6.lt
            have hRe := hR6.set_other (b := X) (by omega) 0 (.int .i64 z)
            have hre : Rdr (w6.setCell ⟨X, 0, none⟩ (.int .i64 z)) g (po + 1 + 1) := hr6.kept (fun j hj => Below.heap_setCell w6 _ _ j (by simp; omega))
            have hGe := grown_own hG6 (grown_cell w6 X 0 (.int .i64 z)) (fun b hb => by injection hb with hb; omega)
            have hase := (OwnP.set_low hown6 (b := X) (by omega) 0 (.int .i64 z)).reads
            have HF := Lib.hid (FIN.out _ z H A c l (po + 1 + 1) hRe hase (fun b o e => (HAne.out b o e).1) hlc (by omega) hre (by omega) hGe)
            rw [hl] at HF
            have hR60 := hR6.c0
            have hR61 := hR6.c1
            have hR62 := hR6.c2
            have hRf0 := hR6.free 0
            have hRf1 := hR6.free 1
            have hRf2 := hR6.free 2
            clear FIN hX6 hR6 hown6 hG6 hr6 hRe hre hGe hase
            refine wpAnyT_one (i := 6) (by kernel_rfl) rfl (fun K hK => ?_)
            go_simp
            refine hK.out _ _ (fun _ => S6.out) ?_
            clear hK
            refine wpAnyT_one (i := 7) (by kernel_rfl) rfl (fun K hK => ?_)
            go_simp
            refine hK.out _ _ (fun _ => S6.out) ?_
            clear hK
            refine wpAnyT_one (i := 8) (by kernel_rfl) rfl (fun K hK => ?_)
            go_simp
            refine hK.out _ _ (fun _ => S6.out) ?_
            clear hK
            refine wpAnyT_one (i := 9) (by kernel_rfl) rfl (fun K hK => ?_)
            go_simp
            refine hK.out _ _ (fun h => last_out h) ?_
            clear hK S6
            refine wpAnyT_done (by kernel_rfl) ?_ _
            go_wp2_with fail
            (try simp only [Exit.inBlock, Exit.then])
            exact bodyPost_ret (results_cell_row rfl _ _ R 30 #[.int .i64 z, .int .i64 H, .slice A k c] (0, 0) _ rfl HF.out.1 Tryd.underlying30 rfl (by kernel_rfl)) rfl HF.out.2
        · have hX5 := hXp.grown (World.grownBy_alloc wp (.cells #[.int .i64 0, .int .i64 7] 3) none) (by simp)
          have hR5 := hRp.grown (World.grownBy_alloc wp (.cells #[.int .i64 0, .int .i64 7] 3) none) (by simp)
          have hown5 := (show OwnP (wp.alloc (.cells #[.int .i64 0, .int .i64 7] 3)) w5.heap.size (.slice A k c) l from World.ownsRow.alloc hownp _)
          have hG5 := grown_trans hGp (World.grownBy_alloc wp (.cells #[.int .i64 0, .int .i64 7] 3) (some g))
          have C5 := Lib.hid (pick_any g (po + 1) 2 _ (hrp.alloc (.cells #[.int .i64 0, .int .i64 7] 3)) (by omega) (by omega) (by omega))
          have hgw5 := hrp.lt
          clear hrp
          go_wp2_with fail
          refine C5.out.mono ?_
          rintro e w6 ⟨k5, rfl, hk5, -, hr6, hg6, -⟩
          have hk5' : (k5 : Int) < 2 := hk5 (by omega)
          have pk5 : 0 ≤ (k5 : Int) ∧ (k5 : Int) < 2 := by omega
          obtain ⟨z, hz⟩ : ∃ z : Int, w6.cell? ⟨wp.heap.size, k5, none⟩ = some (.int .i64 z) := by
            obtain ⟨s, e, _, _, ht⟩ := Slot.stays (tab_new (n := 2) (R := fun _ => True) (t := 3) #[.int .i64 0, .int .i64 7] hgw5 (fun j hj => by
              match j, hj with
              | 0, _ => exact ⟨_, rfl, trivial⟩
              | 1, _ => exact ⟨_, rfl, trivial⟩)) hg6
            injection e with e1 _ _
            injection e1 with e1
            injection e1 with e1 _ _
            rw [e1]
            obtain ⟨z, hz, _⟩ := ht k5 (by omega)
            exact ⟨z, hz⟩
          have hX6 := hX5.grown hg6 (by simp; omega)
          have hR6 := hR5.grown hg6 (by simp; omega)
          have hown6 := hown5.keepRd hg6 (by omega)
          have hXz := hX6.lt
          have hRe := hR6.set_other (b := X) (by omega) 1 (.int .i64 z)
          have hXe := hX6.set1 z
          have hre : Rdr (w6.setCell ⟨X, 1, none⟩ (.int .i64 z)) g (po + 1 + 1) := hr6.kept (fun j hj => Below.heap_setCell w6 _ _ j (by simp; omega))
          have hGe := grown_own (grown_trans hG5 hg6) (grown_cell w6 X 1 (.int .i64 z)) (fun b hb => by injection hb with hb; omega)
          have hase := (OwnP.set_low hown6 (b := X) (by omega) 1 (.int .i64 z)).reads
          have HF := Lib.hid (FIN.out _ W z A c l (po + 1 + 1) hRe hase (fun b o e => (HAne.out b o e).1) hlc (by omega) hre (by omega) hGe)
          have r0 := hRe.c0
          have r1 := hRe.c1
          have r2 := hRe.c2
          have rf0 := hRe.free 0
          have rf1 := hRe.free 1
          have rf2 := hRe.free 2
          have x0 := hXe.c0
          have x1 := hXe.c1
          have x2 := hXe.c2
          rw [hl] at HF
          have y0 := hX6.c0
          have y1 := hX6.c1
          have y2 := hX6.c2
          have yf := hX6.free 1
          have hR60 := hR6.c0
          have hR61 := hR6.c1
          have hR62 := hR6.c2
          have hRf0 := hR6.free 0
          have hRf1 := hR6.free 1
          have hRf2 := hR6.free 2
          clear r0 r1 r2 rf0 rf1 rf2 x0 x1 x2 FIN hX5 hR5 hown5 hG5 hg6 hX6 hR6 hown6 hRe hXe hre hGe hase C5 hr6 hk5 hXp hRp hownp hGp
          go_wp2_with fail
          (try simp only [Exit.inBlock, Exit.then])
          exact bodyPost_ret (results_cell_row rfl _ _ R 30 #[.int .i64 W, .int .i64 z, .slice A k c] (0, 0) _ rfl HF.out.1 Tryd.underlying30 rfl (by kernel_rfl)) rfl HF.out.2
        · obtain ⟨q0, lt, rfl⟩ : ∃ q0 lt, l = q0 :: lt := by
            cases l with
            | nil => simp at hl; omega
            | cons q0 lt => exact ⟨q0, lt, rfl⟩
          obtain ⟨gA, rfl⟩ : ∃ gA, A = some ⟨gA, 0, none⟩ := by
            rcases hownp.2 with ⟨e, hn0⟩ | ⟨g', cap, cur, e, -⟩
            · simp at hn0
            · injection e with e _ _
              exact ⟨g', e⟩
          have hk1l : 1 ≤ k := by simp at hl; omega
          have hgA := (HAne.out gA 0 rfl).1
          have hasp := hownp.reads
          have hXz := hXp.lt
          have hGe' := fun v => grown_own hGp (grown_cell wp X 2 v) (fun b hb => by injection hb with hb; omega)
          have hre' : ∀ v, Rdr (wp.setCell ⟨X, 2, none⟩ v) g (po + 1) := fun v => hrp.kept (fun j hj => Below.heap_setCell wp _ _ j (by simp; omega))
          have hRe' := fun v => hRp.set_other (b := X) (by omega) 2 v
          have hlt : lt.length = k - 1 := by simp at hl; omega
          have y0 := hXp.c0
          have y1 := hXp.c1
          have y2 := hXp.c2
          have yf := hXp.free 2
          have hR60 := hRp.c0
          have hR61 := hRp.c1
          have hR62 := hRp.c2
          have hRf0 := hRp.free 0
          have hRf1 := hRp.free 1
          have hRf2 := hRp.free 2
          have hkc : (k : Int) ≤ (c : Int) := by simp at hlc; omega
          have hk36 : (k : Int) ≤ 36 := by omega
          by_cases hc1 : c = 1
          · have hlt0 : lt = [] := List.eq_nil_of_length_eq_zero (by simp at hlc; omega)
            subst hlt0
            have HF := Lib.hid (FIN.out _ W H (some ⟨gA, 0, none⟩) 0 [] (po + 1) (hRe' (.slice (some ⟨gA, 0, none⟩) 0 0)) (.inl rfl) (fun b o e => by injection e with e; injection e with e1 _ _; omega) (Nat.zero_le _) (Nat.zero_le _) (hre' _) (by omega) (hGe' _))
            obtain rfl : k = 1 := by simp at hl; omega
            subst hc1
            clear FIN hXp hRp hownp hGp hGe' hre' hRe' hrp hasp
            go_wp2_with fail
            (try simp only [Exit.inBlock, Exit.then])
            exact bodyPost_ret (results_cell_row rfl _ _ R 30 #[.int .i64 W, .int .i64 H, .slice (some ⟨gA, 0, none⟩) 0 0] (0, 0) _ rfl HF.out.1 Tryd.underlying30 rfl (by kernel_rfl)) rfl HF.out.2
          · have HF := Lib.hid (FIN.out _ W H (some ⟨gA, 4, none⟩) (c - 1) lt (po + 1) (hRe' (.slice (some ⟨gA, 4, none⟩) lt.length (c - 1))) (by have := (HasP.tail hasp).set_ne (R := X) (fun b o e => by injection e with e; injection e with e1 _ _; have := (HAne.out gA 0 rfl).2; omega) 2 (.slice (some ⟨gA, 4, none⟩) lt.length (c - 1)); simpa using this) (fun b o e => by injection e with e; injection e with e1 _ _; omega) (by simp at hlc; omega) (by simp at hl; omega) (hre' _) (by omega) (hGe' _))
            rw [hlt] at HF
            clear FIN hXp hRp hownp hGp hGe' hre' hRe' hrp hasp
            go_wp2_with fail
            (try simp only [Exit.inBlock, Exit.then])
            exact bodyPost_ret (results_cell_row rfl _ _ R 30 #[.int .i64 W, .int .i64 H, .slice (some ⟨gA, 4, none⟩) (k - 1) (c - 1)] (0, 0) _ rfl HF.out.1 Tryd.underlying30 rfl (by kernel_rfl)) rfl HF.out.2
        · obtain ⟨gA, rfl⟩ : ∃ gA, A = some ⟨gA, 0, none⟩ := by
            rcases hownp.2 with ⟨e, hn0⟩ | ⟨g', cap, cur, e, -⟩
            · omega
            · injection e with e _ _
              exact ⟨g', e⟩
          have hXd := hXp.drew1
          have hRd := hRp.drew1
          have hownd := hownp.drewN 1
          have hGd := grown_trans hGp (grown_drew1 wp (some g))
          have hrd := hrp.drewN 1
          have hgz := hrp.lt
          have HS0 : wp.drew.cell? ⟨X, 2, none⟩ = some (.slice (some ⟨gA, 0, none⟩) k c) := hXp.c2
          have hXzz := hXp.lt
          have hnX : ¬ X = wp.heap.size := by omega
          go_wp2_with fail
          refine wp_region_T (fun w' => w'.cell? ⟨X, 2, none⟩ = some (.slice (some ⟨gA, 0, none⟩) k c)) 14 (by kernel_rfl) ?_
          refine wpAnyT_take (i := 0) (d := 42) (v := .pointer (some ⟨X, 2, none⟩)) rfl rfl (by kernel_rfl) (by kernel_rfl) (by kernel_rfl) (by kernel_rfl) (by kernel_rfl) (fun _ _ _ h => h) HS0 (Or.inl ⟨by rfl, fun w' hS' => ?_⟩) ?_
          · go_simp
          simp only [Act.put, List.setIfInBounds_toArray, List.set_cons_zero, List.set_cons_succ]
          refine wpAnyT_take (i := 1) (d := 43) (v := .slice (some ⟨gA, 0, none⟩) k c) rfl rfl (by kernel_rfl) (by kernel_rfl) (by kernel_rfl) (by kernel_rfl) (by kernel_rfl) (fun _ _ _ h => h) HS0 (Or.inl ⟨by rfl, fun w' hS' => ?_⟩) ?_
          · go_simp
          simp only [Act.put, List.setIfInBounds_toArray, List.set_cons_zero, List.set_cons_succ]
          refine wpAnyT_take (i := 2) (d := 44) (v := .pointer (some ⟨g, 0, none⟩)) rfl rfl (by kernel_rfl) (by kernel_rfl) (by kernel_rfl) (by kernel_rfl) (by kernel_rfl) (fun _ _ _ h => h) HS0 (Or.inl ⟨by rfl, fun w' hS' => ?_⟩) ?_
          · go_simp
          simp only [Act.put, List.setIfInBounds_toArray, List.set_cons_zero, List.set_cons_succ]
          refine wpAnyT_take (i := 3) (d := 45) (v := .pointer (some ⟨X, 2, none⟩)) rfl rfl (by kernel_rfl) (by kernel_rfl) (by kernel_rfl) (by kernel_rfl) (by kernel_rfl) (fun _ _ _ h => h) HS0 (Or.inl ⟨by rfl, fun w' hS' => ?_⟩) ?_
          · go_simp
          simp only [Act.put, List.setIfInBounds_toArray, List.set_cons_zero, List.set_cons_succ]
          refine wpAnyT_take (i := 4) (d := 46) (v := .slice (some ⟨gA, 0, none⟩) k c) rfl rfl (by kernel_rfl) (by kernel_rfl) (by kernel_rfl) (by kernel_rfl) (by kernel_rfl) (fun _ _ _ h => h) HS0 (Or.inl ⟨by rfl, fun w' hS' => ?_⟩) ?_
          · go_simp
          simp only [Act.put, List.setIfInBounds_toArray, List.set_cons_zero, List.set_cons_succ]
          refine wpAnyT_take (i := 5) (d := 47) (v := .int .i64 (k : Int)) rfl rfl (by kernel_rfl) (by kernel_rfl) (by kernel_rfl) (by kernel_rfl) (by kernel_rfl) (fun _ _ _ h => h) HS0 (Or.inl ⟨by rfl, fun w' hS' => ?_⟩) ?_
          · go_simp
          simp only [Act.put, List.setIfInBounds_toArray, List.set_cons_zero, List.set_cons_succ]
          refine wpAnyT_take (i := 8) (d := 50) (v := .pointer (some ⟨g, 0, none⟩)) rfl rfl (by kernel_rfl) (by kernel_rfl) (by kernel_rfl) (by kernel_rfl) (by kernel_rfl) (fun _ _ _ h => h) HS0 (Or.inl ⟨by rfl, fun w' hS' => ?_⟩) ?_
          · go_simp
          simp only [Act.put, List.setIfInBounds_toArray, List.set_cons_zero, List.set_cons_succ]
          refine wpAnyT_two (i := 6) (j := 7) (by kernel_rfl) rfl rfl (fun K hK => ?_) (fun K hK => ?_)
          · go_simp
            refine (pick_any g (po + 1) _ _ hrd (by omega) (by omega) (by omega)).mono ?_
            rintro e wa1 ⟨k5, rfl, hk5, -, hra, hga, -⟩
            have hk5' : (k5 : Int) < (k : Int) := hk5 (by omega)
            have hXa := hXd.grown hga (by simp; omega)
            have hRa := hRd.grown hga (by simp; omega)
            have howna := hownd.keepRd hga (by omega)
            have hGa := grown_trans hGd hga
            refine hK.out _ _ (fun _ => hXa.c2) ?_
            clear hK
            try simp only [Act.put, List.setIfInBounds_toArray]
            refine wpAnyT_two (i := 7) (j := 9) (by kernel_rfl) rfl rfl (fun K hK => ?_) (fun K hK => ?_)
            · go_simp
              have hXb : RasAtB (wa1.alloc (.cells #[.int .i64 (-1), .int .i64 256] 3)) X W H (some ⟨gA, 0, none⟩) k c 30 := hXa.grown (World.grownBy_alloc wa1 (.cells #[.int .i64 (-1), .int .i64 256] 3) none) (by simp)
              have hRb : RasAtB (wa1.alloc (.cells #[.int .i64 (-1), .int .i64 256] 3)) R 0 0 none 0 0 30 := hRa.grown (World.grownBy_alloc wa1 (.cells #[.int .i64 (-1), .int .i64 256] 3) none) (by simp)
              have hownb : OwnP (wa1.alloc (.cells #[.int .i64 (-1), .int .i64 256] 3)) w5.heap.size (.slice (some ⟨gA, 0, none⟩) k c) l := World.ownsRow.alloc howna _
              have hGb : w.grownBy (wa1.alloc (.cells #[.int .i64 (-1), .int .i64 256] 3)) (some g) := grown_trans hGa (World.grownBy_alloc wa1 (.cells #[.int .i64 (-1), .int .i64 256] 3) (some g))
              have hrb : Rdr (wa1.alloc (.cells #[.int .i64 (-1), .int .i64 256] 3)) g _ := hra.alloc (.cells #[.int .i64 (-1), .int .i64 256] 3)
              refine hK.out _ _ (fun _ => hXb.c2) ?_
              clear hK
              refine wpAnyT_one (i := 9) (by kernel_rfl) rfl (fun K hK => ?_)
              go_simp
              refine (pick_any g (po + 1 + 1) _ _ hrb (by omega) (by omega) (by omega)).mono ?_
              rintro e w6 ⟨k6, rfl, hk6, -, hr6, hg6, -⟩
              have hk6' : (k6 : Int) < 2 := hk6 (by omega)
              have hX6 := hXb.grown hg6 (by simp; omega)
              have hR6 := hRb.grown hg6 (by simp; omega)
              have hown6 := hownb.keepRd hg6 (by omega)
              have hG6 := grown_trans hGb hg6
              refine hK.out _ _ (fun _ => hX6.c2) ?_
              clear hK
              try simp only [Act.put, List.setIfInBounds_toArray]
              have hgza := hra.lt
              obtain ⟨z, hz⟩ : ∃ z : Int, w6.cell? ⟨wa1.heap.size, k6, none⟩ = some (.int .i64 z) := by
                obtain ⟨s, e, _, _, ht⟩ := Slot.stays (tab_new (n := 2) (R := fun _ => True) (t := 3) (w := wa1) #[.int .i64 (-1), .int .i64 256] hgza (fun j hj => by
                  match j, hj with
                  | 0, _ => exact ⟨_, rfl, trivial⟩
                  | 1, _ => exact ⟨_, rfl, trivial⟩)) hg6
                injection e with e1 _ _
                injection e1 with e1
                injection e1 with e1 _ _
                rw [e1]
                obtain ⟨z, hz, _⟩ := ht k6 (by omega)
                exact ⟨z, hz⟩
              clear hXa hRa howna hGa hra hga hXb hRb hownb hGb hrb hg6 hk5 hk6
              clear hXd hRd hownd hGd hrd HS0 hXp hRp hownp hGp hrp
              have pk6 : 0 ≤ (k6 : Int) ∧ (k6 : Int) < 2 := by omega
              have pk5 : 0 ≤ (k5 : Int) ∧ (k5 : Int) < (k : Int) := by omega
              have S6 := Lib.hid hX6.c2
              have hXz := hX6.lt
              have hfl := flatP_length l
              have ho6 : w6.ownsRow w5.heap.size 62 4 (.slice (some ⟨gA, 0, none⟩) k c) k (flatP l) := by
                have := hown6
                unfold OwnP at this
                rw [hl] at this
                exact this
              have pf := ho6.frozenAt (k5 * 4 + 1)
              obtain ⟨q5, hq5⟩ : ∃ q5, l[k5]? = some q5 := ⟨_, List.getElem?_eq_getElem (by omega)⟩
              obtain ⟨yg, hyg⟩ : ∃ y, w6.cell? ⟨gA, k5 * 4 + 1, none⟩ = some y := by
                rw [ho6.cellAt (k5 * 4 + 1) (by omega)]
                exact ⟨_, List.getElem?_eq_getElem (by omega)⟩
              have hgl : w5.heap.size ≤ gA := (World.ownsRow.lt ho6 gA rfl).1
              have hase : HasP (w6.setCell ⟨gA, k5 * 4 + 1, none⟩ (.int .i64 z)) (w6.setCell ⟨gA, k5 * 4 + 1, none⟩ (.int .i64 z)).heap.size (some ⟨gA, 0, none⟩) (l.set k5 ⟨q5.r, z, q5.b, q5.a⟩) := by
                have := HasP.setG hown6.reads hq5 z
                rw [Nat.zero_add] at this
                simpa using this
              have hRe := hR6.set_other (b := gA) (by omega) (k5 * 4 + 1) (.int .i64 z)
              have hXe := hX6.set_other (b := gA) (by omega) (k5 * 4 + 1) (.int .i64 z)
              have hre : Rdr (w6.setCell ⟨gA, k5 * 4 + 1, none⟩ (.int .i64 z)) g (po + 1 + 1 + 1) := hr6.kept (fun j hj => Below.heap_setCell w6 _ _ j (by simp; omega))
              have hGe := grown_own hG6 (grown_cell w6 gA (k5 * 4 + 1) (.int .i64 z)) (fun b hb => by injection hb with hb; omega)
              have HF := Lib.hid (FIN.out _ W H (some ⟨gA, 0, none⟩) c (l.set k5 ⟨q5.r, z, q5.b, q5.a⟩) (po + 1 + 1 + 1) hRe hase (fun b o e => (HAne.out b o e).1) (by rw [List.length_set]; exact hlc) (by rw [List.length_set]; omega) hre (by omega) hGe)
              rw [List.length_set, hl] at HF
              have y0 := hX6.c0
              have y1 := hX6.c1
              have y2 := hX6.c2
              have hR60 := hR6.c0
              have hR61 := hR6.c1
              have hR62 := hR6.c2
              have hRf0 := hR6.free 0
              have hRf1 := hR6.free 1
              have hRf2 := hR6.free 2
              have hnA1 : ¬ gA = X := by omega
              have hnA2 : ¬ gA = R := by omega
              have hnA3 : ¬ X = gA := by omega
              have hnA4 : ¬ R = gA := by omega
              have HLK := Lib.hid hl
              clear FIN hX6 hR6 hown6 hG6 hr6 hRe hXe hre hGe hase ho6 hfl hq5 hl
              refine wpAnyT_one (i := 10) (by kernel_rfl) rfl (fun K hK => ?_)
              go_simp
              refine hK.out _ _ (fun _ => S6.out) ?_
              clear hK
              refine wpAnyT_one (i := 11) (by kernel_rfl) rfl (fun K hK => ?_)
              go_simp
              refine hK.out _ _ (fun _ => S6.out) ?_
              clear hK
              refine wpAnyT_one (i := 12) (by kernel_rfl) rfl (fun K hK => ?_)
              go_simp
              refine hK.out _ _ (fun _ => S6.out) ?_
              clear hK
              refine wpAnyT_one (i := 13) (by kernel_rfl) rfl (fun K hK => ?_)
              go_simp
              refine hK.out _ _ (fun _ => S6.out) ?_
              clear hK
              refine wpAnyT_one (i := 14) (by kernel_rfl) rfl (fun K hK => ?_)
              go_simp
              refine hK.out _ _ (fun h => last_out h) ?_
              clear hK S6
              refine wpAnyT_done (by kernel_rfl) ?_ _
              go_wp2_with fail
              (try simp only [Exit.inBlock, Exit.then])
              exact bodyPost_ret (results_cell_row rfl _ _ R 30 #[.int .i64 W, .int .i64 H, .slice (some ⟨gA, 0, none⟩) k c] (0, 0) _ rfl HF.out.1 Tryd.underlying30 rfl (by kernel_rfl)) rfl HF.out.2
            · go_simp
              refine (pick_any g (po + 1 + 1) _ _ hra (by omega) (by omega) (by omega)).mono ?_
              rintro e wa2 ⟨k6, rfl, hk6, -, hrb, hgb, -⟩
              have hk6' : (k6 : Int) < 2 := hk6 (by omega)
              have hXb := hXa.grown hgb (by simp; omega)
              have hRb := hRa.grown hgb (by simp; omega)
              have hownb := howna.keepRd hgb (by omega)
              have hGb := grown_trans hGa hgb
              refine hK.out _ _ (fun _ => hXb.c2) ?_
              clear hK
              try simp only [Act.put, List.setIfInBounds_toArray]
              refine wpAnyT_one (i := 7) (by kernel_rfl) rfl (fun K hK => ?_)
              go_simp
              have hX6 : RasAtB (wa2.alloc (.cells #[.int .i64 (-1), .int .i64 256] 3)) X W H (some ⟨gA, 0, none⟩) k c 30 := hXb.grown (World.grownBy_alloc wa2 (.cells #[.int .i64 (-1), .int .i64 256] 3) none) (by simp)
              have hR6 : RasAtB (wa2.alloc (.cells #[.int .i64 (-1), .int .i64 256] 3)) R 0 0 none 0 0 30 := hRb.grown (World.grownBy_alloc wa2 (.cells #[.int .i64 (-1), .int .i64 256] 3) none) (by simp)
              have hown6 : OwnP (wa2.alloc (.cells #[.int .i64 (-1), .int .i64 256] 3)) w5.heap.size (.slice (some ⟨gA, 0, none⟩) k c) l := World.ownsRow.alloc hownb _
              have hG6 : w.grownBy (wa2.alloc (.cells #[.int .i64 (-1), .int .i64 256] 3)) (some g) := grown_trans hGb (World.grownBy_alloc wa2 (.cells #[.int .i64 (-1), .int .i64 256] 3) (some g))
              have hr6 : Rdr (wa2.alloc (.cells #[.int .i64 (-1), .int .i64 256] 3)) g _ := hrb.alloc (.cells #[.int .i64 (-1), .int .i64 256] 3)
              refine hK.out _ _ (fun _ => hX6.c2) ?_
              clear hK
              have hgzb := hrb.lt
              obtain ⟨z, hz⟩ : ∃ z : Int, (wa2.alloc (.cells #[.int .i64 (-1), .int .i64 256] 3)).cell? ⟨wa2.heap.size, k6, none⟩ = some (.int .i64 z) := by
                obtain ⟨s, e, _, _, ht⟩ := Slot.stays (tab_new (n := 2) (R := fun _ => True) (t := 3) (w := wa2) #[.int .i64 (-1), .int .i64 256] hgzb (fun j hj => by
                  match j, hj with
                  | 0, _ => exact ⟨_, rfl, trivial⟩
                  | 1, _ => exact ⟨_, rfl, trivial⟩)) (World.grownBy.refl _ _)
                injection e with e1 _ _
                injection e1 with e1
                injection e1 with e1 _ _
                rw [e1]
                obtain ⟨z, hz, _⟩ := ht k6 (by omega)
                exact ⟨z, hz⟩
              generalize wa2.alloc (.cells #[.int .i64 (-1), .int .i64 256] 3) = w6 at *
              clear hXa hRa howna hGa hra hga hXb hRb hownb hGb hrb hgb hk5 hk6
              clear hXd hRd hownd hGd hrd HS0 hXp hRp hownp hGp hrp
              have pk6 : 0 ≤ (k6 : Int) ∧ (k6 : Int) < 2 := by omega
              have pk5 : 0 ≤ (k5 : Int) ∧ (k5 : Int) < (k : Int) := by omega
              have S6 := Lib.hid hX6.c2
              have hXz := hX6.lt
              have hfl := flatP_length l
              have ho6 : w6.ownsRow w5.heap.size 62 4 (.slice (some ⟨gA, 0, none⟩) k c) k (flatP l) := by
                have := hown6
                unfold OwnP at this
                rw [hl] at this
                exact this
              have pf := ho6.frozenAt (k5 * 4 + 1)
              obtain ⟨q5, hq5⟩ : ∃ q5, l[k5]? = some q5 := ⟨_, List.getElem?_eq_getElem (by omega)⟩
              obtain ⟨yg, hyg⟩ : ∃ y, w6.cell? ⟨gA, k5 * 4 + 1, none⟩ = some y := by
                rw [ho6.cellAt (k5 * 4 + 1) (by omega)]
                exact ⟨_, List.getElem?_eq_getElem (by omega)⟩
              have hgl : w5.heap.size ≤ gA := (World.ownsRow.lt ho6 gA rfl).1
              have hase : HasP (w6.setCell ⟨gA, k5 * 4 + 1, none⟩ (.int .i64 z)) (w6.setCell ⟨gA, k5 * 4 + 1, none⟩ (.int .i64 z)).heap.size (some ⟨gA, 0, none⟩) (l.set k5 ⟨q5.r, z, q5.b, q5.a⟩) := by
                have := HasP.setG hown6.reads hq5 z
                rw [Nat.zero_add] at this
                simpa using this
              have hRe := hR6.set_other (b := gA) (by omega) (k5 * 4 + 1) (.int .i64 z)
              have hXe := hX6.set_other (b := gA) (by omega) (k5 * 4 + 1) (.int .i64 z)
              have hre : Rdr (w6.setCell ⟨gA, k5 * 4 + 1, none⟩ (.int .i64 z)) g (po + 1 + 1 + 1) := hr6.kept (fun j hj => Below.heap_setCell w6 _ _ j (by simp; omega))
              have hGe := grown_own hG6 (grown_cell w6 gA (k5 * 4 + 1) (.int .i64 z)) (fun b hb => by injection hb with hb; omega)
              have HF := Lib.hid (FIN.out _ W H (some ⟨gA, 0, none⟩) c (l.set k5 ⟨q5.r, z, q5.b, q5.a⟩) (po + 1 + 1 + 1) hRe hase (fun b o e => (HAne.out b o e).1) (by rw [List.length_set]; exact hlc) (by rw [List.length_set]; omega) hre (by omega) hGe)
              rw [List.length_set, hl] at HF
              have y0 := hX6.c0
              have y1 := hX6.c1
              have y2 := hX6.c2
              have hR60 := hR6.c0
              have hR61 := hR6.c1
              have hR62 := hR6.c2
              have hRf0 := hR6.free 0
              have hRf1 := hR6.free 1
              have hRf2 := hR6.free 2
              have hnA1 : ¬ gA = X := by omega
              have hnA2 : ¬ gA = R := by omega
              have hnA3 : ¬ X = gA := by omega
              have hnA4 : ¬ R = gA := by omega
              have HLK := Lib.hid hl
              clear FIN hX6 hR6 hown6 hG6 hr6 hRe hXe hre hGe hase ho6 hfl hq5 hl
              refine wpAnyT_one (i := 10) (by kernel_rfl) rfl (fun K hK => ?_)
              go_simp
              refine hK.out _ _ (fun _ => S6.out) ?_
              clear hK
              refine wpAnyT_one (i := 11) (by kernel_rfl) rfl (fun K hK => ?_)
              go_simp
              refine hK.out _ _ (fun _ => S6.out) ?_
              clear hK
              refine wpAnyT_one (i := 12) (by kernel_rfl) rfl (fun K hK => ?_)
              go_simp
              refine hK.out _ _ (fun _ => S6.out) ?_
              clear hK
              refine wpAnyT_one (i := 13) (by kernel_rfl) rfl (fun K hK => ?_)
              go_simp
              refine hK.out _ _ (fun _ => S6.out) ?_
              clear hK
              refine wpAnyT_one (i := 14) (by kernel_rfl) rfl (fun K hK => ?_)
              go_simp
              refine hK.out _ _ (fun h => last_out h) ?_
              clear hK S6
              refine wpAnyT_done (by kernel_rfl) ?_ _
              go_wp2_with fail
              (try simp only [Exit.inBlock, Exit.then])
              exact bodyPost_ret (results_cell_row rfl _ _ R 30 #[.int .i64 W, .int .i64 H, .slice (some ⟨gA, 0, none⟩) k c] (0, 0) _ rfl HF.out.1 Tryd.underlying30 rfl (by kernel_rfl)) rfl HF.out.2
          · go_simp
            have hXa : RasAtB (wp.alloc (.cells #[.int .i64 (-1), .int .i64 256] 3)).drew X W H (some ⟨gA, 0, none⟩) k c 30 := (hXp.grown (World.grownBy_alloc wp (.cells #[.int .i64 (-1), .int .i64 256] 3) none) (by simp)).drew1
            have hRa : RasAtB (wp.alloc (.cells #[.int .i64 (-1), .int .i64 256] 3)).drew R 0 0 none 0 0 30 := (hRp.grown (World.grownBy_alloc wp (.cells #[.int .i64 (-1), .int .i64 256] 3) none) (by simp)).drew1
            have howna : OwnP (wp.alloc (.cells #[.int .i64 (-1), .int .i64 256] 3)).drew w5.heap.size (.slice (some ⟨gA, 0, none⟩) k c) l := (show OwnP (wp.alloc (.cells #[.int .i64 (-1), .int .i64 256] 3)) w5.heap.size (.slice (some ⟨gA, 0, none⟩) k c) l from World.ownsRow.alloc hownp _)
            have hGa : w.grownBy (wp.alloc (.cells #[.int .i64 (-1), .int .i64 256] 3)).drew (some g) := grown_trans (grown_trans hGp (World.grownBy_alloc wp (.cells #[.int .i64 (-1), .int .i64 256] 3) (some g))) (grown_drew1 _ _)
            have hra : Rdr (wp.alloc (.cells #[.int .i64 (-1), .int .i64 256] 3)).drew g (po + 1) := (hrp.alloc (.cells #[.int .i64 (-1), .int .i64 256] 3)).drewN 1
            refine hK.out _ _ (fun _ => hXa.c2) ?_
            clear hK
            refine wpAnyT_one (i := 6) (by kernel_rfl) rfl (fun K hK => ?_)
            go_simp
            refine (pick_any g (po + 1) _ _ hra (by omega) (by omega) (by omega)).mono ?_
            rintro e wa2 ⟨k5, rfl, hk5, -, hrb, hgb, -⟩
            have hk5' : (k5 : Int) < (k : Int) := hk5 (by omega)
            have hXb := hXa.grown hgb (by simp; omega)
            have hRb := hRa.grown hgb (by simp; omega)
            have hownb := howna.keepRd hgb (by omega)
            have hGb := grown_trans hGa hgb
            refine hK.out _ _ (fun _ => hXb.c2) ?_
            clear hK
            try simp only [Act.put, List.setIfInBounds_toArray]
            refine wpAnyT_one (i := 9) (by kernel_rfl) rfl (fun K hK => ?_)
            go_simp
            refine (pick_any g (po + 1 + 1) _ _ hrb (by omega) (by omega) (by omega)).mono ?_
            rintro e w6 ⟨k6, rfl, hk6, -, hr6, hg6, -⟩
            have hk6' : (k6 : Int) < 2 := hk6 (by omega)
            have hX6 := hXb.grown hg6 (by simp; omega)
            have hR6 := hRb.grown hg6 (by simp; omega)
            have hown6 := hownb.keepRd hg6 (by omega)
            have hG6 := grown_trans hGb hg6
            refine hK.out _ _ (fun _ => hX6.c2) ?_
            clear hK
            try simp only [Act.put, List.setIfInBounds_toArray]
            obtain ⟨z, hz⟩ : ∃ z : Int, w6.cell? ⟨wp.heap.size, k6, none⟩ = some (.int .i64 z) := by
              obtain ⟨s, e, _, _, ht⟩ := Slot.stays (tab_new (n := 2) (R := fun _ => True) (t := 3) (w := wp) #[.int .i64 (-1), .int .i64 256] hgz (fun j hj => by
                match j, hj with
                | 0, _ => exact ⟨_, rfl, trivial⟩
                | 1, _ => exact ⟨_, rfl, trivial⟩)) (show (wp.alloc (.cells #[.int .i64 (-1), .int .i64 256] 3)).grownBy w6 (some g) from grown_trans (grown_trans (grown_drew1 _ _) hgb) hg6)
              injection e with e1 _ _
              injection e1 with e1
              injection e1 with e1 _ _
              rw [e1]
              obtain ⟨z, hz, _⟩ := ht k6 (by omega)
              exact ⟨z, hz⟩
            clear hXa hRa howna hGa hra hXb hRb hownb hGb hrb hgb hg6 hk5 hk6
            clear hXd hRd hownd hGd hrd HS0 hXp hRp hownp hGp hrp
            have pk6 : 0 ≤ (k6 : Int) ∧ (k6 : Int) < 2 := by omega
            have pk5 : 0 ≤ (k5 : Int) ∧ (k5 : Int) < (k : Int) := by omega
            have S6 := Lib.hid hX6.c2
            have hXz := hX6.lt
            have hfl := flatP_length l
            have ho6 : w6.ownsRow w5.heap.size 62 4 (.slice (some ⟨gA, 0, none⟩) k c) k (flatP l) := by
              have := hown6
              unfold OwnP at this
              rw [hl] at this
              exact this
            have pf := ho6.frozenAt (k5 * 4 + 1)
            obtain ⟨q5, hq5⟩ : ∃ q5, l[k5]? = some q5 := ⟨_, List.getElem?_eq_getElem (by omega)⟩
            obtain ⟨yg, hyg⟩ : ∃ y, w6.cell? ⟨gA, k5 * 4 + 1, none⟩ = some y := by
              rw [ho6.cellAt (k5 * 4 + 1) (by omega)]
              exact ⟨_, List.getElem?_eq_getElem (by omega)⟩
            have hgl : w5.heap.size ≤ gA := (World.ownsRow.lt ho6 gA rfl).1
            have hase : HasP (w6.setCell ⟨gA, k5 * 4 + 1, none⟩ (.int .i64 z)) (w6.setCell ⟨gA, k5 * 4 + 1, none⟩ (.int .i64 z)).heap.size (some ⟨gA, 0, none⟩) (l.set k5 ⟨q5.r, z, q5.b, q5.a⟩) := by
              have := HasP.setG hown6.reads hq5 z
              rw [Nat.zero_add] at this
              simpa using this
            have hRe := hR6.set_other (b := gA) (by omega) (k5 * 4 + 1) (.int .i64 z)
            have hXe := hX6.set_other (b := gA) (by omega) (k5 * 4 + 1) (.int .i64 z)
            have hre : Rdr (w6.setCell ⟨gA, k5 * 4 + 1, none⟩ (.int .i64 z)) g (po + 1 + 1 + 1) := hr6.kept (fun j hj => Below.heap_setCell w6 _ _ j (by simp; omega))
            have hGe := grown_own hG6 (grown_cell w6 gA (k5 * 4 + 1) (.int .i64 z)) (fun b hb => by injection hb with hb; omega)
            have HF := Lib.hid (FIN.out _ W H (some ⟨gA, 0, none⟩) c (l.set k5 ⟨q5.r, z, q5.b, q5.a⟩) (po + 1 + 1 + 1) hRe hase (fun b o e => (HAne.out b o e).1) (by rw [List.length_set]; exact hlc) (by rw [List.length_set]; omega) hre (by omega) hGe)
            rw [List.length_set, hl] at HF
            have y0 := hX6.c0
            have y1 := hX6.c1
            have y2 := hX6.c2
            have hR60 := hR6.c0
            have hR61 := hR6.c1
            have hR62 := hR6.c2
            have hRf0 := hR6.free 0
            have hRf1 := hR6.free 1
            have hRf2 := hR6.free 2
            have hnA1 : ¬ gA = X := by omega
            have hnA2 : ¬ gA = R := by omega
            have hnA3 : ¬ X = gA := by omega
            have hnA4 : ¬ R = gA := by omega
            have HLK := Lib.hid hl
            clear FIN hX6 hR6 hown6 hG6 hr6 hRe hXe hre hGe hase ho6 hfl hq5 hl
            refine wpAnyT_one (i := 10) (by kernel_rfl) rfl (fun K hK => ?_)
            go_simp
            refine hK.out _ _ (fun _ => S6.out) ?_
            clear hK
            refine wpAnyT_one (i := 11) (by kernel_rfl) rfl (fun K hK => ?_)
            go_simp
            refine hK.out _ _ (fun _ => S6.out) ?_
            clear hK
            refine wpAnyT_one (i := 12) (by kernel_rfl) rfl (fun K hK => ?_)
            go_simp
            refine hK.out _ _ (fun _ => S6.out) ?_
            clear hK
            refine wpAnyT_one (i := 13) (by kernel_rfl) rfl (fun K hK => ?_)
            go_simp
            refine hK.out _ _ (fun _ => S6.out) ?_
            clear hK
            refine wpAnyT_one (i := 14) (by kernel_rfl) rfl (fun K hK => ?_)
            go_simp
            refine hK.out _ _ (fun h => last_out h) ?_
            clear hK S6
            refine wpAnyT_done (by kernel_rfl) ?_ _
            go_wp2_with fail
            (try simp only [Exit.inBlock, Exit.then])
            exact bodyPost_ret (results_cell_row rfl _ _ R 30 #[.int .i64 W, .int .i64 H, .slice (some ⟨gA, 0, none⟩) k c] (0, 0) _ rfl HF.out.1 Tryd.underlying30 rfl (by kernel_rfl)) rfl HF.out.2
end Go.Proofs.YtiemlakjallphabDoor
