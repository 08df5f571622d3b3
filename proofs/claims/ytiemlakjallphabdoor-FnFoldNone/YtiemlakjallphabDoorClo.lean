/-
  drawn of the program: a raster out of a closure that knows each pixel. Condition: at most six columns and rows; the closure answers its pixel in each world that is reached.
-/
import Derived.Test.YtiemlakjallphabDoorPixO
import Derived.Test.YtiemlakjallphabDoorElem
import Derived.Test.YtiemlakjallphabDoorOpsAll
import Derived.Test.YtiemlakjallphabDoorRasBox
namespace Go.Proofs.YtiemlakjallphabDoor
set_option maxRecDepth 4000
open Go.RowKit

theorem px_one (p : Px) : ∀ u ∈ p.cells, u.oneCell' = true := by
  intro u hu
  simp [Px.cells] at hu
  rcases hu with rfl | rfl | rfl | rfl <;> rfl
/-- Pixels in a slice. -/
def pxE : El Px := { t := 62, n := 4, bytes := 32, z := .agg #[.int .i64 0, .int .i64 0, .int .i64 0, .int .i64 0], cells := Px.cells, len := fun _ => rfl, one := px_one, pos := by decide, small := by decide, zlen := rfl, info := infoP }
theorem own_px {w : World} {base : Nat} {v : Value} {l : List Px} : pxE.Own w base v l ↔ OwnP w base v l := Iff.rfl
/-- What a step answers: a raster in memory of the call's own. -/
def Drawn (r : Ra) (w : World) (e : Ending) (w' : World) : Prop := ∃ A c, e = .returned (rasV r.w r.h A r.p.length c) ∧ r.p.length ≤ c ∧ OwnP w' w.heap.size (.slice A r.p.length c) r.p ∧ Below w.heap.size w w'
set_option maxHeartbeats 4000000 in
theorem drawn_any (F : FuncId) (caps : Array Value) (Wn Hn : Nat) (f : Nat → Nat → Px) (w : World) (hW : 1 ≤ Wn ∧ Wn ≤ 6) (hH : 1 ≤ Hn ∧ Hn ≤ 6)
    (hF : ∀ args v, (callFunc F args).run Tryd.prog v = .ok (.enter F args) v) (hC : ∀ x y v, x < Wn → y < Hn → Below w.heap.size w v → Calls Tryd.prog F (#[.int .i64 (x : Int), .int .i64 (y : Int)] ++ caps) v fun e v' => e = .returned (f x y).v ∧ Below v.heap.size v v') :
    Calls Tryd.prog 89 #[.int .i64 (Wn : Int), .int .i64 (Hn : Int), .func (.func F) #[] caps] w (Drawn (mkR Wn Hn f) w) := by
  obtain ⟨i0, hi, hz0, hz1, hz2⟩ := info_parts infoP
  obtain ⟨N, hN⟩ : ∃ N, Wn * Hn = N := ⟨_, rfl⟩
  have hNI : (Wn : Int) * (Hn : Int) = (N : Int) := by rw [← hN, Int.natCast_mul]
  have h36 := mul36 (W := (Wn : Int)) (H := (Hn : Int)) (by omega) (by omega)
  rw [hNI] at h36
  have hb0 : Below w.heap.size w (w.alloc (.cells #[.int .i64 0, .int .i64 0, .slice none 0 0] 30)) := (Below.refl _ w).alloc (Nat.le_refl _) _
  have hx0 : RasAtB (w.alloc (.cells #[.int .i64 0, .int .i64 0, .slice none 0 0] 30)) w.heap.size 0 0 none 0 0 30 := heap_alloc_new w _
  have HC := Lib.hid hC
  have HF := Lib.hid hF
  have HN := Lib.hid hN
  have HWH := Lib.hid (And.intro hW hH)
  have HB0 := Lib.hid hb0
  have HX0 := Lib.hid hx0
  clear hC hF hN hb0 hx0
  go_enter Tryd.func89, Tryd.ntmps89
  go_wp2_with (at_make; refine wpList_make_own _ rfl _ _ 77 rfl (w.heap.size + 1) 62 i0 (.agg #[.int .i64 0, .int .i64 0, .int .i64 0, .int .i64 0]) 4 Tryd.underlying77 hi hz0 hz1 _ _ _ N rfl rfl rfl (by rw [hz2]; omega) (by unfold maxLen; omega) (by simp) ?_; intro w1 hown hgrow)
  have b1 : Below w.heap.size w w1 := HB0.out.grown hgrow HB0.out.size (fun _ e => by cases e)
  have hx1 : RasAtB w1 w.heap.size 0 0 none 0 0 30 := HX0.out.grown hgrow (by simp)
  have ho1 : OwnP w1 (w.heap.size + 1) (.slice (some ⟨w.heap.size + 1, 0, none⟩) 0 N) (tab Wn (0 * Wn) f) := by
    rw [Nat.zero_mul, tab_zero]
    have e : (w.alloc (.cells #[.int .i64 0, .int .i64 0, .slice none 0 0] 30)).heap.size = w.heap.size + 1 := by simp
    rw [e] at hown
    exact hown
  have HB1 := Lib.hid b1
  have HX1 := Lib.hid hx1
  clear b1 hx1 hown hgrow HB0 HX0 hNI
  go_loopw [7, 15] (fun v i wr => ∃ y : Nat, y ≤ Hn ∧ i = .int .i64 y ∧ OwnP wr (w.heap.size + 1) v (tab Wn (y * Wn) f) ∧ Below w.heap.size w wr ∧ RasAtB wr w.heap.size 0 0 none 0 0 30) (fun _ i _ => Hn - (intOf i).toNat)
  case atStart => exact ⟨0, Nat.zero_le _, rfl, ho1, HB1.out, HX1.out⟩
  case round =>
    obtain ⟨y, hy, rfl, hown, hbel, hx⟩ := hrel
    by_cases hlt : y < Hn
    · have hown0 : OwnP wr (w.heap.size + 1) u7 (tab Wn (y * Wn + 0) f) := hown
      clear hown
      go_wp2_with fail
      go_loopw [7, 19] (fun v i wq => ∃ x : Nat, x ≤ Wn ∧ i = .int .i64 x ∧ OwnP wq (w.heap.size + 1) v (tab Wn (y * Wn + x) f) ∧ Below w.heap.size w wq ∧ RasAtB wq w.heap.size 0 0 none 0 0 30) (fun _ i _ => Wn - (intOf i).toNat)
      case atStart => exact ⟨0, Nat.zero_le _, rfl, hown0, hbel, hx⟩
      case round =>
        clear hown0 hbel hx
        obtain ⟨x, hx', rfl, hown, hbel, hx⟩ := hrel
        by_cases hltx : x < Wn
        · have CX := Lib.hid (HC.out x y wr hltx hlt hbel)
          have HO := Lib.hid hown
          have HB := Lib.hid hbel
          have HX := Lib.hid hx
          have HS := Lib.hid (tab_step f hltx (y := y))
          have hlen : (tab Wn (y * Wn + x) f).length ≤ 36 := by
            rw [tab_length]
            have := place_in hltx hlt
            have := HN.out
            omega
          clear hown hbel hx
          generalize f x y = p at *
          unfold Px.v at CX
          go_wp2_with fail
          rw [HF.out, Oper.upon_enter]
          refine CX.out.mono ?_
          rintro e w2 ⟨rfl, b2⟩
          have HO2 := Lib.hid (HO.out.below b2 (Nat.le_refl _))
          have HB2 := Lib.hid (HB.out.trans (b2.mono HB.out.size))
          have HX2 := Lib.hid (HX.out.below b2 HX.out.lt)
          obtain ⟨A7, c7, rfl, hc7, -⟩ := HO2.out.has
          clear b2 CX HB HO HX
          obtain ⟨G, hG⟩ : ∃ G, w2.heap.size = G := ⟨_, rfl⟩
          have hGw : w.heap.size + 1 ≤ G := by have := HX2.out.lt; omega
          have HBX : Hid (Box (w2.alloc (.cells #[.int .i64 p.r, .int .i64 p.g, .int .i64 p.b, .int .i64 p.a] 62)) G (pxE.cells p).toArray 62) := Lib.hid (by rw [← hG]; exact Box.new w2 _ _)
          go_wp2_with (at_builtin; refine El.wpList_append (E := pxE) 77 Tryd.underlying77 rfl _ _ rfl (w.heap.size + 1) (.slice A7 (tab Wn (y * Wn + x) f).length c7) (tab Wn (y * Wn + x) f) rfl (El.Own.alloc (E := pxE) (own_px.2 HO2.out) _) ⟨G, 0, none⟩ 1 1 [p] rfl rfl (Box.news (E := pxE) (x := p) HBX.out) (by decide) (by omega) (by simp; omega) (G + 1) (by simp [hG]) ?_; intro g cap w3 hown3 hgr3 hg3 hcap3)
          have hl1 : (tab Wn (y * Wn + x) f).length + 1 = (tab Wn (y * Wn + (x + 1)) f).length := by rw [tab_length, tab_length]; omega
          rw [← HS.out] at hown3
          have hne : (Value.slice A7 (tab Wn (y * Wn + x) f).length c7).ownBlock ≠ some w.heap.size := fun e => by have := (World.ownsRow.lt HO2.out _ e).1; omega
          have ba : Below w.heap.size w2 (w2.alloc (.cells #[.int .i64 p.r, .int .i64 p.g, .int .i64 p.b, .int .i64 p.a] 62)) := (Below.refl _ w2).alloc HB2.out.size _
          have b3 : Below w.heap.size w w3 := (HB2.out.trans ba).grown hgr3 (HB2.out.trans ba).size (fun q e => by have := (World.ownsRow.lt HO2.out q e).1; omega)
          have hx3 : RasAtB w3 w.heap.size 0 0 none 0 0 30 := (Box.alloc HX2.out _).grown hgr3 hne
          refine ⟨⟨x + 1, by omega, by go_num, own_px.1 hown3, b3, hx3⟩, by simp [intOf]; omega⟩
        · obtain rfl : x = Wn := by omega
          have HO : Hid (OwnP wr (w.heap.size + 1) u7 (tab x ((y + 1) * x) f)) := Lib.hid (by rw [Nat.add_mul, Nat.one_mul]; exact hown)
          have HB := Lib.hid hbel
          have HX := Lib.hid hx
          clear hown hbel hx
          go_wp2_with fail
          go_roundw
          case rel => exact ⟨y + 1, by omega, by go_num, HO.out, HB.out, HX.out⟩
          case measure => simp [intOf]; omega
    · obtain rfl : y = Hn := by omega
      have HO : Hid (OwnP wr (w.heap.size + 1) u7 (tab Wn (Wn * y) f)) := Lib.hid (by rw [Nat.mul_comm]; exact hown)
      obtain ⟨A7, c7, rfl, hc7, -⟩ := HO.out.has
      have HB := Lib.hid hbel
      have HX := Lib.hid hx
      clear hown hbel hx
      have r0 := HX.out.c0
      have r1 := HX.out.c1
      have r2 := HX.out.c2
      have f0 := HX.out.free 0
      have f1 := HX.out.free 1
      have f2 := HX.out.free 2
      have HOe : Hid (OwnP (((wr.setCell ⟨w.heap.size, 0, none⟩ (.int .i64 (Wn : Int))).setCell ⟨w.heap.size, 1, none⟩ (.int .i64 (y : Int))).setCell ⟨w.heap.size, 2, none⟩ (.slice A7 (tab Wn (Wn * y) f).length c7)) (w.heap.size + 1) (.slice A7 (tab Wn (Wn * y) f).length c7) (tab Wn (Wn * y) f)) := Lib.hid (((HO.out.set_low (b := w.heap.size) (by omega) 0 _).set_low (b := w.heap.size) (by omega) 1 _).set_low (b := w.heap.size) (by omega) 2 _)
      go_wp2_with fail
      (try simp only [Exit.inBlock, Exit.then])
      refine bodyPost_ret (results_cell_row rfl _ _ w.heap.size 30 #[.int .i64 (Wn : Int), .int .i64 (y : Int), .slice A7 (tab Wn (Wn * y) f).length c7] (0, 0) _ rfl (fin_ras HX.out _ _ _) Tryd.underlying30 rfl (by kernel_rfl)) rfl ?_
      exact ⟨A7, c7, rfl, hc7, HOe.out.lower (by omega), ((HB.out.setCell (Nat.le_refl _) _).setCell (Nat.le_refl _) _).setCell (Nat.le_refl _) _⟩
end Go.Proofs.YtiemlakjallphabDoor
