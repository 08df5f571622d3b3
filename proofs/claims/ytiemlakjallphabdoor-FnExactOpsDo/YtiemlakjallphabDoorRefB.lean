/-
  OpDo of the reference: the raster after an operation, or nothing. Conditions: the raster's pixels are read from memory that was there, its slice has room for them.
-/
import Derived.Test.YtiemlakjallphabDoorRefA
import Derived.Test.YtiemlakjallphabDoorOpsAll
import Derived.Test.YtiemlakjallphabDoorFlipS
import Derived.Test.YtiemlakjallphabDoorStepA
import Derived.Test.YtiemlakjallphabDoorOpOkS
import Derived.Test.YtiemlakjallphabDoorRasS
namespace Go.Proofs.YtiemlakjallphabDoor
set_option maxRecDepth 4000
open Go.RowKit

set_option maxHeartbeats 8000000 in
theorem l6Gray_each (r : Ra) (q : Op) (A : Option Addr) (c : Nat) (w : World) (hr : r.ok) (hk5 : q.k = 5) (hcc : r.p.length ≤ c) (h : HasP w w.heap.size A r.p) :
    Calls Tryd.prog 66 #[raV r A c, q.v] w (Drawn (eachR grayP r) w) := by
  obtain ⟨hw6, hh6, hl, hpall⟩ := hr.parts
  have hlen := ra_len hr
  obtain ⟨b, o, -, rfl, hbl, -, -⟩ := h.spot (k := 0) (by omega)
  have HAT : Hid (∀ k p, r.p[k]? = some p → k % r.w < r.w ∧ k / r.w < r.h ∧ r.at (k % r.w) (k / r.w) = p) := Lib.hid fun k p hk => by
    have hi : k < r.w * r.h := by rw [← hl]; exact (List.getElem?_eq_some_iff.1 hk).1
    obtain ⟨h1, h2, h3⟩ := place_back hi
    refine ⟨h1, h2, ?_⟩
    unfold Ra.at
    rw [h3, hk]
    rfl
  have HPB : Hid (∀ p, p ∈ r.p → pixB p = true) := Lib.hid hpall
  have HK := Lib.hid hk5
  clear hk5
  obtain ⟨f, hf⟩ : ∃ f : Nat → Nat → Px, (fun x y => grayP (r.at x y)) = f := ⟨_, rfl⟩
  have HF := Lib.hid hf
  have HG : Hid (∀ A' c' w', (mkR r.w r.h f).p.length ≤ c' → OwnP w' w.heap.size (.slice A' (mkR r.w r.h f).p.length c') (mkR r.w r.h f).p → Below w.heap.size w w' → Drawn (eachR grayP r) w (.returned (.agg #[.int .i64 (r.w : Int), .int .i64 (r.h : Int), .slice A' (mkR r.w r.h f).p.length c'])) w') := Lib.hid fun A' c' w' k1 k2 k3 => by
    rw [← hf] at k1 k2 ⊢
    exact ⟨A', c', rfl, k1, k2, k3⟩
  have HTP : Hid ((mkR r.w r.h f).p = tab r.w r.p.length f) := Lib.hid (by rw [hl]; rfl)
  generalize Drawn (eachR grayP r) w = D at *
  generalize (mkR r.w r.h f).p = tp at *
  clear hf hpall hl
  unfold raV rasV
  obtain ⟨W, hW⟩ : ∃ W, r.w = W := ⟨_, rfl⟩
  obtain ⟨H, hH⟩ : ∃ H, r.h = H := ⟨_, rfl⟩
  obtain ⟨n, hn⟩ : ∃ n, r.p.length = n := ⟨_, rfl⟩
  have HWHN := Lib.hid (And.intro hW (And.intro hH hn))
  rw [hW, hH] at HG
  rw [hW, hn] at HTP
  rw [hn] at hlen hcc
  rw [hW] at hw6
  rw [hH] at hh6
  rw [hW, hH, hn]
  have HOK := Lib.hid hr
  clear hr hW hH hn
  unfold Op.v
  have hb0 : Below w.heap.size w ((((w.alloc (.cells #[.int .i64 (W : Int), .int .i64 (H : Int), .slice (some ⟨b, o, none⟩) n c] 30)).alloc (.cells #[.int .i64 q.k, .int .i64 q.a, .int .i64 q.b, .int .i64 q.c, .int .i64 q.d] 49)).alloc (.cells #[.int .i64 0, .int .i64 0, .slice none 0 0] 30)).alloc (.cells #[.int .i64 (W : Int), .int .i64 (H : Int), .slice none 0 0] 30)) := ((((Below.refl _ w).alloc (Nat.le_refl _) _).alloc (by simp) _).alloc (by simp; omega) _).alloc (by simp; omega) _
  have hR0 : RasAtB ((((w.alloc (.cells #[.int .i64 (W : Int), .int .i64 (H : Int), .slice (some ⟨b, o, none⟩) n c] 30)).alloc (.cells #[.int .i64 q.k, .int .i64 q.a, .int .i64 q.b, .int .i64 q.c, .int .i64 q.d] 49)).alloc (.cells #[.int .i64 0, .int .i64 0, .slice none 0 0] 30)).alloc (.cells #[.int .i64 (W : Int), .int .i64 (H : Int), .slice none 0 0] 30)) w.heap.size (W : Int) (H : Int) (some ⟨b, o, none⟩) n c 30 := Box.alloc (Box.alloc (Box.alloc (Box.new w _ _) _) _) _
  have hO0 : OpAtB ((((w.alloc (.cells #[.int .i64 (W : Int), .int .i64 (H : Int), .slice (some ⟨b, o, none⟩) n c] 30)).alloc (.cells #[.int .i64 q.k, .int .i64 q.a, .int .i64 q.b, .int .i64 q.c, .int .i64 q.d] 49)).alloc (.cells #[.int .i64 0, .int .i64 0, .slice none 0 0] 30)).alloc (.cells #[.int .i64 (W : Int), .int .i64 (H : Int), .slice none 0 0] 30)) (w.heap.size + 1) q := by
    refine Box.alloc (Box.alloc ?_ _) _
    have := Box.new (w.alloc (.cells #[.int .i64 (W : Int), .int .i64 (H : Int), .slice (some ⟨b, o, none⟩) n c] 30)) #[.int .i64 q.k, .int .i64 q.a, .int .i64 q.b, .int .i64 q.c, .int .i64 q.d] 49
    rw [show (w.alloc (.cells #[.int .i64 (W : Int), .int .i64 (H : Int), .slice (some ⟨b, o, none⟩) n c] 30)).heap.size = w.heap.size + 1 from by simp] at this
    exact this
  have hZ0 : RasAtB ((((w.alloc (.cells #[.int .i64 (W : Int), .int .i64 (H : Int), .slice (some ⟨b, o, none⟩) n c] 30)).alloc (.cells #[.int .i64 q.k, .int .i64 q.a, .int .i64 q.b, .int .i64 q.c, .int .i64 q.d] 49)).alloc (.cells #[.int .i64 0, .int .i64 0, .slice none 0 0] 30)).alloc (.cells #[.int .i64 (W : Int), .int .i64 (H : Int), .slice none 0 0] 30)) (w.heap.size + 1 + 1) 0 0 none 0 0 30 := by
    refine Box.alloc ?_ _
    have := Box.new ((w.alloc (.cells #[.int .i64 (W : Int), .int .i64 (H : Int), .slice (some ⟨b, o, none⟩) n c] 30)).alloc (.cells #[.int .i64 q.k, .int .i64 q.a, .int .i64 q.b, .int .i64 q.c, .int .i64 q.d] 49)) #[.int .i64 0, .int .i64 0, .slice none 0 0] 30
    rw [show ((w.alloc (.cells #[.int .i64 (W : Int), .int .i64 (H : Int), .slice (some ⟨b, o, none⟩) n c] 30)).alloc (.cells #[.int .i64 q.k, .int .i64 q.a, .int .i64 q.b, .int .i64 q.c, .int .i64 q.d] 49)).heap.size = w.heap.size + 1 + 1 from by simp] at this
    exact this
  have hX0 : RasAtB ((((w.alloc (.cells #[.int .i64 (W : Int), .int .i64 (H : Int), .slice (some ⟨b, o, none⟩) n c] 30)).alloc (.cells #[.int .i64 q.k, .int .i64 q.a, .int .i64 q.b, .int .i64 q.c, .int .i64 q.d] 49)).alloc (.cells #[.int .i64 0, .int .i64 0, .slice none 0 0] 30)).alloc (.cells #[.int .i64 (W : Int), .int .i64 (H : Int), .slice none 0 0] 30)) (w.heap.size + 1 + 1 + 1) (W : Int) (H : Int) none 0 0 30 := by
    have := Box.new (((w.alloc (.cells #[.int .i64 (W : Int), .int .i64 (H : Int), .slice (some ⟨b, o, none⟩) n c] 30)).alloc (.cells #[.int .i64 q.k, .int .i64 q.a, .int .i64 q.b, .int .i64 q.c, .int .i64 q.d] 49)).alloc (.cells #[.int .i64 0, .int .i64 0, .slice none 0 0] 30)) #[.int .i64 (W : Int), .int .i64 (H : Int), .slice none 0 0] 30
    rw [show (((w.alloc (.cells #[.int .i64 (W : Int), .int .i64 (H : Int), .slice (some ⟨b, o, none⟩) n c] 30)).alloc (.cells #[.int .i64 q.k, .int .i64 q.a, .int .i64 q.b, .int .i64 q.c, .int .i64 q.d] 49)).alloc (.cells #[.int .i64 0, .int .i64 0, .slice none 0 0] 30)).heap.size = w.heap.size + 1 + 1 + 1 from by simp] at this
    exact this
  have hsz : w.heap.size + 1 + 1 + 1 + 1 ≤ ((((w.alloc (.cells #[.int .i64 (W : Int), .int .i64 (H : Int), .slice (some ⟨b, o, none⟩) n c] 30)).alloc (.cells #[.int .i64 q.k, .int .i64 q.a, .int .i64 q.b, .int .i64 q.c, .int .i64 q.d] 49)).alloc (.cells #[.int .i64 0, .int .i64 0, .slice none 0 0] 30)).alloc (.cells #[.int .i64 (W : Int), .int .i64 (H : Int), .slice none 0 0] 30)).heap.size := by simp
  have HB0 := Lib.hid hb0
  have HR0 := Lib.hid hR0
  have HZ0 := Lib.hid hZ0
  have HX0 := Lib.hid hX0
  have HSZ := Lib.hid hsz
  have HH := Lib.hid h
  have HOP0 := Lib.hid hO0
  clear hb0 hR0 hZ0 hX0 hsz h hO0
  go_enter Tryd.func66, Tryd.ntmps66
  go_wp2_with fail
  generalize ((((w.alloc (.cells #[.int .i64 (W : Int), .int .i64 (H : Int), .slice (some ⟨b, o, none⟩) n c] 30)).alloc (.cells #[.int .i64 q.k, .int .i64 q.a, .int .i64 q.b, .int .i64 q.c, .int .i64 q.d] 49)).alloc (.cells #[.int .i64 0, .int .i64 0, .slice none 0 0] 30)).alloc (.cells #[.int .i64 (W : Int), .int .i64 (H : Int), .slice none 0 0] 30)) = w0 at *
  go_loopw [6] (fun v wr => ∃ k : Nat, k ≤ n ∧ v = .int .i64 (k : Int) ∧ ∃ A' c', OwnP wr (w.heap.size + 1 + 1 + 1 + 1) (.slice A' k c') (tab W k f) ∧ RasAtB wr (w.heap.size + 1 + 1 + 1) (W : Int) (H : Int) A' k c' 30 ∧ RasAtB wr (w.heap.size + 1 + 1) 0 0 none 0 0 30 ∧ RasAtB wr w.heap.size (W : Int) (H : Int) (some ⟨b, o, none⟩) n c 30 ∧ OpAtB wr (w.heap.size + 1) q ∧ Below w.heap.size w wr ∧ w.heap.size + 1 + 1 + 1 + 1 ≤ wr.heap.size) (fun v _ => n - (intOf v).toNat)
  case atStart => exact ⟨0, Nat.zero_le _, rfl, none, 0, by rw [tab_zero]; exact World.ownsRow_nil _ _ _ _, HX0.out, HZ0.out, HR0.out, HOP0.out, HB0.out, HSZ.out⟩
  case round =>
    obtain ⟨k, hk, rfl, A', c', hown, hX, hZ, hR, hO, hbel, hsz⟩ := hrel
    by_cases hlt : k < n
    · obtain ⟨p, hp⟩ : ∃ p, r.p[k]? = some p := ⟨_, List.getElem?_eq_getElem (by rw [HWHN.out.2.2]; exact hlt)⟩
      obtain ⟨ha1, ha2, ha3⟩ := HAT.out k p hp
      have hpb := HPB.out p (List.mem_of_getElem? hp)
      rw [HWHN.out.1] at ha1 ha3
      rw [HWHN.out.1, HWHN.out.2.1] at ha2
      obtain ⟨v, hv⟩ : ∃ v, grayP p = v := ⟨_, rfl⟩
      have hfv : f (k % W) (k / W) = v := by rw [← HF.out, ← hv, ← ha3]
      have CL : Hid (Calls Tryd.prog 85 #[.agg #[.int .i64 p.r, .int .i64 p.g, .int .i64 p.b, .int .i64 p.a]] wr.drew (fun e w' => e = .returned (.agg #[.int .i64 v.r, .int .i64 v.g, .int .i64 v.b, .int .i64 v.a]) ∧ Below wr.drew.heap.size wr.drew w')) := Lib.hid (by rw [← hv]; exact l6Gray_any p wr.drew hpb)
      have e5 : (q.k == 5) = true := by rw [HK.out]; rfl
      clear ha1 ha2 ha3 hv hpb
      have HTS : Hid (tab W (k + 1) f = tab W k f ++ [v]) := Lib.hid (by rw [tab_succ, hfv])
      have HT36 : Hid ((tab W k f).length + 1 ≤ 1073741824) := Lib.hid (by rw [tab_length]; omega)
      have hkI : (0 : Int) ≤ (k : Int) ∧ (k : Int) < (n : Int) := by omega
      have hpx : PxAt wr b (o + k * 4) p := by
        rcases HH.out.below hbel with h0 | ⟨b', o', e, _, hc'⟩
        · rw [h0] at hp; simp at hp
        · injection e with e
          injection e with e1 e2 _
          subst e1 e2
          exact hc' _ p hp
      have HO0 : Hid (pxE.Own wr.drew (w.heap.size + 1 + 1 + 1 + 1) (.slice A' k c') (tab W k f)) := Lib.hid (El.Own.drewN (E := pxE) hown 1)
      have hszd : w.heap.size + 1 + 1 + 1 + 1 ≤ wr.drew.heap.size := hsz
      have hbb : b < w.heap.size := hbl
      have HS3 : Hid (∀ w', Below (w.heap.size + 1 + 1 + 1 + 1) wr.drew w' → RasAtB w' (w.heap.size + 1 + 1 + 1) (W : Int) (H : Int) A' k c' 30 ∧ RasAtB w' w.heap.size (W : Int) (H : Int) (some ⟨b, o, none⟩) n c 30 ∧ PxAt w' b (o + k * 4) p ∧ OpAtB w' (w.heap.size + 1) q) := Lib.hid fun w' hb => ⟨Box.below hX.drew1 hb (by omega), Box.below hR.drew1 hb (by omega), PxAt.kept (w := wr.drew) hpx fun q hq => hb.cell (by omega), Box.below (Box.drew hO) hb (by omega)⟩
      have HSb : Hid (∀ w', Below wr.drew.heap.size wr.drew w' → RasAtB w' (w.heap.size + 1 + 1 + 1) (W : Int) (H : Int) A' k c' 30 ∧ RasAtB w' w.heap.size (W : Int) (H : Int) (some ⟨b, o, none⟩) n c 30 ∧ PxAt w' b (o + k * 4) p ∧ OpAtB w' (w.heap.size + 1) q) := Lib.hid fun w' hb => HS3.out w' (hb.mono hszd)
      have HS0 := Lib.hid (HSb.out _ (Below.refl _ _))
      have HBd := Lib.hid (below_draws hbel 1)
      have HZd := Lib.hid hZ.drew1
      have HHd : Hid (HasP wr.drew wr.drew.heap.size (some ⟨b, o, none⟩) r.p) := Lib.hid ((HH.out.carry hbel (Nat.le_refl _) hbel.size).drewN 1)
      have r2 := hR.c2
      obtain ⟨y0, y1, y2, y3, y4⟩ := OpAtB.cs hO
      clear hown hX hZ hR hbel hpx hp hO hsz hfv
      go_wp2_with fail
      clear r2 y0 y1 y2 y3 y4
      refine wp_region_T (fun w' => RasAtB w' (w.heap.size + 1 + 1 + 1) (W : Int) (H : Int) A' k c' 30 ∧ RasAtB w' w.heap.size (W : Int) (H : Int) (some ⟨b, o, none⟩) n c 30 ∧ PxAt w' b (o + k * 4) p ∧ OpAtB w' (w.heap.size + 1) q) 11 (by kernel_rfl) ?_
      refine wpAnyT_take (i := 0) (d := 35) (v := .pointer (some ⟨w.heap.size + 1 + 1 + 1, 2, none⟩)) rfl rfl (by kernel_rfl) (by kernel_rfl) (by kernel_rfl) (by kernel_rfl) (by kernel_rfl) (fun _ _ _ h => h) HS0.out (Or.inl ⟨by rfl, fun w' hS' => ?_⟩) ?_
      · obtain ⟨s0, s1, s2, s3⟩ := hS'
        have t2 := s0.c2
        have v0 := s1.c0
        have v1 := s1.c1
        have v2 := s1.c2
        obtain ⟨p0, p1, p2, p3⟩ := s2
        obtain ⟨z0, z1, z2, z3, z4⟩ := OpAtB.cs s3
        go_simp
      simp only [Act.put, List.setIfInBounds_toArray, List.set_cons_zero, List.set_cons_succ]
      refine wpAnyT_take (i := 1) (d := 36) (v := .slice A' k c') rfl rfl (by kernel_rfl) (by kernel_rfl) (by kernel_rfl) (by kernel_rfl) (by kernel_rfl) (fun _ _ _ h => h) HS0.out (Or.inl ⟨by rfl, fun w' hS' => ?_⟩) ?_
      · obtain ⟨s0, s1, s2, s3⟩ := hS'
        have t2 := s0.c2
        have v0 := s1.c0
        have v1 := s1.c1
        have v2 := s1.c2
        obtain ⟨p0, p1, p2, p3⟩ := s2
        obtain ⟨z0, z1, z2, z3, z4⟩ := OpAtB.cs s3
        go_simp
      simp only [Act.put, List.setIfInBounds_toArray, List.set_cons_zero, List.set_cons_succ]
      refine wpAnyT_take (i := 2) (d := 37) (v := .pointer (some ⟨w.heap.size, 2, none⟩)) rfl rfl (by kernel_rfl) (by kernel_rfl) (by kernel_rfl) (by kernel_rfl) (by kernel_rfl) (fun _ _ _ h => h) HS0.out (Or.inl ⟨by rfl, fun w' hS' => ?_⟩) ?_
      · obtain ⟨s0, s1, s2, s3⟩ := hS'
        have t2 := s0.c2
        have v0 := s1.c0
        have v1 := s1.c1
        have v2 := s1.c2
        obtain ⟨p0, p1, p2, p3⟩ := s2
        obtain ⟨z0, z1, z2, z3, z4⟩ := OpAtB.cs s3
        go_simp
      simp only [Act.put, List.setIfInBounds_toArray, List.set_cons_zero, List.set_cons_succ]
      refine wpAnyT_take (i := 3) (d := 38) (v := .slice (some ⟨b, o, none⟩) n c) rfl rfl (by kernel_rfl) (by kernel_rfl) (by kernel_rfl) (by kernel_rfl) (by kernel_rfl) (fun _ _ _ h => h) HS0.out (Or.inl ⟨by rfl, fun w' hS' => ?_⟩) ?_
      · obtain ⟨s0, s1, s2, s3⟩ := hS'
        have t2 := s0.c2
        have v0 := s1.c0
        have v1 := s1.c1
        have v2 := s1.c2
        obtain ⟨p0, p1, p2, p3⟩ := s2
        obtain ⟨z0, z1, z2, z3, z4⟩ := OpAtB.cs s3
        go_simp
      simp only [Act.put, List.setIfInBounds_toArray, List.set_cons_zero, List.set_cons_succ]
      refine wpAnyT_take (i := 4) (d := 39) (v := .int .i64 (k : Int)) rfl rfl (by kernel_rfl) (by kernel_rfl) (by kernel_rfl) (by kernel_rfl) (by kernel_rfl) (fun _ _ _ h => h) HS0.out (Or.inl ⟨by rfl, fun w' hS' => ?_⟩) ?_
      · obtain ⟨s0, s1, s2, s3⟩ := hS'
        have t2 := s0.c2
        have v0 := s1.c0
        have v1 := s1.c1
        have v2 := s1.c2
        obtain ⟨p0, p1, p2, p3⟩ := s2
        obtain ⟨z0, z1, z2, z3, z4⟩ := OpAtB.cs s3
        go_simp
      simp only [Act.put, List.setIfInBounds_toArray, List.set_cons_zero, List.set_cons_succ]
      refine wpAnyT_take (i := 5) (d := 40) (v := .pointer (some ⟨b, o + k * 4, none⟩)) rfl rfl (by kernel_rfl) (by kernel_rfl) (by kernel_rfl) (by kernel_rfl) (by kernel_rfl) (fun _ _ _ h => h) HS0.out (Or.inl ⟨by rfl, fun w' hS' => ?_⟩) ?_
      · obtain ⟨s0, s1, s2, s3⟩ := hS'
        have t2 := s0.c2
        have v0 := s1.c0
        have v1 := s1.c1
        have v2 := s1.c2
        obtain ⟨p0, p1, p2, p3⟩ := s2
        obtain ⟨z0, z1, z2, z3, z4⟩ := OpAtB.cs s3
        go_simp
      simp only [Act.put, List.setIfInBounds_toArray, List.set_cons_zero, List.set_cons_succ]
      refine wpAnyT_take (i := 6) (d := 41) (v := .agg #[.int .i64 p.r, .int .i64 p.g, .int .i64 p.b, .int .i64 p.a]) rfl rfl (by kernel_rfl) (by kernel_rfl) (by kernel_rfl) (by kernel_rfl) (by kernel_rfl) (fun _ _ _ h => h) HS0.out (Or.inl ⟨by rfl, fun w' hS' => ?_⟩) ?_
      · obtain ⟨s0, s1, s2, s3⟩ := hS'
        have t2 := s0.c2
        have v0 := s1.c0
        have v1 := s1.c1
        have v2 := s1.c2
        obtain ⟨p0, p1, p2, p3⟩ := s2
        obtain ⟨z0, z1, z2, z3, z4⟩ := OpAtB.cs s3
        go_simp
      simp only [Act.put, List.setIfInBounds_toArray, List.set_cons_zero, List.set_cons_succ]
      refine wpAnyT_one (i := 7) (by kernel_rfl) rfl (fun K hK => ?_)
      go_simp
      refine CL.out.mono ?_
      rintro e w4 ⟨rfl, b4⟩
      have HOd : Hid (pxE.Own w4 (w.heap.size + 1 + 1 + 1 + 1) (.slice A' k c') (tab W k f)) := Lib.hid (El.Own.below (E := pxE) HO0.out b4 (Nat.le_refl _))
      have HB4 := Lib.hid b4
      refine hK.out _ _ (fun _ => HSb.out _ HB4.out) ?_
      clear hK b4
      try simp only [Act.put, List.setIfInBounds_toArray, List.set_cons_zero, List.set_cons_succ]
      obtain ⟨G, hG⟩ : ∃ G, w4.heap.size = G := ⟨_, rfl⟩
      have hGw : w.heap.size + 1 + 1 + 1 + 1 ≤ G := by rw [← hG]; exact Nat.le_trans hszd HB4.out.size
      have HOA : Hid (pxE.Own (w4.alloc (.cells #[.int .i64 v.r, .int .i64 v.g, .int .i64 v.b, .int .i64 v.a] 62)) (w.heap.size + 1 + 1 + 1 + 1) (.slice A' k c') (tab W k f)) := Lib.hid (El.Own.alloc (E := pxE) HOd.out _)
      have HBX : Hid (Box (w4.alloc (.cells #[.int .i64 v.r, .int .i64 v.g, .int .i64 v.b, .int .i64 v.a] 62)) G (pxE.cells v).toArray 62) := Lib.hid (by rw [← hG]; exact Box.new w4 _ _)
      have BA : Below wr.drew.heap.size wr.drew (w4.alloc (.cells #[.int .i64 v.r, .int .i64 v.g, .int .i64 v.b, .int .i64 v.a] 62)) := HB4.out.alloc HB4.out.size _
      refine wpAnyT_one (i := 8) (by kernel_rfl) rfl (fun K hK => ?_)
      go_simp
      refine hK.out _ _ (fun _ => HSb.out _ BA) ?_
      clear hK
      try simp only [Act.put, List.setIfInBounds_toArray, List.set_cons_zero, List.set_cons_succ]
      refine wpAnyT_one (i := 9) (by kernel_rfl) rfl (fun K hK => ?_)
      refine El.step_append (E := pxE) 28 Tryd.underlying28 rfl (.tmp 36) (.tmp 43) rfl (w.heap.size + 1 + 1 + 1 + 1) (.slice A' k c') (tab W k f) rfl HOA.out ⟨G, 0, none⟩ 1 1 [v] rfl rfl (Box.news (E := pxE) (x := v) HBX.out) (by decide) (by have := HT36.out; omega) (by simp; omega) (G + 1) (by simp [hG]) ?_
      intro g cap w5 hown5 hgr5 hg5 hcap5
      have b5 : Below (w.heap.size + 1 + 1 + 1 + 1) wr.drew w5 := (BA.mono hszd).grown hgr5 (by simp; omega) (fun q e => (World.ownsRow.lt HOd.out q e).1)
      refine hK.out _ _ (fun _ => HS3.out _ b5) ?_
      clear hK
      try simp only [Act.put, List.setIfInBounds_toArray]
      refine wpAnyT_one (i := 10) (by kernel_rfl) rfl (fun K hK => ?_)
      go_simp
      refine hK.out _ _ (fun _ => HS3.out _ b5) ?_
      clear hK
      try simp only [Act.put, List.setIfInBounds_toArray, List.set_cons_zero, List.set_cons_succ]
      refine wpAnyT_one (i := 11) (by kernel_rfl) rfl (fun K hK => ?_)
      have hx5 : RasAtB w5 (w.heap.size + 1 + 1 + 1) (W : Int) (H : Int) A' k c' 30 := (HS3.out _ b5).1
      have q2 := hx5.c2
      have f2 := hx5.free 2
      go_simp
      refine hK.out _ _ last_out ?_
      clear hK
      refine wpAnyT_done (by kernel_rfl) ?_ _
      have hl1 : ((tab W k f).length + 1) = k + 1 := by rw [tab_length]
      have hx6 : RasAtB (w5.setCell ⟨w.heap.size + 1 + 1 + 1, 2, none⟩ (.slice (some ⟨g, 0, none⟩) ((tab W k f).length + 1) cap)) (w.heap.size + 1 + 1 + 1) (W : Int) (H : Int) (some ⟨g, 0, none⟩) ((tab W k f).length + 1) cap 30 := hx5.set2 _ _ _
      have hr6 : RasAtB (w5.setCell ⟨w.heap.size + 1 + 1 + 1, 2, none⟩ (.slice (some ⟨g, 0, none⟩) ((tab W k f).length + 1) cap)) w.heap.size (W : Int) (H : Int) (some ⟨b, o, none⟩) n c 30 := (HS3.out _ b5).2.1.set_other (by omega) 2 _
      have hz6 : RasAtB (w5.setCell ⟨w.heap.size + 1 + 1 + 1, 2, none⟩ (.slice (some ⟨g, 0, none⟩) ((tab W k f).length + 1) cap)) (w.heap.size + 1 + 1) 0 0 none 0 0 30 := (Box.below HZd.out b5 (by omega)).set_other (by omega) 2 _
      have hq6 : OpAtB (w5.setCell ⟨w.heap.size + 1 + 1 + 1, 2, none⟩ (.slice (some ⟨g, 0, none⟩) ((tab W k f).length + 1) cap)) (w.heap.size + 1) q := Box.set_other (b := w.heap.size + 1 + 1 + 1) (HS3.out _ b5).2.2.2 (by omega) 2 _
      have ho6 : OwnP (w5.setCell ⟨w.heap.size + 1 + 1 + 1, 2, none⟩ (.slice (some ⟨g, 0, none⟩) ((tab W k f).length + 1) cap)) (w.heap.size + 1 + 1 + 1 + 1) (.slice (some ⟨g, 0, none⟩) ((tab W k f).length + 1) cap) (tab W (k + 1) f) := by
        rw [HTS.out]
        exact OwnP.set_low (own_px.1 hown5) (by omega) 2 _
      have hb6 : Below w.heap.size w (w5.setCell ⟨w.heap.size + 1 + 1 + 1, 2, none⟩ (.slice (some ⟨g, 0, none⟩) ((tab W k f).length + 1) cap)) := (HBd.out.trans (b5.mono (by omega))).setCell (p := ⟨w.heap.size + 1 + 1 + 1, 2, none⟩) (by simp; omega) _
      have hs6 : w.heap.size + 1 + 1 + 1 + 1 ≤ (w5.setCell ⟨w.heap.size + 1 + 1 + 1, 2, none⟩ (.slice (some ⟨g, 0, none⟩) ((tab W k f).length + 1) cap)).heap.size := by
        have := b5.size
        simp
        omega
      rw [hl1] at ho6 hx6
      have HE0 := Lib.hid (And.intro ho6 (And.intro hx6 (And.intro hz6 (And.intro hr6 (And.intro hq6 (And.intro hb6 hs6))))))
      have HL1 := Lib.hid hl1
      clear hl1 hx6 hr6 hz6 ho6 hb6 hs6 hown5 hgr5 hg5 hcap5 b5 hx5 q2 f2 hq6
      rw [HL1.out] at HE0
      try rw [HL1.out]
      go_wp2_with fail
      go_roundw
      case rel => exact ⟨k + 1, by omega, by go_num, _, _, HE0.out.1, HE0.out.2.1, HE0.out.2.2.1, HE0.out.2.2.2.1, HE0.out.2.2.2.2.1, HE0.out.2.2.2.2.2.1, HE0.out.2.2.2.2.2.2⟩
      case measure => simp [intOf]; omega
    · obtain rfl : k = n := by omega
      have hcl : k = tp.length := by rw [HTP.out, tab_length]
      rw [← HTP.out] at hown
      have HKT := Lib.hid hcl
      obtain ⟨N, hN⟩ : ∃ N, tp.length = N := ⟨_, rfl⟩
      have hown2 : OwnP wr (w.heap.size + 1 + 1 + 1 + 1) (.slice A' tp.length c') tp := by rw [← hcl]; exact hown
      have hX2 : RasAtB wr (w.heap.size + 1 + 1 + 1) (W : Int) (H : Int) A' tp.length c' 30 := by rw [← hcl]; exact hX
      have hc' : tp.length ≤ c' := (El.Own.len (E := pxE) hown2).2
      have HZ := Lib.hid hZ
      have HE := Lib.hid (HG.out A' c' _ hc' (OwnP.lower (((OwnP.set_low hown2 (b := w.heap.size + 1 + 1) (by omega) 0 (.int .i64 (W : Int))).set_low (b := w.heap.size + 1 + 1) (by omega) 1 (.int .i64 (H : Int))).set_low (b := w.heap.size + 1 + 1) (by omega) 2 (.slice A' tp.length c')) (by omega)) (((hbel.setCell (p := ⟨w.heap.size + 1 + 1, 0, none⟩) (by simp; omega) (.int .i64 (W : Int))).setCell (p := ⟨w.heap.size + 1 + 1, 1, none⟩) (by simp; omega) (.int .i64 (H : Int))).setCell (p := ⟨w.heap.size + 1 + 1, 2, none⟩) (by simp; omega) (.slice A' tp.length c')))
      have x0 := hX2.c0
      have x1 := hX2.c1
      have x2 := hX2.c2
      have z0 := hZ.c0
      have z1 := hZ.c1
      have z2 := hZ.c2
      have f0 := hZ.free 0
      have f1 := hZ.free 1
      have f2 := hZ.free 2
      have r2 := hR.c2
      clear hown hown2 hcl hX hX2 hZ hR hbel hc' hO hN
      go_wp2_with fail
      (try simp only [Exit.inBlock, Exit.then])
      refine bodyPost_ret (results_cell_row rfl _ _ (w.heap.size + 1 + 1) 30 #[.int .i64 (W : Int), .int .i64 (H : Int), .slice A' tp.length c'] (0, 0) _ rfl (fin_ras HZ.out _ _ _) Tryd.underlying30 rfl (by kernel_rfl)) rfl ?_
      exact HE.out
set_option maxHeartbeats 8000000 in
theorem l6Blur_each (r : Ra) (q : Op) (A : Option Addr) (c : Nat) (w : World) (hr : r.ok) (hk6 : q.k = 6) (hcc : r.p.length ≤ c) (h : HasP w w.heap.size A r.p) :
    Calls Tryd.prog 66 #[raV r A c, q.v] w (Drawn (blurR r) w) := by
  obtain ⟨hw6, hh6, hl, hpall⟩ := hr.parts
  have hlen := ra_len hr
  obtain ⟨b, o, -, rfl, hbl, -, -⟩ := h.spot (k := 0) (by omega)
  have HAT : Hid (∀ k p, r.p[k]? = some p → k % r.w < r.w ∧ k / r.w < r.h ∧ r.at (k % r.w) (k / r.w) = p) := Lib.hid fun k p hk => by
    have hi : k < r.w * r.h := by rw [← hl]; exact (List.getElem?_eq_some_iff.1 hk).1
    obtain ⟨h1, h2, h3⟩ := place_back hi
    refine ⟨h1, h2, ?_⟩
    unfold Ra.at
    rw [h3, hk]
    rfl
  have HPB : Hid (∀ p, p ∈ r.p → pixB p = true) := Lib.hid hpall
  have HK := Lib.hid hk6
  clear hk6
  obtain ⟨f, hf⟩ : ∃ f : Nat → Nat → Px, (fun x y => meanP r x y) = f := ⟨_, rfl⟩
  have HF := Lib.hid hf
  have HG : Hid (∀ A' c' w', (mkR r.w r.h f).p.length ≤ c' → OwnP w' w.heap.size (.slice A' (mkR r.w r.h f).p.length c') (mkR r.w r.h f).p → Below w.heap.size w w' → Drawn (blurR r) w (.returned (.agg #[.int .i64 (r.w : Int), .int .i64 (r.h : Int), .slice A' (mkR r.w r.h f).p.length c'])) w') := Lib.hid fun A' c' w' k1 k2 k3 => by
    rw [← hf] at k1 k2 ⊢
    exact ⟨A', c', rfl, k1, k2, k3⟩
  have HTP : Hid ((mkR r.w r.h f).p = tab r.w r.p.length f) := Lib.hid (by rw [hl]; rfl)
  generalize Drawn (blurR r) w = D at *
  generalize (mkR r.w r.h f).p = tp at *
  clear hf hpall hl
  unfold raV rasV
  obtain ⟨W, hW⟩ : ∃ W, r.w = W := ⟨_, rfl⟩
  obtain ⟨H, hH⟩ : ∃ H, r.h = H := ⟨_, rfl⟩
  obtain ⟨n, hn⟩ : ∃ n, r.p.length = n := ⟨_, rfl⟩
  have HWHN := Lib.hid (And.intro hW (And.intro hH hn))
  rw [hW, hH] at HG
  rw [hW, hn] at HTP
  rw [hn] at hlen hcc
  rw [hW] at hw6
  rw [hH] at hh6
  rw [hW, hH, hn]
  have HOK := Lib.hid hr
  clear hr hW hH hn
  unfold Op.v
  have hb0 : Below w.heap.size w ((((w.alloc (.cells #[.int .i64 (W : Int), .int .i64 (H : Int), .slice (some ⟨b, o, none⟩) n c] 30)).alloc (.cells #[.int .i64 q.k, .int .i64 q.a, .int .i64 q.b, .int .i64 q.c, .int .i64 q.d] 49)).alloc (.cells #[.int .i64 0, .int .i64 0, .slice none 0 0] 30)).alloc (.cells #[.int .i64 (W : Int), .int .i64 (H : Int), .slice none 0 0] 30)) := ((((Below.refl _ w).alloc (Nat.le_refl _) _).alloc (by simp) _).alloc (by simp; omega) _).alloc (by simp; omega) _
  have hR0 : RasAtB ((((w.alloc (.cells #[.int .i64 (W : Int), .int .i64 (H : Int), .slice (some ⟨b, o, none⟩) n c] 30)).alloc (.cells #[.int .i64 q.k, .int .i64 q.a, .int .i64 q.b, .int .i64 q.c, .int .i64 q.d] 49)).alloc (.cells #[.int .i64 0, .int .i64 0, .slice none 0 0] 30)).alloc (.cells #[.int .i64 (W : Int), .int .i64 (H : Int), .slice none 0 0] 30)) w.heap.size (W : Int) (H : Int) (some ⟨b, o, none⟩) n c 30 := Box.alloc (Box.alloc (Box.alloc (Box.new w _ _) _) _) _
  have hO0 : OpAtB ((((w.alloc (.cells #[.int .i64 (W : Int), .int .i64 (H : Int), .slice (some ⟨b, o, none⟩) n c] 30)).alloc (.cells #[.int .i64 q.k, .int .i64 q.a, .int .i64 q.b, .int .i64 q.c, .int .i64 q.d] 49)).alloc (.cells #[.int .i64 0, .int .i64 0, .slice none 0 0] 30)).alloc (.cells #[.int .i64 (W : Int), .int .i64 (H : Int), .slice none 0 0] 30)) (w.heap.size + 1) q := by
    refine Box.alloc (Box.alloc ?_ _) _
    have := Box.new (w.alloc (.cells #[.int .i64 (W : Int), .int .i64 (H : Int), .slice (some ⟨b, o, none⟩) n c] 30)) #[.int .i64 q.k, .int .i64 q.a, .int .i64 q.b, .int .i64 q.c, .int .i64 q.d] 49
    rw [show (w.alloc (.cells #[.int .i64 (W : Int), .int .i64 (H : Int), .slice (some ⟨b, o, none⟩) n c] 30)).heap.size = w.heap.size + 1 from by simp] at this
    exact this
  have hZ0 : RasAtB ((((w.alloc (.cells #[.int .i64 (W : Int), .int .i64 (H : Int), .slice (some ⟨b, o, none⟩) n c] 30)).alloc (.cells #[.int .i64 q.k, .int .i64 q.a, .int .i64 q.b, .int .i64 q.c, .int .i64 q.d] 49)).alloc (.cells #[.int .i64 0, .int .i64 0, .slice none 0 0] 30)).alloc (.cells #[.int .i64 (W : Int), .int .i64 (H : Int), .slice none 0 0] 30)) (w.heap.size + 1 + 1) 0 0 none 0 0 30 := by
    refine Box.alloc ?_ _
    have := Box.new ((w.alloc (.cells #[.int .i64 (W : Int), .int .i64 (H : Int), .slice (some ⟨b, o, none⟩) n c] 30)).alloc (.cells #[.int .i64 q.k, .int .i64 q.a, .int .i64 q.b, .int .i64 q.c, .int .i64 q.d] 49)) #[.int .i64 0, .int .i64 0, .slice none 0 0] 30
    rw [show ((w.alloc (.cells #[.int .i64 (W : Int), .int .i64 (H : Int), .slice (some ⟨b, o, none⟩) n c] 30)).alloc (.cells #[.int .i64 q.k, .int .i64 q.a, .int .i64 q.b, .int .i64 q.c, .int .i64 q.d] 49)).heap.size = w.heap.size + 1 + 1 from by simp] at this
    exact this
  have hX0 : RasAtB ((((w.alloc (.cells #[.int .i64 (W : Int), .int .i64 (H : Int), .slice (some ⟨b, o, none⟩) n c] 30)).alloc (.cells #[.int .i64 q.k, .int .i64 q.a, .int .i64 q.b, .int .i64 q.c, .int .i64 q.d] 49)).alloc (.cells #[.int .i64 0, .int .i64 0, .slice none 0 0] 30)).alloc (.cells #[.int .i64 (W : Int), .int .i64 (H : Int), .slice none 0 0] 30)) (w.heap.size + 1 + 1 + 1) (W : Int) (H : Int) none 0 0 30 := by
    have := Box.new (((w.alloc (.cells #[.int .i64 (W : Int), .int .i64 (H : Int), .slice (some ⟨b, o, none⟩) n c] 30)).alloc (.cells #[.int .i64 q.k, .int .i64 q.a, .int .i64 q.b, .int .i64 q.c, .int .i64 q.d] 49)).alloc (.cells #[.int .i64 0, .int .i64 0, .slice none 0 0] 30)) #[.int .i64 (W : Int), .int .i64 (H : Int), .slice none 0 0] 30
    rw [show (((w.alloc (.cells #[.int .i64 (W : Int), .int .i64 (H : Int), .slice (some ⟨b, o, none⟩) n c] 30)).alloc (.cells #[.int .i64 q.k, .int .i64 q.a, .int .i64 q.b, .int .i64 q.c, .int .i64 q.d] 49)).alloc (.cells #[.int .i64 0, .int .i64 0, .slice none 0 0] 30)).heap.size = w.heap.size + 1 + 1 + 1 from by simp] at this
    exact this
  have hsz : w.heap.size + 1 + 1 + 1 + 1 ≤ ((((w.alloc (.cells #[.int .i64 (W : Int), .int .i64 (H : Int), .slice (some ⟨b, o, none⟩) n c] 30)).alloc (.cells #[.int .i64 q.k, .int .i64 q.a, .int .i64 q.b, .int .i64 q.c, .int .i64 q.d] 49)).alloc (.cells #[.int .i64 0, .int .i64 0, .slice none 0 0] 30)).alloc (.cells #[.int .i64 (W : Int), .int .i64 (H : Int), .slice none 0 0] 30)).heap.size := by simp
  have HB0 := Lib.hid hb0
  have HR0 := Lib.hid hR0
  have HZ0 := Lib.hid hZ0
  have HX0 := Lib.hid hX0
  have HSZ := Lib.hid hsz
  have HH := Lib.hid h
  have HOP0 := Lib.hid hO0
  clear hb0 hR0 hZ0 hX0 hsz h hO0
  go_enter Tryd.func66, Tryd.ntmps66
  go_wp2_with fail
  generalize ((((w.alloc (.cells #[.int .i64 (W : Int), .int .i64 (H : Int), .slice (some ⟨b, o, none⟩) n c] 30)).alloc (.cells #[.int .i64 q.k, .int .i64 q.a, .int .i64 q.b, .int .i64 q.c, .int .i64 q.d] 49)).alloc (.cells #[.int .i64 0, .int .i64 0, .slice none 0 0] 30)).alloc (.cells #[.int .i64 (W : Int), .int .i64 (H : Int), .slice none 0 0] 30)) = w0 at *
  go_loopw [6] (fun v wr => ∃ k : Nat, k ≤ n ∧ v = .int .i64 (k : Int) ∧ ∃ A' c', OwnP wr (w.heap.size + 1 + 1 + 1 + 1) (.slice A' k c') (tab W k f) ∧ RasAtB wr (w.heap.size + 1 + 1 + 1) (W : Int) (H : Int) A' k c' 30 ∧ RasAtB wr (w.heap.size + 1 + 1) 0 0 none 0 0 30 ∧ RasAtB wr w.heap.size (W : Int) (H : Int) (some ⟨b, o, none⟩) n c 30 ∧ OpAtB wr (w.heap.size + 1) q ∧ Below w.heap.size w wr ∧ w.heap.size + 1 + 1 + 1 + 1 ≤ wr.heap.size) (fun v _ => n - (intOf v).toNat)
  case atStart => exact ⟨0, Nat.zero_le _, rfl, none, 0, by rw [tab_zero]; exact World.ownsRow_nil _ _ _ _, HX0.out, HZ0.out, HR0.out, HOP0.out, HB0.out, HSZ.out⟩
  case round =>
    obtain ⟨k, hk, rfl, A', c', hown, hX, hZ, hR, hO, hbel, hsz⟩ := hrel
    by_cases hlt : k < n
    · obtain ⟨p, hp⟩ : ∃ p, r.p[k]? = some p := ⟨_, List.getElem?_eq_getElem (by rw [HWHN.out.2.2]; exact hlt)⟩
      obtain ⟨ha1, ha2, ha3⟩ := HAT.out k p hp
      have hpb := HPB.out p (List.mem_of_getElem? hp)
      rw [HWHN.out.1] at ha1 ha3
      rw [HWHN.out.1, HWHN.out.2.1] at ha2
      obtain ⟨X, hXe⟩ : ∃ X, k % W = X := ⟨_, rfl⟩
      obtain ⟨Y, hYe⟩ : ∃ Y, k / W = Y := ⟨_, rfl⟩
      rw [hXe] at ha1
      rw [hYe] at ha2
      obtain ⟨v, hv⟩ : ∃ v, meanP r X Y = v := ⟨_, rfl⟩
      have hfv : f (k % W) (k / W) = v := by rw [← HF.out, hXe, hYe, ← hv]
      have CL : Hid (Calls Tryd.prog 86 #[.agg #[.int .i64 (W : Int), .int .i64 (H : Int), .slice (some ⟨b, o, none⟩) n c], .int .i64 (X : Int), .int .i64 (Y : Int)] wr.drew (fun e w' => e = .returned (.agg #[.int .i64 v.r, .int .i64 v.g, .int .i64 v.b, .int .i64 v.a]) ∧ Below wr.drew.heap.size wr.drew w')) := Lib.hid (by
        have := l6Mean_any r (some ⟨b, o, none⟩) c X Y wr.drew HOK.out (by rw [HWHN.out.1]; exact ha1) (by rw [HWHN.out.2.1]; exact ha2) (by rw [HWHN.out.2.2]; exact hcc) ((HH.out.carry hbel (Nat.le_refl _) hbel.size).drewN 1)
        unfold raV rasV at this
        rw [HWHN.out.1, HWHN.out.2.1, HWHN.out.2.2, hv] at this
        exact this)
      have e6 : (q.k == 6) = true := by rw [HK.out]; rfl
      have e5 : (q.k == 5) = false := by rw [HK.out]; rfl
      have k36 : k ≤ 36 := by omega
      have eX : (k : Int).tmod (W : Int) = (X : Int) := by rw [Int.tmod_eq_emod_of_nonneg (by omega), ← hXe]; exact (Int.natCast_emod k W).symm
      have eX2 : (k : Int) % (W : Int) = (X : Int) := by rw [← hXe]; exact (Int.natCast_emod k W).symm
      have eY : (k : Int).tdiv (W : Int) = (Y : Int) := by rw [Int.tdiv_eq_ediv_of_nonneg (by omega), ← hYe]; exact (Int.natCast_ediv k W).symm
      have eY2 : (k : Int) / (W : Int) = (Y : Int) := by rw [← hYe]; exact (Int.natCast_ediv k W).symm
      have nW : ¬ W = 0 := by omega
      have nW2 : ¬ (W : Int) = 0 := by omega
      have uX := IntWalk.i64_in (X : Int) (by omega)
      have uY := IntWalk.i64_in (Y : Int) (by omega)
      clear ha3 hv hpb hXe hYe
      have HTS : Hid (tab W (k + 1) f = tab W k f ++ [v]) := Lib.hid (by rw [tab_succ, hfv])
      have HT36 : Hid ((tab W k f).length + 1 ≤ 1073741824) := Lib.hid (by rw [tab_length]; omega)
      have hkI : (0 : Int) ≤ (k : Int) ∧ (k : Int) < (n : Int) := by omega
      have hpx : PxAt wr b (o + k * 4) p := by
        rcases HH.out.below hbel with h0 | ⟨b', o', e, _, hc'⟩
        · rw [h0] at hp; simp at hp
        · injection e with e
          injection e with e1 e2 _
          subst e1 e2
          exact hc' _ p hp
      have HO0 : Hid (pxE.Own wr.drew (w.heap.size + 1 + 1 + 1 + 1) (.slice A' k c') (tab W k f)) := Lib.hid (El.Own.drewN (E := pxE) hown 1)
      have hszd : w.heap.size + 1 + 1 + 1 + 1 ≤ wr.drew.heap.size := hsz
      have hbb : b < w.heap.size := hbl
      have HS3 : Hid (∀ w', Below (w.heap.size + 1 + 1 + 1 + 1) wr.drew w' → RasAtB w' (w.heap.size + 1 + 1 + 1) (W : Int) (H : Int) A' k c' 30 ∧ RasAtB w' w.heap.size (W : Int) (H : Int) (some ⟨b, o, none⟩) n c 30 ∧ PxAt w' b (o + k * 4) p ∧ OpAtB w' (w.heap.size + 1) q) := Lib.hid fun w' hb => ⟨Box.below hX.drew1 hb (by omega), Box.below hR.drew1 hb (by omega), PxAt.kept (w := wr.drew) hpx fun q hq => hb.cell (by omega), Box.below (Box.drew hO) hb (by omega)⟩
      have HSb : Hid (∀ w', Below wr.drew.heap.size wr.drew w' → RasAtB w' (w.heap.size + 1 + 1 + 1) (W : Int) (H : Int) A' k c' 30 ∧ RasAtB w' w.heap.size (W : Int) (H : Int) (some ⟨b, o, none⟩) n c 30 ∧ PxAt w' b (o + k * 4) p ∧ OpAtB w' (w.heap.size + 1) q) := Lib.hid fun w' hb => HS3.out w' (hb.mono hszd)
      have HS0 := Lib.hid (HSb.out _ (Below.refl _ _))
      have HBd := Lib.hid (below_draws hbel 1)
      have HZd := Lib.hid hZ.drew1
      have HHd : Hid (HasP wr.drew wr.drew.heap.size (some ⟨b, o, none⟩) r.p) := Lib.hid ((HH.out.carry hbel (Nat.le_refl _) hbel.size).drewN 1)
      have r2 := hR.c2
      obtain ⟨y0, y1, y2, y3, y4⟩ := OpAtB.cs hO
      clear hown hX hZ hR hbel hpx hp hO hsz hfv
      go_wp2_with fail
      clear r2 y0 y1 y2 y3 y4
      refine wp_region_T (fun w' => RasAtB w' (w.heap.size + 1 + 1 + 1) (W : Int) (H : Int) A' k c' 30 ∧ RasAtB w' w.heap.size (W : Int) (H : Int) (some ⟨b, o, none⟩) n c 30 ∧ PxAt w' b (o + k * 4) p ∧ OpAtB w' (w.heap.size + 1) q) 15 (by kernel_rfl) ?_
      refine wpAnyT_take (i := 0) (d := 48) (v := .pointer (some ⟨w.heap.size + 1 + 1 + 1, 2, none⟩)) rfl rfl (by kernel_rfl) (by kernel_rfl) (by kernel_rfl) (by kernel_rfl) (by kernel_rfl) (fun _ _ _ h => h) HS0.out (Or.inl ⟨by rfl, fun w' hS' => ?_⟩) ?_
      · obtain ⟨s0, s1, s2, s3⟩ := hS'
        have t2 := s0.c2
        have v0 := s1.c0
        have v1 := s1.c1
        have v2 := s1.c2
        obtain ⟨p0, p1, p2, p3⟩ := s2
        obtain ⟨z0, z1, z2, z3, z4⟩ := OpAtB.cs s3
        go_simp
      simp only [Act.put, List.setIfInBounds_toArray, List.set_cons_zero, List.set_cons_succ]
      refine wpAnyT_take (i := 1) (d := 49) (v := .slice A' k c') rfl rfl (by kernel_rfl) (by kernel_rfl) (by kernel_rfl) (by kernel_rfl) (by kernel_rfl) (fun _ _ _ h => h) HS0.out (Or.inl ⟨by rfl, fun w' hS' => ?_⟩) ?_
      · obtain ⟨s0, s1, s2, s3⟩ := hS'
        have t2 := s0.c2
        have v0 := s1.c0
        have v1 := s1.c1
        have v2 := s1.c2
        obtain ⟨p0, p1, p2, p3⟩ := s2
        obtain ⟨z0, z1, z2, z3, z4⟩ := OpAtB.cs s3
        go_simp
      simp only [Act.put, List.setIfInBounds_toArray, List.set_cons_zero, List.set_cons_succ]
      refine wpAnyT_take (i := 2) (d := 50) (v := .agg #[.int .i64 (W : Int), .int .i64 (H : Int), .slice (some ⟨b, o, none⟩) n c]) rfl rfl (by kernel_rfl) (by kernel_rfl) (by kernel_rfl) (by kernel_rfl) (by kernel_rfl) (fun _ _ _ h => h) HS0.out (Or.inl ⟨by rfl, fun w' hS' => ?_⟩) ?_
      · obtain ⟨s0, s1, s2, s3⟩ := hS'
        have t2 := s0.c2
        have v0 := s1.c0
        have v1 := s1.c1
        have v2 := s1.c2
        obtain ⟨p0, p1, p2, p3⟩ := s2
        obtain ⟨z0, z1, z2, z3, z4⟩ := OpAtB.cs s3
        go_simp
      simp only [Act.put, List.setIfInBounds_toArray, List.set_cons_zero, List.set_cons_succ]
      refine wpAnyT_take (i := 3) (d := 51) (v := .int .i64 (k : Int)) rfl rfl (by kernel_rfl) (by kernel_rfl) (by kernel_rfl) (by kernel_rfl) (by kernel_rfl) (fun _ _ _ h => h) HS0.out (Or.inl ⟨by rfl, fun w' hS' => ?_⟩) ?_
      · obtain ⟨s0, s1, s2, s3⟩ := hS'
        have t2 := s0.c2
        have v0 := s1.c0
        have v1 := s1.c1
        have v2 := s1.c2
        obtain ⟨p0, p1, p2, p3⟩ := s2
        obtain ⟨z0, z1, z2, z3, z4⟩ := OpAtB.cs s3
        go_simp
      simp only [Act.put, List.setIfInBounds_toArray, List.set_cons_zero, List.set_cons_succ]
      refine wpAnyT_take (i := 4) (d := 52) (v := .pointer (some ⟨w.heap.size, 0, none⟩)) rfl rfl (by kernel_rfl) (by kernel_rfl) (by kernel_rfl) (by kernel_rfl) (by kernel_rfl) (fun _ _ _ h => h) HS0.out (Or.inl ⟨by rfl, fun w' hS' => ?_⟩) ?_
      · obtain ⟨s0, s1, s2, s3⟩ := hS'
        have t2 := s0.c2
        have v0 := s1.c0
        have v1 := s1.c1
        have v2 := s1.c2
        obtain ⟨p0, p1, p2, p3⟩ := s2
        obtain ⟨z0, z1, z2, z3, z4⟩ := OpAtB.cs s3
        go_simp
      simp only [Act.put, List.setIfInBounds_toArray, List.set_cons_zero, List.set_cons_succ]
      refine wpAnyT_take (i := 5) (d := 53) (v := .int .i64 (W : Int)) rfl rfl (by kernel_rfl) (by kernel_rfl) (by kernel_rfl) (by kernel_rfl) (by kernel_rfl) (fun _ _ _ h => h) HS0.out (Or.inl ⟨by rfl, fun w' hS' => ?_⟩) ?_
      · obtain ⟨s0, s1, s2, s3⟩ := hS'
        have t2 := s0.c2
        have v0 := s1.c0
        have v1 := s1.c1
        have v2 := s1.c2
        obtain ⟨p0, p1, p2, p3⟩ := s2
        obtain ⟨z0, z1, z2, z3, z4⟩ := OpAtB.cs s3
        go_simp
      simp only [Act.put, List.setIfInBounds_toArray, List.set_cons_zero, List.set_cons_succ]
      refine wpAnyT_take (i := 6) (d := 54) (v := .int .i64 (X : Int)) rfl rfl (by kernel_rfl) (by kernel_rfl) (by kernel_rfl) (by kernel_rfl) (by kernel_rfl) (fun _ _ _ h => h) HS0.out (Or.inl ⟨by rfl, fun w' hS' => ?_⟩) ?_
      · obtain ⟨s0, s1, s2, s3⟩ := hS'
        have t2 := s0.c2
        have v0 := s1.c0
        have v1 := s1.c1
        have v2 := s1.c2
        obtain ⟨p0, p1, p2, p3⟩ := s2
        obtain ⟨z0, z1, z2, z3, z4⟩ := OpAtB.cs s3
        go_simp
      simp only [Act.put, List.setIfInBounds_toArray, List.set_cons_zero, List.set_cons_succ]
      refine wpAnyT_take (i := 7) (d := 55) (v := .int .i64 (k : Int)) rfl rfl (by kernel_rfl) (by kernel_rfl) (by kernel_rfl) (by kernel_rfl) (by kernel_rfl) (fun _ _ _ h => h) HS0.out (Or.inl ⟨by rfl, fun w' hS' => ?_⟩) ?_
      · obtain ⟨s0, s1, s2, s3⟩ := hS'
        have t2 := s0.c2
        have v0 := s1.c0
        have v1 := s1.c1
        have v2 := s1.c2
        obtain ⟨p0, p1, p2, p3⟩ := s2
        obtain ⟨z0, z1, z2, z3, z4⟩ := OpAtB.cs s3
        go_simp
      simp only [Act.put, List.setIfInBounds_toArray, List.set_cons_zero, List.set_cons_succ]
      refine wpAnyT_take (i := 8) (d := 56) (v := .pointer (some ⟨w.heap.size, 0, none⟩)) rfl rfl (by kernel_rfl) (by kernel_rfl) (by kernel_rfl) (by kernel_rfl) (by kernel_rfl) (fun _ _ _ h => h) HS0.out (Or.inl ⟨by rfl, fun w' hS' => ?_⟩) ?_
      · obtain ⟨s0, s1, s2, s3⟩ := hS'
        have t2 := s0.c2
        have v0 := s1.c0
        have v1 := s1.c1
        have v2 := s1.c2
        obtain ⟨p0, p1, p2, p3⟩ := s2
        obtain ⟨z0, z1, z2, z3, z4⟩ := OpAtB.cs s3
        go_simp
      simp only [Act.put, List.setIfInBounds_toArray, List.set_cons_zero, List.set_cons_succ]
      refine wpAnyT_take (i := 9) (d := 57) (v := .int .i64 (W : Int)) rfl rfl (by kernel_rfl) (by kernel_rfl) (by kernel_rfl) (by kernel_rfl) (by kernel_rfl) (fun _ _ _ h => h) HS0.out (Or.inl ⟨by rfl, fun w' hS' => ?_⟩) ?_
      · obtain ⟨s0, s1, s2, s3⟩ := hS'
        have t2 := s0.c2
        have v0 := s1.c0
        have v1 := s1.c1
        have v2 := s1.c2
        obtain ⟨p0, p1, p2, p3⟩ := s2
        obtain ⟨z0, z1, z2, z3, z4⟩ := OpAtB.cs s3
        go_simp
      simp only [Act.put, List.setIfInBounds_toArray, List.set_cons_zero, List.set_cons_succ]
      refine wpAnyT_take (i := 10) (d := 58) (v := .int .i64 (Y : Int)) rfl rfl (by kernel_rfl) (by kernel_rfl) (by kernel_rfl) (by kernel_rfl) (by kernel_rfl) (fun _ _ _ h => h) HS0.out (Or.inl ⟨by rfl, fun w' hS' => ?_⟩) ?_
      · obtain ⟨s0, s1, s2, s3⟩ := hS'
        have t2 := s0.c2
        have v0 := s1.c0
        have v1 := s1.c1
        have v2 := s1.c2
        obtain ⟨p0, p1, p2, p3⟩ := s2
        obtain ⟨z0, z1, z2, z3, z4⟩ := OpAtB.cs s3
        go_simp
      simp only [Act.put, List.setIfInBounds_toArray, List.set_cons_zero, List.set_cons_succ]
      refine wpAnyT_one (i := 11) (by kernel_rfl) rfl (fun K hK => ?_)
      go_simp
      refine CL.out.mono ?_
      rintro e w4 ⟨rfl, b4⟩
      have HOd : Hid (pxE.Own w4 (w.heap.size + 1 + 1 + 1 + 1) (.slice A' k c') (tab W k f)) := Lib.hid (El.Own.below (E := pxE) HO0.out b4 (Nat.le_refl _))
      have HB4 := Lib.hid b4
      refine hK.out _ _ (fun _ => HSb.out _ HB4.out) ?_
      clear hK b4
      try simp only [Act.put, List.setIfInBounds_toArray, List.set_cons_zero, List.set_cons_succ]
      obtain ⟨G, hG⟩ : ∃ G, w4.heap.size = G := ⟨_, rfl⟩
      have hGw : w.heap.size + 1 + 1 + 1 + 1 ≤ G := by rw [← hG]; exact Nat.le_trans hszd HB4.out.size
      have HOA : Hid (pxE.Own (w4.alloc (.cells #[.int .i64 v.r, .int .i64 v.g, .int .i64 v.b, .int .i64 v.a] 62)) (w.heap.size + 1 + 1 + 1 + 1) (.slice A' k c') (tab W k f)) := Lib.hid (El.Own.alloc (E := pxE) HOd.out _)
      have HBX : Hid (Box (w4.alloc (.cells #[.int .i64 v.r, .int .i64 v.g, .int .i64 v.b, .int .i64 v.a] 62)) G (pxE.cells v).toArray 62) := Lib.hid (by rw [← hG]; exact Box.new w4 _ _)
      have BA : Below wr.drew.heap.size wr.drew (w4.alloc (.cells #[.int .i64 v.r, .int .i64 v.g, .int .i64 v.b, .int .i64 v.a] 62)) := HB4.out.alloc HB4.out.size _
      refine wpAnyT_one (i := 12) (by kernel_rfl) rfl (fun K hK => ?_)
      go_simp
      refine hK.out _ _ (fun _ => HSb.out _ BA) ?_
      clear hK
      try simp only [Act.put, List.setIfInBounds_toArray, List.set_cons_zero, List.set_cons_succ]
      refine wpAnyT_one (i := 13) (by kernel_rfl) rfl (fun K hK => ?_)
      refine El.step_append (E := pxE) 28 Tryd.underlying28 rfl (.tmp 49) (.tmp 60) rfl (w.heap.size + 1 + 1 + 1 + 1) (.slice A' k c') (tab W k f) rfl HOA.out ⟨G, 0, none⟩ 1 1 [v] rfl rfl (Box.news (E := pxE) (x := v) HBX.out) (by decide) (by have := HT36.out; omega) (by simp; omega) (G + 1) (by simp [hG]) ?_
      intro g cap w5 hown5 hgr5 hg5 hcap5
      have b5 : Below (w.heap.size + 1 + 1 + 1 + 1) wr.drew w5 := (BA.mono hszd).grown hgr5 (by simp; omega) (fun q e => (World.ownsRow.lt HOd.out q e).1)
      refine hK.out _ _ (fun _ => HS3.out _ b5) ?_
      clear hK
      try simp only [Act.put, List.setIfInBounds_toArray]
      refine wpAnyT_one (i := 14) (by kernel_rfl) rfl (fun K hK => ?_)
      go_simp
      refine hK.out _ _ (fun _ => HS3.out _ b5) ?_
      clear hK
      try simp only [Act.put, List.setIfInBounds_toArray, List.set_cons_zero, List.set_cons_succ]
      refine wpAnyT_one (i := 15) (by kernel_rfl) rfl (fun K hK => ?_)
      have hx5 : RasAtB w5 (w.heap.size + 1 + 1 + 1) (W : Int) (H : Int) A' k c' 30 := (HS3.out _ b5).1
      have q2 := hx5.c2
      have f2 := hx5.free 2
      go_simp
      refine hK.out _ _ last_out ?_
      clear hK
      refine wpAnyT_done (by kernel_rfl) ?_ _
      have hl1 : ((tab W k f).length + 1) = k + 1 := by rw [tab_length]
      have hx6 : RasAtB (w5.setCell ⟨w.heap.size + 1 + 1 + 1, 2, none⟩ (.slice (some ⟨g, 0, none⟩) ((tab W k f).length + 1) cap)) (w.heap.size + 1 + 1 + 1) (W : Int) (H : Int) (some ⟨g, 0, none⟩) ((tab W k f).length + 1) cap 30 := hx5.set2 _ _ _
      have hr6 : RasAtB (w5.setCell ⟨w.heap.size + 1 + 1 + 1, 2, none⟩ (.slice (some ⟨g, 0, none⟩) ((tab W k f).length + 1) cap)) w.heap.size (W : Int) (H : Int) (some ⟨b, o, none⟩) n c 30 := (HS3.out _ b5).2.1.set_other (by omega) 2 _
      have hz6 : RasAtB (w5.setCell ⟨w.heap.size + 1 + 1 + 1, 2, none⟩ (.slice (some ⟨g, 0, none⟩) ((tab W k f).length + 1) cap)) (w.heap.size + 1 + 1) 0 0 none 0 0 30 := (Box.below HZd.out b5 (by omega)).set_other (by omega) 2 _
      have hq6 : OpAtB (w5.setCell ⟨w.heap.size + 1 + 1 + 1, 2, none⟩ (.slice (some ⟨g, 0, none⟩) ((tab W k f).length + 1) cap)) (w.heap.size + 1) q := Box.set_other (b := w.heap.size + 1 + 1 + 1) (HS3.out _ b5).2.2.2 (by omega) 2 _
      have ho6 : OwnP (w5.setCell ⟨w.heap.size + 1 + 1 + 1, 2, none⟩ (.slice (some ⟨g, 0, none⟩) ((tab W k f).length + 1) cap)) (w.heap.size + 1 + 1 + 1 + 1) (.slice (some ⟨g, 0, none⟩) ((tab W k f).length + 1) cap) (tab W (k + 1) f) := by
        rw [HTS.out]
        exact OwnP.set_low (own_px.1 hown5) (by omega) 2 _
      have hb6 : Below w.heap.size w (w5.setCell ⟨w.heap.size + 1 + 1 + 1, 2, none⟩ (.slice (some ⟨g, 0, none⟩) ((tab W k f).length + 1) cap)) := (HBd.out.trans (b5.mono (by omega))).setCell (p := ⟨w.heap.size + 1 + 1 + 1, 2, none⟩) (by simp; omega) _
      have hs6 : w.heap.size + 1 + 1 + 1 + 1 ≤ (w5.setCell ⟨w.heap.size + 1 + 1 + 1, 2, none⟩ (.slice (some ⟨g, 0, none⟩) ((tab W k f).length + 1) cap)).heap.size := by
        have := b5.size
        simp
        omega
      rw [hl1] at ho6 hx6
      have HE0 := Lib.hid (And.intro ho6 (And.intro hx6 (And.intro hz6 (And.intro hr6 (And.intro hq6 (And.intro hb6 hs6))))))
      have HL1 := Lib.hid hl1
      clear hl1 hx6 hr6 hz6 ho6 hb6 hs6 hown5 hgr5 hg5 hcap5 b5 hx5 q2 f2 hq6
      rw [HL1.out] at HE0
      try rw [HL1.out]
      go_wp2_with fail
      go_roundw
      case rel => exact ⟨k + 1, by omega, by go_num, _, _, HE0.out.1, HE0.out.2.1, HE0.out.2.2.1, HE0.out.2.2.2.1, HE0.out.2.2.2.2.1, HE0.out.2.2.2.2.2.1, HE0.out.2.2.2.2.2.2⟩
      case measure => simp [intOf]; omega
    · obtain rfl : k = n := by omega
      have hcl : k = tp.length := by rw [HTP.out, tab_length]
      rw [← HTP.out] at hown
      have HKT := Lib.hid hcl
      obtain ⟨N, hN⟩ : ∃ N, tp.length = N := ⟨_, rfl⟩
      have hown2 : OwnP wr (w.heap.size + 1 + 1 + 1 + 1) (.slice A' tp.length c') tp := by rw [← hcl]; exact hown
      have hX2 : RasAtB wr (w.heap.size + 1 + 1 + 1) (W : Int) (H : Int) A' tp.length c' 30 := by rw [← hcl]; exact hX
      have hc' : tp.length ≤ c' := (El.Own.len (E := pxE) hown2).2
      have HZ := Lib.hid hZ
      have HE := Lib.hid (HG.out A' c' _ hc' (OwnP.lower (((OwnP.set_low hown2 (b := w.heap.size + 1 + 1) (by omega) 0 (.int .i64 (W : Int))).set_low (b := w.heap.size + 1 + 1) (by omega) 1 (.int .i64 (H : Int))).set_low (b := w.heap.size + 1 + 1) (by omega) 2 (.slice A' tp.length c')) (by omega)) (((hbel.setCell (p := ⟨w.heap.size + 1 + 1, 0, none⟩) (by simp; omega) (.int .i64 (W : Int))).setCell (p := ⟨w.heap.size + 1 + 1, 1, none⟩) (by simp; omega) (.int .i64 (H : Int))).setCell (p := ⟨w.heap.size + 1 + 1, 2, none⟩) (by simp; omega) (.slice A' tp.length c')))
      have x0 := hX2.c0
      have x1 := hX2.c1
      have x2 := hX2.c2
      have z0 := hZ.c0
      have z1 := hZ.c1
      have z2 := hZ.c2
      have f0 := hZ.free 0
      have f1 := hZ.free 1
      have f2 := hZ.free 2
      have r2 := hR.c2
      clear hown hown2 hcl hX hX2 hZ hR hbel hc' hO hN
      go_wp2_with fail
      (try simp only [Exit.inBlock, Exit.then])
      refine bodyPost_ret (results_cell_row rfl _ _ (w.heap.size + 1 + 1) 30 #[.int .i64 (W : Int), .int .i64 (H : Int), .slice A' tp.length c'] (0, 0) _ rfl (fin_ras HZ.out _ _ _) Tryd.underlying30 rfl (by kernel_rfl)) rfl ?_
      exact HE.out
set_option maxHeartbeats 8000000 in
theorem l6Flat_each (r : Ra) (q : Op) (A : Option Addr) (c : Nat) (w : World) (hr : r.ok) (hk8 : q.k = 8) (hqf : (0 ≤ q.a ∧ q.a ≤ 255) ∧ (0 ≤ q.b ∧ q.b ≤ 255) ∧ (0 ≤ q.c ∧ q.c ≤ 255)) (hcc : r.p.length ≤ c) (h : HasP w w.heap.size A r.p) :
    Calls Tryd.prog 66 #[raV r A c, q.v] w (Drawn (eachR (flatP1 q) r) w) := by
  obtain ⟨hw6, hh6, hl, hpall⟩ := hr.parts
  have hlen := ra_len hr
  obtain ⟨b, o, -, rfl, hbl, -, -⟩ := h.spot (k := 0) (by omega)
  have HAT : Hid (∀ k p, r.p[k]? = some p → k % r.w < r.w ∧ k / r.w < r.h ∧ r.at (k % r.w) (k / r.w) = p) := Lib.hid fun k p hk => by
    have hi : k < r.w * r.h := by rw [← hl]; exact (List.getElem?_eq_some_iff.1 hk).1
    obtain ⟨h1, h2, h3⟩ := place_back hi
    refine ⟨h1, h2, ?_⟩
    unfold Ra.at
    rw [h3, hk]
    rfl
  have HPB : Hid (∀ p, p ∈ r.p → pixB p = true) := Lib.hid hpall
  have HK := Lib.hid hk8
  have HKF := Lib.hid hqf
  clear hk8 hqf
  obtain ⟨f, hf⟩ : ∃ f : Nat → Nat → Px, (fun x y => flatP1 q (r.at x y)) = f := ⟨_, rfl⟩
  have HF := Lib.hid hf
  have HG : Hid (∀ A' c' w', (mkR r.w r.h f).p.length ≤ c' → OwnP w' w.heap.size (.slice A' (mkR r.w r.h f).p.length c') (mkR r.w r.h f).p → Below w.heap.size w w' → Drawn (eachR (flatP1 q) r) w (.returned (.agg #[.int .i64 (r.w : Int), .int .i64 (r.h : Int), .slice A' (mkR r.w r.h f).p.length c'])) w') := Lib.hid fun A' c' w' k1 k2 k3 => by
    rw [← hf] at k1 k2 ⊢
    exact ⟨A', c', rfl, k1, k2, k3⟩
  have HTP : Hid ((mkR r.w r.h f).p = tab r.w r.p.length f) := Lib.hid (by rw [hl]; rfl)
  generalize Drawn (eachR (flatP1 q) r) w = D at *
  generalize (mkR r.w r.h f).p = tp at *
  clear hf hpall hl
  unfold raV rasV
  obtain ⟨W, hW⟩ : ∃ W, r.w = W := ⟨_, rfl⟩
  obtain ⟨H, hH⟩ : ∃ H, r.h = H := ⟨_, rfl⟩
  obtain ⟨n, hn⟩ : ∃ n, r.p.length = n := ⟨_, rfl⟩
  have HWHN := Lib.hid (And.intro hW (And.intro hH hn))
  rw [hW, hH] at HG
  rw [hW, hn] at HTP
  rw [hn] at hlen hcc
  rw [hW] at hw6
  rw [hH] at hh6
  rw [hW, hH, hn]
  have HOK := Lib.hid hr
  clear hr hW hH hn
  unfold Op.v
  have hb0 : Below w.heap.size w ((((w.alloc (.cells #[.int .i64 (W : Int), .int .i64 (H : Int), .slice (some ⟨b, o, none⟩) n c] 30)).alloc (.cells #[.int .i64 q.k, .int .i64 q.a, .int .i64 q.b, .int .i64 q.c, .int .i64 q.d] 49)).alloc (.cells #[.int .i64 0, .int .i64 0, .slice none 0 0] 30)).alloc (.cells #[.int .i64 (W : Int), .int .i64 (H : Int), .slice none 0 0] 30)) := ((((Below.refl _ w).alloc (Nat.le_refl _) _).alloc (by simp) _).alloc (by simp; omega) _).alloc (by simp; omega) _
  have hR0 : RasAtB ((((w.alloc (.cells #[.int .i64 (W : Int), .int .i64 (H : Int), .slice (some ⟨b, o, none⟩) n c] 30)).alloc (.cells #[.int .i64 q.k, .int .i64 q.a, .int .i64 q.b, .int .i64 q.c, .int .i64 q.d] 49)).alloc (.cells #[.int .i64 0, .int .i64 0, .slice none 0 0] 30)).alloc (.cells #[.int .i64 (W : Int), .int .i64 (H : Int), .slice none 0 0] 30)) w.heap.size (W : Int) (H : Int) (some ⟨b, o, none⟩) n c 30 := Box.alloc (Box.alloc (Box.alloc (Box.new w _ _) _) _) _
  have hO0 : OpAtB ((((w.alloc (.cells #[.int .i64 (W : Int), .int .i64 (H : Int), .slice (some ⟨b, o, none⟩) n c] 30)).alloc (.cells #[.int .i64 q.k, .int .i64 q.a, .int .i64 q.b, .int .i64 q.c, .int .i64 q.d] 49)).alloc (.cells #[.int .i64 0, .int .i64 0, .slice none 0 0] 30)).alloc (.cells #[.int .i64 (W : Int), .int .i64 (H : Int), .slice none 0 0] 30)) (w.heap.size + 1) q := by
    refine Box.alloc (Box.alloc ?_ _) _
    have := Box.new (w.alloc (.cells #[.int .i64 (W : Int), .int .i64 (H : Int), .slice (some ⟨b, o, none⟩) n c] 30)) #[.int .i64 q.k, .int .i64 q.a, .int .i64 q.b, .int .i64 q.c, .int .i64 q.d] 49
    rw [show (w.alloc (.cells #[.int .i64 (W : Int), .int .i64 (H : Int), .slice (some ⟨b, o, none⟩) n c] 30)).heap.size = w.heap.size + 1 from by simp] at this
    exact this
  have hZ0 : RasAtB ((((w.alloc (.cells #[.int .i64 (W : Int), .int .i64 (H : Int), .slice (some ⟨b, o, none⟩) n c] 30)).alloc (.cells #[.int .i64 q.k, .int .i64 q.a, .int .i64 q.b, .int .i64 q.c, .int .i64 q.d] 49)).alloc (.cells #[.int .i64 0, .int .i64 0, .slice none 0 0] 30)).alloc (.cells #[.int .i64 (W : Int), .int .i64 (H : Int), .slice none 0 0] 30)) (w.heap.size + 1 + 1) 0 0 none 0 0 30 := by
    refine Box.alloc ?_ _
    have := Box.new ((w.alloc (.cells #[.int .i64 (W : Int), .int .i64 (H : Int), .slice (some ⟨b, o, none⟩) n c] 30)).alloc (.cells #[.int .i64 q.k, .int .i64 q.a, .int .i64 q.b, .int .i64 q.c, .int .i64 q.d] 49)) #[.int .i64 0, .int .i64 0, .slice none 0 0] 30
    rw [show ((w.alloc (.cells #[.int .i64 (W : Int), .int .i64 (H : Int), .slice (some ⟨b, o, none⟩) n c] 30)).alloc (.cells #[.int .i64 q.k, .int .i64 q.a, .int .i64 q.b, .int .i64 q.c, .int .i64 q.d] 49)).heap.size = w.heap.size + 1 + 1 from by simp] at this
    exact this
  have hX0 : RasAtB ((((w.alloc (.cells #[.int .i64 (W : Int), .int .i64 (H : Int), .slice (some ⟨b, o, none⟩) n c] 30)).alloc (.cells #[.int .i64 q.k, .int .i64 q.a, .int .i64 q.b, .int .i64 q.c, .int .i64 q.d] 49)).alloc (.cells #[.int .i64 0, .int .i64 0, .slice none 0 0] 30)).alloc (.cells #[.int .i64 (W : Int), .int .i64 (H : Int), .slice none 0 0] 30)) (w.heap.size + 1 + 1 + 1) (W : Int) (H : Int) none 0 0 30 := by
    have := Box.new (((w.alloc (.cells #[.int .i64 (W : Int), .int .i64 (H : Int), .slice (some ⟨b, o, none⟩) n c] 30)).alloc (.cells #[.int .i64 q.k, .int .i64 q.a, .int .i64 q.b, .int .i64 q.c, .int .i64 q.d] 49)).alloc (.cells #[.int .i64 0, .int .i64 0, .slice none 0 0] 30)) #[.int .i64 (W : Int), .int .i64 (H : Int), .slice none 0 0] 30
    rw [show (((w.alloc (.cells #[.int .i64 (W : Int), .int .i64 (H : Int), .slice (some ⟨b, o, none⟩) n c] 30)).alloc (.cells #[.int .i64 q.k, .int .i64 q.a, .int .i64 q.b, .int .i64 q.c, .int .i64 q.d] 49)).alloc (.cells #[.int .i64 0, .int .i64 0, .slice none 0 0] 30)).heap.size = w.heap.size + 1 + 1 + 1 from by simp] at this
    exact this
  have hsz : w.heap.size + 1 + 1 + 1 + 1 ≤ ((((w.alloc (.cells #[.int .i64 (W : Int), .int .i64 (H : Int), .slice (some ⟨b, o, none⟩) n c] 30)).alloc (.cells #[.int .i64 q.k, .int .i64 q.a, .int .i64 q.b, .int .i64 q.c, .int .i64 q.d] 49)).alloc (.cells #[.int .i64 0, .int .i64 0, .slice none 0 0] 30)).alloc (.cells #[.int .i64 (W : Int), .int .i64 (H : Int), .slice none 0 0] 30)).heap.size := by simp
  have HB0 := Lib.hid hb0
  have HR0 := Lib.hid hR0
  have HZ0 := Lib.hid hZ0
  have HX0 := Lib.hid hX0
  have HSZ := Lib.hid hsz
  have HH := Lib.hid h
  have HOP0 := Lib.hid hO0
  clear hb0 hR0 hZ0 hX0 hsz h hO0
  go_enter Tryd.func66, Tryd.ntmps66
  go_wp2_with fail
  generalize ((((w.alloc (.cells #[.int .i64 (W : Int), .int .i64 (H : Int), .slice (some ⟨b, o, none⟩) n c] 30)).alloc (.cells #[.int .i64 q.k, .int .i64 q.a, .int .i64 q.b, .int .i64 q.c, .int .i64 q.d] 49)).alloc (.cells #[.int .i64 0, .int .i64 0, .slice none 0 0] 30)).alloc (.cells #[.int .i64 (W : Int), .int .i64 (H : Int), .slice none 0 0] 30)) = w0 at *
  go_loopw [6] (fun v wr => ∃ k : Nat, k ≤ n ∧ v = .int .i64 (k : Int) ∧ ∃ A' c', OwnP wr (w.heap.size + 1 + 1 + 1 + 1) (.slice A' k c') (tab W k f) ∧ RasAtB wr (w.heap.size + 1 + 1 + 1) (W : Int) (H : Int) A' k c' 30 ∧ RasAtB wr (w.heap.size + 1 + 1) 0 0 none 0 0 30 ∧ RasAtB wr w.heap.size (W : Int) (H : Int) (some ⟨b, o, none⟩) n c 30 ∧ OpAtB wr (w.heap.size + 1) q ∧ Below w.heap.size w wr ∧ w.heap.size + 1 + 1 + 1 + 1 ≤ wr.heap.size) (fun v _ => n - (intOf v).toNat)
  case atStart => exact ⟨0, Nat.zero_le _, rfl, none, 0, by rw [tab_zero]; exact World.ownsRow_nil _ _ _ _, HX0.out, HZ0.out, HR0.out, HOP0.out, HB0.out, HSZ.out⟩
  case round =>
    obtain ⟨k, hk, rfl, A', c', hown, hX, hZ, hR, hO, hbel, hsz⟩ := hrel
    by_cases hlt : k < n
    · obtain ⟨p, hp⟩ : ∃ p, r.p[k]? = some p := ⟨_, List.getElem?_eq_getElem (by rw [HWHN.out.2.2]; exact hlt)⟩
      obtain ⟨ha1, ha2, ha3⟩ := HAT.out k p hp
      have hpb := HPB.out p (List.mem_of_getElem? hp)
      rw [HWHN.out.1] at ha1 ha3
      rw [HWHN.out.1, HWHN.out.2.1] at ha2
      obtain ⟨v, hv⟩ : ∃ v, flatP1 q p = v := ⟨_, rfl⟩
      have hfv : f (k % W) (k / W) = v := by rw [← HF.out, ← hv, ← ha3]
      have CL : Hid (Calls Tryd.prog 87 #[.agg #[.int .i64 p.r, .int .i64 p.g, .int .i64 p.b, .int .i64 p.a], .agg #[.int .i64 q.k, .int .i64 q.a, .int .i64 q.b, .int .i64 q.c, .int .i64 q.d]] wr.drew (fun e w' => e = .returned (.agg #[.int .i64 v.r, .int .i64 v.g, .int .i64 v.b, .int .i64 v.a]) ∧ Below wr.drew.heap.size wr.drew w')) := Lib.hid (by rw [← hv]; exact l6Flat_any p q wr.drew hpb HKF.out.1 HKF.out.2.1 HKF.out.2.2)
      have e5 : (q.k == 5) = false := by rw [HK.out]; rfl
      have e6 : (q.k == 6) = false := by rw [HK.out]; rfl
      clear ha1 ha2 ha3 hv hpb
      have HTS : Hid (tab W (k + 1) f = tab W k f ++ [v]) := Lib.hid (by rw [tab_succ, hfv])
      have HT36 : Hid ((tab W k f).length + 1 ≤ 1073741824) := Lib.hid (by rw [tab_length]; omega)
      have hkI : (0 : Int) ≤ (k : Int) ∧ (k : Int) < (n : Int) := by omega
      have hpx : PxAt wr b (o + k * 4) p := by
        rcases HH.out.below hbel with h0 | ⟨b', o', e, _, hc'⟩
        · rw [h0] at hp; simp at hp
        · injection e with e
          injection e with e1 e2 _
          subst e1 e2
          exact hc' _ p hp
      have HO0 : Hid (pxE.Own wr.drew (w.heap.size + 1 + 1 + 1 + 1) (.slice A' k c') (tab W k f)) := Lib.hid (El.Own.drewN (E := pxE) hown 1)
      have hszd : w.heap.size + 1 + 1 + 1 + 1 ≤ wr.drew.heap.size := hsz
      have hbb : b < w.heap.size := hbl
      have HS3 : Hid (∀ w', Below (w.heap.size + 1 + 1 + 1 + 1) wr.drew w' → RasAtB w' (w.heap.size + 1 + 1 + 1) (W : Int) (H : Int) A' k c' 30 ∧ RasAtB w' w.heap.size (W : Int) (H : Int) (some ⟨b, o, none⟩) n c 30 ∧ PxAt w' b (o + k * 4) p ∧ OpAtB w' (w.heap.size + 1) q) := Lib.hid fun w' hb => ⟨Box.below hX.drew1 hb (by omega), Box.below hR.drew1 hb (by omega), PxAt.kept (w := wr.drew) hpx fun q hq => hb.cell (by omega), Box.below (Box.drew hO) hb (by omega)⟩
      have HSb : Hid (∀ w', Below wr.drew.heap.size wr.drew w' → RasAtB w' (w.heap.size + 1 + 1 + 1) (W : Int) (H : Int) A' k c' 30 ∧ RasAtB w' w.heap.size (W : Int) (H : Int) (some ⟨b, o, none⟩) n c 30 ∧ PxAt w' b (o + k * 4) p ∧ OpAtB w' (w.heap.size + 1) q) := Lib.hid fun w' hb => HS3.out w' (hb.mono hszd)
      have HS0 := Lib.hid (HSb.out _ (Below.refl _ _))
      have HBd := Lib.hid (below_draws hbel 1)
      have HZd := Lib.hid hZ.drew1
      have HHd : Hid (HasP wr.drew wr.drew.heap.size (some ⟨b, o, none⟩) r.p) := Lib.hid ((HH.out.carry hbel (Nat.le_refl _) hbel.size).drewN 1)
      have r2 := hR.c2
      obtain ⟨y0, y1, y2, y3, y4⟩ := OpAtB.cs hO
      clear hown hX hZ hR hbel hpx hp hO hsz hfv
      go_wp2_with fail
      clear r2 y0 y1 y2 y3 y4
      refine wp_region_T (fun w' => RasAtB w' (w.heap.size + 1 + 1 + 1) (W : Int) (H : Int) A' k c' 30 ∧ RasAtB w' w.heap.size (W : Int) (H : Int) (some ⟨b, o, none⟩) n c 30 ∧ PxAt w' b (o + k * 4) p ∧ OpAtB w' (w.heap.size + 1) q) 12 (by kernel_rfl) ?_
      refine wpAnyT_take (i := 0) (d := 21) (v := .pointer (some ⟨w.heap.size + 1 + 1 + 1, 2, none⟩)) rfl rfl (by kernel_rfl) (by kernel_rfl) (by kernel_rfl) (by kernel_rfl) (by kernel_rfl) (fun _ _ _ h => h) HS0.out (Or.inl ⟨by rfl, fun w' hS' => ?_⟩) ?_
      · obtain ⟨s0, s1, s2, s3⟩ := hS'
        have t2 := s0.c2
        have v0 := s1.c0
        have v1 := s1.c1
        have v2 := s1.c2
        obtain ⟨p0, p1, p2, p3⟩ := s2
        obtain ⟨z0, z1, z2, z3, z4⟩ := OpAtB.cs s3
        go_simp
      simp only [Act.put, List.setIfInBounds_toArray, List.set_cons_zero, List.set_cons_succ]
      refine wpAnyT_take (i := 1) (d := 22) (v := .slice A' k c') rfl rfl (by kernel_rfl) (by kernel_rfl) (by kernel_rfl) (by kernel_rfl) (by kernel_rfl) (fun _ _ _ h => h) HS0.out (Or.inl ⟨by rfl, fun w' hS' => ?_⟩) ?_
      · obtain ⟨s0, s1, s2, s3⟩ := hS'
        have t2 := s0.c2
        have v0 := s1.c0
        have v1 := s1.c1
        have v2 := s1.c2
        obtain ⟨p0, p1, p2, p3⟩ := s2
        obtain ⟨z0, z1, z2, z3, z4⟩ := OpAtB.cs s3
        go_simp
      simp only [Act.put, List.setIfInBounds_toArray, List.set_cons_zero, List.set_cons_succ]
      refine wpAnyT_take (i := 2) (d := 23) (v := .pointer (some ⟨w.heap.size, 2, none⟩)) rfl rfl (by kernel_rfl) (by kernel_rfl) (by kernel_rfl) (by kernel_rfl) (by kernel_rfl) (fun _ _ _ h => h) HS0.out (Or.inl ⟨by rfl, fun w' hS' => ?_⟩) ?_
      · obtain ⟨s0, s1, s2, s3⟩ := hS'
        have t2 := s0.c2
        have v0 := s1.c0
        have v1 := s1.c1
        have v2 := s1.c2
        obtain ⟨p0, p1, p2, p3⟩ := s2
        obtain ⟨z0, z1, z2, z3, z4⟩ := OpAtB.cs s3
        go_simp
      simp only [Act.put, List.setIfInBounds_toArray, List.set_cons_zero, List.set_cons_succ]
      refine wpAnyT_take (i := 3) (d := 24) (v := .slice (some ⟨b, o, none⟩) n c) rfl rfl (by kernel_rfl) (by kernel_rfl) (by kernel_rfl) (by kernel_rfl) (by kernel_rfl) (fun _ _ _ h => h) HS0.out (Or.inl ⟨by rfl, fun w' hS' => ?_⟩) ?_
      · obtain ⟨s0, s1, s2, s3⟩ := hS'
        have t2 := s0.c2
        have v0 := s1.c0
        have v1 := s1.c1
        have v2 := s1.c2
        obtain ⟨p0, p1, p2, p3⟩ := s2
        obtain ⟨z0, z1, z2, z3, z4⟩ := OpAtB.cs s3
        go_simp
      simp only [Act.put, List.setIfInBounds_toArray, List.set_cons_zero, List.set_cons_succ]
      refine wpAnyT_take (i := 4) (d := 25) (v := .int .i64 (k : Int)) rfl rfl (by kernel_rfl) (by kernel_rfl) (by kernel_rfl) (by kernel_rfl) (by kernel_rfl) (fun _ _ _ h => h) HS0.out (Or.inl ⟨by rfl, fun w' hS' => ?_⟩) ?_
      · obtain ⟨s0, s1, s2, s3⟩ := hS'
        have t2 := s0.c2
        have v0 := s1.c0
        have v1 := s1.c1
        have v2 := s1.c2
        obtain ⟨p0, p1, p2, p3⟩ := s2
        obtain ⟨z0, z1, z2, z3, z4⟩ := OpAtB.cs s3
        go_simp
      simp only [Act.put, List.setIfInBounds_toArray, List.set_cons_zero, List.set_cons_succ]
      refine wpAnyT_take (i := 5) (d := 26) (v := .pointer (some ⟨b, o + k * 4, none⟩)) rfl rfl (by kernel_rfl) (by kernel_rfl) (by kernel_rfl) (by kernel_rfl) (by kernel_rfl) (fun _ _ _ h => h) HS0.out (Or.inl ⟨by rfl, fun w' hS' => ?_⟩) ?_
      · obtain ⟨s0, s1, s2, s3⟩ := hS'
        have t2 := s0.c2
        have v0 := s1.c0
        have v1 := s1.c1
        have v2 := s1.c2
        obtain ⟨p0, p1, p2, p3⟩ := s2
        obtain ⟨z0, z1, z2, z3, z4⟩ := OpAtB.cs s3
        go_simp
      simp only [Act.put, List.setIfInBounds_toArray, List.set_cons_zero, List.set_cons_succ]
      refine wpAnyT_take (i := 6) (d := 27) (v := .agg #[.int .i64 p.r, .int .i64 p.g, .int .i64 p.b, .int .i64 p.a]) rfl rfl (by kernel_rfl) (by kernel_rfl) (by kernel_rfl) (by kernel_rfl) (by kernel_rfl) (fun _ _ _ h => h) HS0.out (Or.inl ⟨by rfl, fun w' hS' => ?_⟩) ?_
      · obtain ⟨s0, s1, s2, s3⟩ := hS'
        have t2 := s0.c2
        have v0 := s1.c0
        have v1 := s1.c1
        have v2 := s1.c2
        obtain ⟨p0, p1, p2, p3⟩ := s2
        obtain ⟨z0, z1, z2, z3, z4⟩ := OpAtB.cs s3
        go_simp
      simp only [Act.put, List.setIfInBounds_toArray, List.set_cons_zero, List.set_cons_succ]
      refine wpAnyT_take (i := 7) (d := 28) (v := .agg #[.int .i64 q.k, .int .i64 q.a, .int .i64 q.b, .int .i64 q.c, .int .i64 q.d]) rfl rfl (by kernel_rfl) (by kernel_rfl) (by kernel_rfl) (by kernel_rfl) (by kernel_rfl) (fun _ _ _ h => h) HS0.out (Or.inl ⟨by rfl, fun w' hS' => ?_⟩) ?_
      · obtain ⟨s0, s1, s2, s3⟩ := hS'
        have t2 := s0.c2
        have v0 := s1.c0
        have v1 := s1.c1
        have v2 := s1.c2
        obtain ⟨p0, p1, p2, p3⟩ := s2
        obtain ⟨z0, z1, z2, z3, z4⟩ := OpAtB.cs s3
        go_simp
      simp only [Act.put, List.setIfInBounds_toArray, List.set_cons_zero, List.set_cons_succ]
      refine wpAnyT_one (i := 8) (by kernel_rfl) rfl (fun K hK => ?_)
      go_simp
      refine CL.out.mono ?_
      rintro e w4 ⟨rfl, b4⟩
      have HOd : Hid (pxE.Own w4 (w.heap.size + 1 + 1 + 1 + 1) (.slice A' k c') (tab W k f)) := Lib.hid (El.Own.below (E := pxE) HO0.out b4 (Nat.le_refl _))
      have HB4 := Lib.hid b4
      refine hK.out _ _ (fun _ => HSb.out _ HB4.out) ?_
      clear hK b4
      try simp only [Act.put, List.setIfInBounds_toArray, List.set_cons_zero, List.set_cons_succ]
      obtain ⟨G, hG⟩ : ∃ G, w4.heap.size = G := ⟨_, rfl⟩
      have hGw : w.heap.size + 1 + 1 + 1 + 1 ≤ G := by rw [← hG]; exact Nat.le_trans hszd HB4.out.size
      have HOA : Hid (pxE.Own (w4.alloc (.cells #[.int .i64 v.r, .int .i64 v.g, .int .i64 v.b, .int .i64 v.a] 62)) (w.heap.size + 1 + 1 + 1 + 1) (.slice A' k c') (tab W k f)) := Lib.hid (El.Own.alloc (E := pxE) HOd.out _)
      have HBX : Hid (Box (w4.alloc (.cells #[.int .i64 v.r, .int .i64 v.g, .int .i64 v.b, .int .i64 v.a] 62)) G (pxE.cells v).toArray 62) := Lib.hid (by rw [← hG]; exact Box.new w4 _ _)
      have BA : Below wr.drew.heap.size wr.drew (w4.alloc (.cells #[.int .i64 v.r, .int .i64 v.g, .int .i64 v.b, .int .i64 v.a] 62)) := HB4.out.alloc HB4.out.size _
      refine wpAnyT_one (i := 9) (by kernel_rfl) rfl (fun K hK => ?_)
      go_simp
      refine hK.out _ _ (fun _ => HSb.out _ BA) ?_
      clear hK
      try simp only [Act.put, List.setIfInBounds_toArray, List.set_cons_zero, List.set_cons_succ]
      refine wpAnyT_one (i := 10) (by kernel_rfl) rfl (fun K hK => ?_)
      refine El.step_append (E := pxE) 28 Tryd.underlying28 rfl (.tmp 22) (.tmp 30) rfl (w.heap.size + 1 + 1 + 1 + 1) (.slice A' k c') (tab W k f) rfl HOA.out ⟨G, 0, none⟩ 1 1 [v] rfl rfl (Box.news (E := pxE) (x := v) HBX.out) (by decide) (by have := HT36.out; omega) (by simp; omega) (G + 1) (by simp [hG]) ?_
      intro g cap w5 hown5 hgr5 hg5 hcap5
      have b5 : Below (w.heap.size + 1 + 1 + 1 + 1) wr.drew w5 := (BA.mono hszd).grown hgr5 (by simp; omega) (fun q e => (World.ownsRow.lt HOd.out q e).1)
      refine hK.out _ _ (fun _ => HS3.out _ b5) ?_
      clear hK
      try simp only [Act.put, List.setIfInBounds_toArray]
      refine wpAnyT_one (i := 11) (by kernel_rfl) rfl (fun K hK => ?_)
      go_simp
      refine hK.out _ _ (fun _ => HS3.out _ b5) ?_
      clear hK
      try simp only [Act.put, List.setIfInBounds_toArray, List.set_cons_zero, List.set_cons_succ]
      refine wpAnyT_one (i := 12) (by kernel_rfl) rfl (fun K hK => ?_)
      have hx5 : RasAtB w5 (w.heap.size + 1 + 1 + 1) (W : Int) (H : Int) A' k c' 30 := (HS3.out _ b5).1
      have q2 := hx5.c2
      have f2 := hx5.free 2
      go_simp
      refine hK.out _ _ last_out ?_
      clear hK
      refine wpAnyT_done (by kernel_rfl) ?_ _
      have hl1 : ((tab W k f).length + 1) = k + 1 := by rw [tab_length]
      have hx6 : RasAtB (w5.setCell ⟨w.heap.size + 1 + 1 + 1, 2, none⟩ (.slice (some ⟨g, 0, none⟩) ((tab W k f).length + 1) cap)) (w.heap.size + 1 + 1 + 1) (W : Int) (H : Int) (some ⟨g, 0, none⟩) ((tab W k f).length + 1) cap 30 := hx5.set2 _ _ _
      have hr6 : RasAtB (w5.setCell ⟨w.heap.size + 1 + 1 + 1, 2, none⟩ (.slice (some ⟨g, 0, none⟩) ((tab W k f).length + 1) cap)) w.heap.size (W : Int) (H : Int) (some ⟨b, o, none⟩) n c 30 := (HS3.out _ b5).2.1.set_other (by omega) 2 _
      have hz6 : RasAtB (w5.setCell ⟨w.heap.size + 1 + 1 + 1, 2, none⟩ (.slice (some ⟨g, 0, none⟩) ((tab W k f).length + 1) cap)) (w.heap.size + 1 + 1) 0 0 none 0 0 30 := (Box.below HZd.out b5 (by omega)).set_other (by omega) 2 _
      have hq6 : OpAtB (w5.setCell ⟨w.heap.size + 1 + 1 + 1, 2, none⟩ (.slice (some ⟨g, 0, none⟩) ((tab W k f).length + 1) cap)) (w.heap.size + 1) q := Box.set_other (b := w.heap.size + 1 + 1 + 1) (HS3.out _ b5).2.2.2 (by omega) 2 _
      have ho6 : OwnP (w5.setCell ⟨w.heap.size + 1 + 1 + 1, 2, none⟩ (.slice (some ⟨g, 0, none⟩) ((tab W k f).length + 1) cap)) (w.heap.size + 1 + 1 + 1 + 1) (.slice (some ⟨g, 0, none⟩) ((tab W k f).length + 1) cap) (tab W (k + 1) f) := by
        rw [HTS.out]
        exact OwnP.set_low (own_px.1 hown5) (by omega) 2 _
      have hb6 : Below w.heap.size w (w5.setCell ⟨w.heap.size + 1 + 1 + 1, 2, none⟩ (.slice (some ⟨g, 0, none⟩) ((tab W k f).length + 1) cap)) := (HBd.out.trans (b5.mono (by omega))).setCell (p := ⟨w.heap.size + 1 + 1 + 1, 2, none⟩) (by simp; omega) _
      have hs6 : w.heap.size + 1 + 1 + 1 + 1 ≤ (w5.setCell ⟨w.heap.size + 1 + 1 + 1, 2, none⟩ (.slice (some ⟨g, 0, none⟩) ((tab W k f).length + 1) cap)).heap.size := by
        have := b5.size
        simp
        omega
      rw [hl1] at ho6 hx6
      have HE0 := Lib.hid (And.intro ho6 (And.intro hx6 (And.intro hz6 (And.intro hr6 (And.intro hq6 (And.intro hb6 hs6))))))
      have HL1 := Lib.hid hl1
      clear hl1 hx6 hr6 hz6 ho6 hb6 hs6 hown5 hgr5 hg5 hcap5 b5 hx5 q2 f2 hq6
      rw [HL1.out] at HE0
      try rw [HL1.out]
      go_wp2_with fail
      go_roundw
      case rel => exact ⟨k + 1, by omega, by go_num, _, _, HE0.out.1, HE0.out.2.1, HE0.out.2.2.1, HE0.out.2.2.2.1, HE0.out.2.2.2.2.1, HE0.out.2.2.2.2.2.1, HE0.out.2.2.2.2.2.2⟩
      case measure => simp [intOf]; omega
    · obtain rfl : k = n := by omega
      have hcl : k = tp.length := by rw [HTP.out, tab_length]
      rw [← HTP.out] at hown
      have HKT := Lib.hid hcl
      obtain ⟨N, hN⟩ : ∃ N, tp.length = N := ⟨_, rfl⟩
      have hown2 : OwnP wr (w.heap.size + 1 + 1 + 1 + 1) (.slice A' tp.length c') tp := by rw [← hcl]; exact hown
      have hX2 : RasAtB wr (w.heap.size + 1 + 1 + 1) (W : Int) (H : Int) A' tp.length c' 30 := by rw [← hcl]; exact hX
      have hc' : tp.length ≤ c' := (El.Own.len (E := pxE) hown2).2
      have HZ := Lib.hid hZ
      have HE := Lib.hid (HG.out A' c' _ hc' (OwnP.lower (((OwnP.set_low hown2 (b := w.heap.size + 1 + 1) (by omega) 0 (.int .i64 (W : Int))).set_low (b := w.heap.size + 1 + 1) (by omega) 1 (.int .i64 (H : Int))).set_low (b := w.heap.size + 1 + 1) (by omega) 2 (.slice A' tp.length c')) (by omega)) (((hbel.setCell (p := ⟨w.heap.size + 1 + 1, 0, none⟩) (by simp; omega) (.int .i64 (W : Int))).setCell (p := ⟨w.heap.size + 1 + 1, 1, none⟩) (by simp; omega) (.int .i64 (H : Int))).setCell (p := ⟨w.heap.size + 1 + 1, 2, none⟩) (by simp; omega) (.slice A' tp.length c')))
      have x0 := hX2.c0
      have x1 := hX2.c1
      have x2 := hX2.c2
      have z0 := hZ.c0
      have z1 := hZ.c1
      have z2 := hZ.c2
      have f0 := hZ.free 0
      have f1 := hZ.free 1
      have f2 := hZ.free 2
      have r2 := hR.c2
      clear hown hown2 hcl hX hX2 hZ hR hbel hc' hO hN
      go_wp2_with fail
      (try simp only [Exit.inBlock, Exit.then])
      refine bodyPost_ret (results_cell_row rfl _ _ (w.heap.size + 1 + 1) 30 #[.int .i64 (W : Int), .int .i64 (H : Int), .slice A' tp.length c'] (0, 0) _ rfl (fin_ras HZ.out _ _ _) Tryd.underlying30 rfl (by kernel_rfl)) rfl ?_
      exact HE.out
end Go.Proofs.YtiemlakjallphabDoor
namespace Go.Proofs.YtiemlakjallphabDoor
set_option maxRecDepth 4000
open Go.RowKit

theorem crop_form {r : Ra} {q : Op} (hk : q.k = 1) (ho : opB q = true) {s : Ra} (e : doR r q = some s) : q = cO ((q.a.toNat : Nat) : Int) ((q.b.toNat : Nat) : Int) ((q.c.toNat : Nat) : Int) ((q.d.toNat : Nat) : Int) ∧ 1 ≤ q.c.toNat ∧ 1 ≤ q.d.toNat ∧ q.a.toNat + q.c.toNat ≤ r.w ∧ q.b.toNat + q.d.toNat ≤ r.h ∧ s = cropR r q.a.toNat q.b.toNat q.c.toNat q.d.toNat := by
  obtain ⟨h1, h2, h3, h4⟩ := opB_1 hk ho
  obtain ⟨k1, k2, k3⟩ := doR_1 r hk ho e
  obtain ⟨k, a, b, c, d⟩ := q
  simp only at hk h1 h2 h3 h4 k1 k2 k3 ⊢
  refine ⟨?_, by omega, by omega, k1, k2, k3⟩
  unfold cO
  rw [hk, Int.toNat_of_nonneg h1.1, Int.toNat_of_nonneg h2.1, Int.toNat_of_nonneg (by omega), Int.toNat_of_nonneg (by omega)]
theorem size_form {q : Op} (hk : q.k = 7) (ho : opB q = true) : q = sO ((q.a.toNat : Nat) : Int) ((q.b.toNat : Nat) : Int) ∧ (1 ≤ q.a.toNat ∧ q.a.toNat ≤ 6) ∧ (1 ≤ q.b.toNat ∧ q.b.toNat ≤ 6) := by
  obtain ⟨h1, h2⟩ := opB_7 hk ho
  have h3 : q.c = 0 ∧ q.d = 0 := by
    have := ho
    rw [opB_alt, if_neg (by omega), if_pos hk, inR_zero, inR_zero] at this
    simp only [Bool.and_eq_true, beq_iff_eq] at this
    exact ⟨this.2.2.1, this.2.2.2⟩
  obtain ⟨k, a, b, c, d⟩ := q
  simp only at hk h1 h2 h3 ⊢
  refine ⟨?_, by omega, by omega⟩
  unfold sO
  rw [hk, h3.1, h3.2, Int.toNat_of_nonneg (by omega), Int.toNat_of_nonneg (by omega)]
theorem flipped_drawn {r : Ra} (hr : r.ok) (A : Option Addr) (c : Nat) (u : World) (hc : r.p.length ≤ c) (h : HasP u u.heap.size A r.p) : Calls Tryd.prog 63 #[raV r A c] u (Drawn (flipYR r) u) := by
  have := l5Flip_any r.w r.h A c r.p u hr hc h
  rw [flipR_is hr] at this
  exact this
set_option maxHeartbeats 4000000 in
theorem l6Do_2 (r : Ra) (A : Option Addr) (c : Nat) (q : Op) (w : World) (hr : r.ok) (hk : q.k = 2) (_ : r.p.length ≤ c) (h : HasP w w.heap.size A r.p) :
    Calls Tryd.prog 37 #[raV r A c, q.v] w (Did (doR r q) w) := by
  have hdo : doR r q = some (flipXR r) := doR_2 r hk
  rw [hdo]
  obtain ⟨n, hn⟩ : ∃ n, r.p.length = n := ⟨_, rfl⟩
  have CF : Hid (∀ u, HasP u u.heap.size A r.p → Calls Tryd.prog 62 #[.agg #[.int .i64 (r.w : Int), .int .i64 (r.h : Int), .slice A n c]] u (Drawn (flipXR r) u)) := Lib.hid fun u hu => by
    have := l6FlipX_any r A c u hr hu
    unfold raV rasV at this
    rw [hn] at this
    exact this
  have HG : Hid (∀ A' c' w', (flipXR r).p.length ≤ c' → OwnP w' w.heap.size (.slice A' (flipXR r).p.length c') (flipXR r).p → Below w.heap.size w w' → Did (some (flipXR r)) w (.returned (.tuple #[.agg #[.int .i64 ((flipXR r).w : Int), .int .i64 ((flipXR r).h : Int), .slice A' (flipXR r).p.length c'], .bool true])) w') := Lib.hid fun A' c' w' k1 k2 k3 => ⟨A', c', rfl, k1, k2, k3⟩
  unfold Drawn at CF
  generalize Did (some (flipXR r)) w = D at *
  obtain ⟨t, ht⟩ : ∃ t, flipXR r = t := ⟨_, rfl⟩
  rw [ht] at CF HG
  clear hdo ht
  have e1 : (q.k == 1) = false := by rw [hk]; rfl
  have e2 : (q.k == 2) = true := by rw [hk]; rfl
  clear hk
  unfold raV rasV Op.v
  rw [hn]
  have hb0 : Below w.heap.size w (((w.alloc (.cells #[.int .i64 (r.w : Int), .int .i64 (r.h : Int), .slice A n c] 30)).alloc (.cells #[.int .i64 q.k, .int .i64 q.a, .int .i64 q.b, .int .i64 q.c, .int .i64 q.d] 49)).alloc (.cells #[.int .i64 0, .int .i64 0, .slice none 0 0] 30)) := (((Below.refl _ w).alloc (Nat.le_refl _) _).alloc (by simp) _).alloc (by simp; omega) _
  have hR0 : RasAtB (((w.alloc (.cells #[.int .i64 (r.w : Int), .int .i64 (r.h : Int), .slice A n c] 30)).alloc (.cells #[.int .i64 q.k, .int .i64 q.a, .int .i64 q.b, .int .i64 q.c, .int .i64 q.d] 49)).alloc (.cells #[.int .i64 0, .int .i64 0, .slice none 0 0] 30)) w.heap.size (r.w : Int) (r.h : Int) A n c 30 := Box.alloc (Box.alloc (Box.new w _ _) _) _
  have hO0 : OpAtB (((w.alloc (.cells #[.int .i64 (r.w : Int), .int .i64 (r.h : Int), .slice A n c] 30)).alloc (.cells #[.int .i64 q.k, .int .i64 q.a, .int .i64 q.b, .int .i64 q.c, .int .i64 q.d] 49)).alloc (.cells #[.int .i64 0, .int .i64 0, .slice none 0 0] 30)) (w.heap.size + 1) q := by
    refine Box.alloc ?_ _
    have := Box.new (w.alloc (.cells #[.int .i64 (r.w : Int), .int .i64 (r.h : Int), .slice A n c] 30)) #[.int .i64 q.k, .int .i64 q.a, .int .i64 q.b, .int .i64 q.c, .int .i64 q.d] 49
    rw [show (w.alloc (.cells #[.int .i64 (r.w : Int), .int .i64 (r.h : Int), .slice A n c] 30)).heap.size = w.heap.size + 1 from by simp] at this
    exact this
  have hZ0 : RasAtB (((w.alloc (.cells #[.int .i64 (r.w : Int), .int .i64 (r.h : Int), .slice A n c] 30)).alloc (.cells #[.int .i64 q.k, .int .i64 q.a, .int .i64 q.b, .int .i64 q.c, .int .i64 q.d] 49)).alloc (.cells #[.int .i64 0, .int .i64 0, .slice none 0 0] 30)) (w.heap.size + 1 + 1) 0 0 none 0 0 30 := by
    have := Box.new ((w.alloc (.cells #[.int .i64 (r.w : Int), .int .i64 (r.h : Int), .slice A n c] 30)).alloc (.cells #[.int .i64 q.k, .int .i64 q.a, .int .i64 q.b, .int .i64 q.c, .int .i64 q.d] 49)) #[.int .i64 0, .int .i64 0, .slice none 0 0] 30
    rw [show ((w.alloc (.cells #[.int .i64 (r.w : Int), .int .i64 (r.h : Int), .slice A n c] 30)).alloc (.cells #[.int .i64 q.k, .int .i64 q.a, .int .i64 q.b, .int .i64 q.c, .int .i64 q.d] 49)).heap.size = w.heap.size + 1 + 1 from by simp] at this
    exact this
  have HH0 := Lib.hid (h.carry hb0 (Nat.le_refl _) hb0.size)
  have HB0 := Lib.hid hb0
  have HR0 := Lib.hid hR0
  have HO0 := Lib.hid hO0
  have HZ0 := Lib.hid hZ0
  clear hb0 hR0 hO0 hZ0 h hr hn
  go_enter Tryd.func37, Tryd.ntmps37
  go_wp2_with fail
  generalize (((w.alloc (.cells #[.int .i64 (r.w : Int), .int .i64 (r.h : Int), .slice A n c] 30)).alloc (.cells #[.int .i64 q.k, .int .i64 q.a, .int .i64 q.b, .int .i64 q.c, .int .i64 q.d] 49)).alloc (.cells #[.int .i64 0, .int .i64 0, .slice none 0 0] 30)) = w0 at *
  have r0 := HR0.out.c0
  have r1 := HR0.out.c1
  have r2 := HR0.out.c2
  obtain ⟨y0, y1, y2, y3, y4⟩ := OpAtB.cs HO0.out
  go_wp2_with fail
  refine (CF.out _ HH0.out).mono ?_
  rintro e w2 ⟨A2, c2, rfl, hc2, ho2, b2⟩
  have HXn := Lib.hid (HZ0.out.below b2 HZ0.out.lt)
  have HBn := Lib.hid (HB0.out.trans (b2.mono HB0.out.size))
  have hzlt : w.heap.size + 1 + 1 < w0.heap.size := HZ0.out.lt
  have HOn := Lib.hid (((ho2.set_low (b := w.heap.size + 1 + 1) hzlt 0 (.int .i64 (t.w : Int))).set_low (b := w.heap.size + 1 + 1) hzlt 1 (.int .i64 (t.h : Int))).set_low (b := w.heap.size + 1 + 1) hzlt 2 (.slice A2 t.p.length c2))
  have hz : w.heap.size ≤ w0.heap.size := HB0.out.size
  clear b2 ho2 r0 r1 r2 y0 y1 y2 y3 y4
  have q0 := HXn.out.c0
  have q1 := HXn.out.c1
  have q2 := HXn.out.c2
  have f0 := HXn.out.free 0
  have f1 := HXn.out.free 1
  have f2 := HXn.out.free 2
  unfold rasV
  go_wp2_with fail
  (try simp only [Exit.inBlock, Exit.then])
  refine bodyPost_ret (results_row_tmp rfl _ _ (w.heap.size + 1 + 1) 30 #[.int .i64 (t.w : Int), .int .i64 (t.h : Int), .slice A2 t.p.length c2] (0, 0) _ (.bool true) rfl rfl (fin_ras HXn.out _ _ _) Tryd.underlying30 rfl (by kernel_rfl)) rfl ?_
  exact HG.out _ _ _ hc2 (HOn.out.lower hz) (((HBn.out.setCell (by simp; omega) _).setCell (by simp; omega) _).setCell (by simp; omega) _)
set_option maxHeartbeats 4000000 in
theorem l6Do_3 (r : Ra) (A : Option Addr) (c : Nat) (q : Op) (w : World) (hr : r.ok) (hk : q.k = 3) (hc : r.p.length ≤ c) (h : HasP w w.heap.size A r.p) :
    Calls Tryd.prog 37 #[raV r A c, q.v] w (Did (doR r q) w) := by
  have hdo : doR r q = some (flipYR r) := doR_3 r hk
  rw [hdo]
  obtain ⟨n, hn⟩ : ∃ n, r.p.length = n := ⟨_, rfl⟩
  have CF : Hid (∀ u, HasP u u.heap.size A r.p → Calls Tryd.prog 63 #[.agg #[.int .i64 (r.w : Int), .int .i64 (r.h : Int), .slice A n c]] u (Drawn (flipYR r) u)) := Lib.hid fun u hu => by
    have := flipped_drawn hr A c u hc hu
    unfold raV rasV at this
    rw [hn] at this
    exact this
  have HG : Hid (∀ A' c' w', (flipYR r).p.length ≤ c' → OwnP w' w.heap.size (.slice A' (flipYR r).p.length c') (flipYR r).p → Below w.heap.size w w' → Did (some (flipYR r)) w (.returned (.tuple #[.agg #[.int .i64 ((flipYR r).w : Int), .int .i64 ((flipYR r).h : Int), .slice A' (flipYR r).p.length c'], .bool true])) w') := Lib.hid fun A' c' w' k1 k2 k3 => ⟨A', c', rfl, k1, k2, k3⟩
  unfold Drawn at CF
  generalize Did (some (flipYR r)) w = D at *
  obtain ⟨t, ht⟩ : ∃ t, flipYR r = t := ⟨_, rfl⟩
  rw [ht] at CF HG
  clear hdo ht
  have e1 : (q.k == 1) = false := by rw [hk]; rfl
  have e2 : (q.k == 2) = false := by rw [hk]; rfl
  have e3 : (q.k == 3) = true := by rw [hk]; rfl
  clear hk
  unfold raV rasV Op.v
  rw [hn]
  have hb0 : Below w.heap.size w (((w.alloc (.cells #[.int .i64 (r.w : Int), .int .i64 (r.h : Int), .slice A n c] 30)).alloc (.cells #[.int .i64 q.k, .int .i64 q.a, .int .i64 q.b, .int .i64 q.c, .int .i64 q.d] 49)).alloc (.cells #[.int .i64 0, .int .i64 0, .slice none 0 0] 30)) := (((Below.refl _ w).alloc (Nat.le_refl _) _).alloc (by simp) _).alloc (by simp; omega) _
  have hR0 : RasAtB (((w.alloc (.cells #[.int .i64 (r.w : Int), .int .i64 (r.h : Int), .slice A n c] 30)).alloc (.cells #[.int .i64 q.k, .int .i64 q.a, .int .i64 q.b, .int .i64 q.c, .int .i64 q.d] 49)).alloc (.cells #[.int .i64 0, .int .i64 0, .slice none 0 0] 30)) w.heap.size (r.w : Int) (r.h : Int) A n c 30 := Box.alloc (Box.alloc (Box.new w _ _) _) _
  have hO0 : OpAtB (((w.alloc (.cells #[.int .i64 (r.w : Int), .int .i64 (r.h : Int), .slice A n c] 30)).alloc (.cells #[.int .i64 q.k, .int .i64 q.a, .int .i64 q.b, .int .i64 q.c, .int .i64 q.d] 49)).alloc (.cells #[.int .i64 0, .int .i64 0, .slice none 0 0] 30)) (w.heap.size + 1) q := by
    refine Box.alloc ?_ _
    have := Box.new (w.alloc (.cells #[.int .i64 (r.w : Int), .int .i64 (r.h : Int), .slice A n c] 30)) #[.int .i64 q.k, .int .i64 q.a, .int .i64 q.b, .int .i64 q.c, .int .i64 q.d] 49
    rw [show (w.alloc (.cells #[.int .i64 (r.w : Int), .int .i64 (r.h : Int), .slice A n c] 30)).heap.size = w.heap.size + 1 from by simp] at this
    exact this
  have hZ0 : RasAtB (((w.alloc (.cells #[.int .i64 (r.w : Int), .int .i64 (r.h : Int), .slice A n c] 30)).alloc (.cells #[.int .i64 q.k, .int .i64 q.a, .int .i64 q.b, .int .i64 q.c, .int .i64 q.d] 49)).alloc (.cells #[.int .i64 0, .int .i64 0, .slice none 0 0] 30)) (w.heap.size + 1 + 1) 0 0 none 0 0 30 := by
    have := Box.new ((w.alloc (.cells #[.int .i64 (r.w : Int), .int .i64 (r.h : Int), .slice A n c] 30)).alloc (.cells #[.int .i64 q.k, .int .i64 q.a, .int .i64 q.b, .int .i64 q.c, .int .i64 q.d] 49)) #[.int .i64 0, .int .i64 0, .slice none 0 0] 30
    rw [show ((w.alloc (.cells #[.int .i64 (r.w : Int), .int .i64 (r.h : Int), .slice A n c] 30)).alloc (.cells #[.int .i64 q.k, .int .i64 q.a, .int .i64 q.b, .int .i64 q.c, .int .i64 q.d] 49)).heap.size = w.heap.size + 1 + 1 from by simp] at this
    exact this
  have HH0 := Lib.hid (h.carry hb0 (Nat.le_refl _) hb0.size)
  have HB0 := Lib.hid hb0
  have HR0 := Lib.hid hR0
  have HO0 := Lib.hid hO0
  have HZ0 := Lib.hid hZ0
  clear hb0 hR0 hO0 hZ0 h hr hc hn
  go_enter Tryd.func37, Tryd.ntmps37
  go_wp2_with fail
  generalize (((w.alloc (.cells #[.int .i64 (r.w : Int), .int .i64 (r.h : Int), .slice A n c] 30)).alloc (.cells #[.int .i64 q.k, .int .i64 q.a, .int .i64 q.b, .int .i64 q.c, .int .i64 q.d] 49)).alloc (.cells #[.int .i64 0, .int .i64 0, .slice none 0 0] 30)) = w0 at *
  have r0 := HR0.out.c0
  have r1 := HR0.out.c1
  have r2 := HR0.out.c2
  obtain ⟨y0, y1, y2, y3, y4⟩ := OpAtB.cs HO0.out
  go_wp2_with fail
  refine (CF.out _ HH0.out).mono ?_
  rintro e w2 ⟨A2, c2, rfl, hc2, ho2, b2⟩
  have HXn := Lib.hid (HZ0.out.below b2 HZ0.out.lt)
  have HBn := Lib.hid (HB0.out.trans (b2.mono HB0.out.size))
  have hzlt : w.heap.size + 1 + 1 < w0.heap.size := HZ0.out.lt
  have HOn := Lib.hid (((ho2.set_low (b := w.heap.size + 1 + 1) hzlt 0 (.int .i64 (t.w : Int))).set_low (b := w.heap.size + 1 + 1) hzlt 1 (.int .i64 (t.h : Int))).set_low (b := w.heap.size + 1 + 1) hzlt 2 (.slice A2 t.p.length c2))
  have hz : w.heap.size ≤ w0.heap.size := HB0.out.size
  clear b2 ho2 r0 r1 r2 y0 y1 y2 y3 y4
  have q0 := HXn.out.c0
  have q1 := HXn.out.c1
  have q2 := HXn.out.c2
  have f0 := HXn.out.free 0
  have f1 := HXn.out.free 1
  have f2 := HXn.out.free 2
  unfold rasV
  go_wp2_with fail
  (try simp only [Exit.inBlock, Exit.then])
  refine bodyPost_ret (results_row_tmp rfl _ _ (w.heap.size + 1 + 1) 30 #[.int .i64 (t.w : Int), .int .i64 (t.h : Int), .slice A2 t.p.length c2] (0, 0) _ (.bool true) rfl rfl (fin_ras HXn.out _ _ _) Tryd.underlying30 rfl (by kernel_rfl)) rfl ?_
  exact HG.out _ _ _ hc2 (HOn.out.lower hz) (((HBn.out.setCell (by simp; omega) _).setCell (by simp; omega) _).setCell (by simp; omega) _)
set_option maxHeartbeats 4000000 in
theorem l6Do_4 (r : Ra) (A : Option Addr) (c : Nat) (q : Op) (w : World) (hr : r.ok) (hk : q.k = 4) (_ : r.p.length ≤ c) (h : HasP w w.heap.size A r.p) :
    Calls Tryd.prog 37 #[raV r A c, q.v] w (Did (doR r q) w) := by
  have hdo : doR r q = some (turnR r) := doR_4 r hk
  rw [hdo]
  obtain ⟨n, hn⟩ : ∃ n, r.p.length = n := ⟨_, rfl⟩
  have CF : Hid (∀ u, HasP u u.heap.size A r.p → Calls Tryd.prog 64 #[.agg #[.int .i64 (r.w : Int), .int .i64 (r.h : Int), .slice A n c]] u (Drawn (turnR r) u)) := Lib.hid fun u hu => by
    have := l6Turn_any r A c u hr hu
    unfold raV rasV at this
    rw [hn] at this
    exact this
  have HG : Hid (∀ A' c' w', (turnR r).p.length ≤ c' → OwnP w' w.heap.size (.slice A' (turnR r).p.length c') (turnR r).p → Below w.heap.size w w' → Did (some (turnR r)) w (.returned (.tuple #[.agg #[.int .i64 ((turnR r).w : Int), .int .i64 ((turnR r).h : Int), .slice A' (turnR r).p.length c'], .bool true])) w') := Lib.hid fun A' c' w' k1 k2 k3 => ⟨A', c', rfl, k1, k2, k3⟩
  unfold Drawn at CF
  generalize Did (some (turnR r)) w = D at *
  obtain ⟨t, ht⟩ : ∃ t, turnR r = t := ⟨_, rfl⟩
  rw [ht] at CF HG
  clear hdo ht
  have e1 : (q.k == 1) = false := by rw [hk]; rfl
  have e2 : (q.k == 2) = false := by rw [hk]; rfl
  have e3 : (q.k == 3) = false := by rw [hk]; rfl
  have e4 : (q.k == 4) = true := by rw [hk]; rfl
  clear hk
  unfold raV rasV Op.v
  rw [hn]
  have hb0 : Below w.heap.size w (((w.alloc (.cells #[.int .i64 (r.w : Int), .int .i64 (r.h : Int), .slice A n c] 30)).alloc (.cells #[.int .i64 q.k, .int .i64 q.a, .int .i64 q.b, .int .i64 q.c, .int .i64 q.d] 49)).alloc (.cells #[.int .i64 0, .int .i64 0, .slice none 0 0] 30)) := (((Below.refl _ w).alloc (Nat.le_refl _) _).alloc (by simp) _).alloc (by simp; omega) _
  have hR0 : RasAtB (((w.alloc (.cells #[.int .i64 (r.w : Int), .int .i64 (r.h : Int), .slice A n c] 30)).alloc (.cells #[.int .i64 q.k, .int .i64 q.a, .int .i64 q.b, .int .i64 q.c, .int .i64 q.d] 49)).alloc (.cells #[.int .i64 0, .int .i64 0, .slice none 0 0] 30)) w.heap.size (r.w : Int) (r.h : Int) A n c 30 := Box.alloc (Box.alloc (Box.new w _ _) _) _
  have hO0 : OpAtB (((w.alloc (.cells #[.int .i64 (r.w : Int), .int .i64 (r.h : Int), .slice A n c] 30)).alloc (.cells #[.int .i64 q.k, .int .i64 q.a, .int .i64 q.b, .int .i64 q.c, .int .i64 q.d] 49)).alloc (.cells #[.int .i64 0, .int .i64 0, .slice none 0 0] 30)) (w.heap.size + 1) q := by
    refine Box.alloc ?_ _
    have := Box.new (w.alloc (.cells #[.int .i64 (r.w : Int), .int .i64 (r.h : Int), .slice A n c] 30)) #[.int .i64 q.k, .int .i64 q.a, .int .i64 q.b, .int .i64 q.c, .int .i64 q.d] 49
    rw [show (w.alloc (.cells #[.int .i64 (r.w : Int), .int .i64 (r.h : Int), .slice A n c] 30)).heap.size = w.heap.size + 1 from by simp] at this
    exact this
  have hZ0 : RasAtB (((w.alloc (.cells #[.int .i64 (r.w : Int), .int .i64 (r.h : Int), .slice A n c] 30)).alloc (.cells #[.int .i64 q.k, .int .i64 q.a, .int .i64 q.b, .int .i64 q.c, .int .i64 q.d] 49)).alloc (.cells #[.int .i64 0, .int .i64 0, .slice none 0 0] 30)) (w.heap.size + 1 + 1) 0 0 none 0 0 30 := by
    have := Box.new ((w.alloc (.cells #[.int .i64 (r.w : Int), .int .i64 (r.h : Int), .slice A n c] 30)).alloc (.cells #[.int .i64 q.k, .int .i64 q.a, .int .i64 q.b, .int .i64 q.c, .int .i64 q.d] 49)) #[.int .i64 0, .int .i64 0, .slice none 0 0] 30
    rw [show ((w.alloc (.cells #[.int .i64 (r.w : Int), .int .i64 (r.h : Int), .slice A n c] 30)).alloc (.cells #[.int .i64 q.k, .int .i64 q.a, .int .i64 q.b, .int .i64 q.c, .int .i64 q.d] 49)).heap.size = w.heap.size + 1 + 1 from by simp] at this
    exact this
  have HH0 := Lib.hid (h.carry hb0 (Nat.le_refl _) hb0.size)
  have HB0 := Lib.hid hb0
  have HR0 := Lib.hid hR0
  have HO0 := Lib.hid hO0
  have HZ0 := Lib.hid hZ0
  clear hb0 hR0 hO0 hZ0 h hr hn
  go_enter Tryd.func37, Tryd.ntmps37
  go_wp2_with fail
  generalize (((w.alloc (.cells #[.int .i64 (r.w : Int), .int .i64 (r.h : Int), .slice A n c] 30)).alloc (.cells #[.int .i64 q.k, .int .i64 q.a, .int .i64 q.b, .int .i64 q.c, .int .i64 q.d] 49)).alloc (.cells #[.int .i64 0, .int .i64 0, .slice none 0 0] 30)) = w0 at *
  have r0 := HR0.out.c0
  have r1 := HR0.out.c1
  have r2 := HR0.out.c2
  obtain ⟨y0, y1, y2, y3, y4⟩ := OpAtB.cs HO0.out
  go_wp2_with fail
  refine (CF.out _ HH0.out).mono ?_
  rintro e w2 ⟨A2, c2, rfl, hc2, ho2, b2⟩
  have HXn := Lib.hid (HZ0.out.below b2 HZ0.out.lt)
  have HBn := Lib.hid (HB0.out.trans (b2.mono HB0.out.size))
  have hzlt : w.heap.size + 1 + 1 < w0.heap.size := HZ0.out.lt
  have HOn := Lib.hid (((ho2.set_low (b := w.heap.size + 1 + 1) hzlt 0 (.int .i64 (t.w : Int))).set_low (b := w.heap.size + 1 + 1) hzlt 1 (.int .i64 (t.h : Int))).set_low (b := w.heap.size + 1 + 1) hzlt 2 (.slice A2 t.p.length c2))
  have hz : w.heap.size ≤ w0.heap.size := HB0.out.size
  clear b2 ho2 r0 r1 r2 y0 y1 y2 y3 y4
  have q0 := HXn.out.c0
  have q1 := HXn.out.c1
  have q2 := HXn.out.c2
  have f0 := HXn.out.free 0
  have f1 := HXn.out.free 1
  have f2 := HXn.out.free 2
  unfold rasV
  go_wp2_with fail
  (try simp only [Exit.inBlock, Exit.then])
  refine bodyPost_ret (results_row_tmp rfl _ _ (w.heap.size + 1 + 1) 30 #[.int .i64 (t.w : Int), .int .i64 (t.h : Int), .slice A2 t.p.length c2] (0, 0) _ (.bool true) rfl rfl (fin_ras HXn.out _ _ _) Tryd.underlying30 rfl (by kernel_rfl)) rfl ?_
  exact HG.out _ _ _ hc2 (HOn.out.lower hz) (((HBn.out.setCell (by simp; omega) _).setCell (by simp; omega) _).setCell (by simp; omega) _)
set_option maxHeartbeats 4000000 in
theorem l6Do_5 (r : Ra) (A : Option Addr) (c : Nat) (q : Op) (w : World) (hr : r.ok) (hk : q.k = 5) (hc : r.p.length ≤ c) (h : HasP w w.heap.size A r.p) :
    Calls Tryd.prog 37 #[raV r A c, q.v] w (Did (doR r q) w) := by
  have hdo : doR r q = some (eachR grayP r) := doR_5 r hk
  rw [hdo]
  obtain ⟨n, hn⟩ : ∃ n, r.p.length = n := ⟨_, rfl⟩
  have CF : Hid (∀ u, HasP u u.heap.size A r.p → Calls Tryd.prog 66 #[.agg #[.int .i64 (r.w : Int), .int .i64 (r.h : Int), .slice A n c], .agg #[.int .i64 q.k, .int .i64 q.a, .int .i64 q.b, .int .i64 q.c, .int .i64 q.d]] u (Drawn (eachR grayP r) u)) := Lib.hid fun u hu => by
    have := l6Gray_each r q A c u hr hk hc hu
    unfold raV rasV Op.v at this
    rw [hn] at this
    exact this
  have HG : Hid (∀ A' c' w', (eachR grayP r).p.length ≤ c' → OwnP w' w.heap.size (.slice A' (eachR grayP r).p.length c') (eachR grayP r).p → Below w.heap.size w w' → Did (some (eachR grayP r)) w (.returned (.tuple #[.agg #[.int .i64 ((eachR grayP r).w : Int), .int .i64 ((eachR grayP r).h : Int), .slice A' (eachR grayP r).p.length c'], .bool true])) w') := Lib.hid fun A' c' w' k1 k2 k3 => ⟨A', c', rfl, k1, k2, k3⟩
  unfold Drawn at CF
  generalize Did (some (eachR grayP r)) w = D at *
  obtain ⟨t, ht⟩ : ∃ t, eachR grayP r = t := ⟨_, rfl⟩
  rw [ht] at CF HG
  clear hdo ht
  have e1 : (q.k == 1) = false := by rw [hk]; rfl
  have e2 : (q.k == 2) = false := by rw [hk]; rfl
  have e3 : (q.k == 3) = false := by rw [hk]; rfl
  have e4 : (q.k == 4) = false := by rw [hk]; rfl
  have e7 : (q.k == 7) = false := by rw [hk]; rfl
  clear hk
  unfold raV rasV Op.v
  rw [hn]
  have hb0 : Below w.heap.size w (((w.alloc (.cells #[.int .i64 (r.w : Int), .int .i64 (r.h : Int), .slice A n c] 30)).alloc (.cells #[.int .i64 q.k, .int .i64 q.a, .int .i64 q.b, .int .i64 q.c, .int .i64 q.d] 49)).alloc (.cells #[.int .i64 0, .int .i64 0, .slice none 0 0] 30)) := (((Below.refl _ w).alloc (Nat.le_refl _) _).alloc (by simp) _).alloc (by simp; omega) _
  have hR0 : RasAtB (((w.alloc (.cells #[.int .i64 (r.w : Int), .int .i64 (r.h : Int), .slice A n c] 30)).alloc (.cells #[.int .i64 q.k, .int .i64 q.a, .int .i64 q.b, .int .i64 q.c, .int .i64 q.d] 49)).alloc (.cells #[.int .i64 0, .int .i64 0, .slice none 0 0] 30)) w.heap.size (r.w : Int) (r.h : Int) A n c 30 := Box.alloc (Box.alloc (Box.new w _ _) _) _
  have hO0 : OpAtB (((w.alloc (.cells #[.int .i64 (r.w : Int), .int .i64 (r.h : Int), .slice A n c] 30)).alloc (.cells #[.int .i64 q.k, .int .i64 q.a, .int .i64 q.b, .int .i64 q.c, .int .i64 q.d] 49)).alloc (.cells #[.int .i64 0, .int .i64 0, .slice none 0 0] 30)) (w.heap.size + 1) q := by
    refine Box.alloc ?_ _
    have := Box.new (w.alloc (.cells #[.int .i64 (r.w : Int), .int .i64 (r.h : Int), .slice A n c] 30)) #[.int .i64 q.k, .int .i64 q.a, .int .i64 q.b, .int .i64 q.c, .int .i64 q.d] 49
    rw [show (w.alloc (.cells #[.int .i64 (r.w : Int), .int .i64 (r.h : Int), .slice A n c] 30)).heap.size = w.heap.size + 1 from by simp] at this
    exact this
  have hZ0 : RasAtB (((w.alloc (.cells #[.int .i64 (r.w : Int), .int .i64 (r.h : Int), .slice A n c] 30)).alloc (.cells #[.int .i64 q.k, .int .i64 q.a, .int .i64 q.b, .int .i64 q.c, .int .i64 q.d] 49)).alloc (.cells #[.int .i64 0, .int .i64 0, .slice none 0 0] 30)) (w.heap.size + 1 + 1) 0 0 none 0 0 30 := by
    have := Box.new ((w.alloc (.cells #[.int .i64 (r.w : Int), .int .i64 (r.h : Int), .slice A n c] 30)).alloc (.cells #[.int .i64 q.k, .int .i64 q.a, .int .i64 q.b, .int .i64 q.c, .int .i64 q.d] 49)) #[.int .i64 0, .int .i64 0, .slice none 0 0] 30
    rw [show ((w.alloc (.cells #[.int .i64 (r.w : Int), .int .i64 (r.h : Int), .slice A n c] 30)).alloc (.cells #[.int .i64 q.k, .int .i64 q.a, .int .i64 q.b, .int .i64 q.c, .int .i64 q.d] 49)).heap.size = w.heap.size + 1 + 1 from by simp] at this
    exact this
  have HH0 := Lib.hid (h.carry hb0 (Nat.le_refl _) hb0.size)
  have HB0 := Lib.hid hb0
  have HR0 := Lib.hid hR0
  have HO0 := Lib.hid hO0
  have HZ0 := Lib.hid hZ0
  clear hb0 hR0 hO0 hZ0 h hr hc hn
  go_enter Tryd.func37, Tryd.ntmps37
  go_wp2_with fail
  generalize (((w.alloc (.cells #[.int .i64 (r.w : Int), .int .i64 (r.h : Int), .slice A n c] 30)).alloc (.cells #[.int .i64 q.k, .int .i64 q.a, .int .i64 q.b, .int .i64 q.c, .int .i64 q.d] 49)).alloc (.cells #[.int .i64 0, .int .i64 0, .slice none 0 0] 30)) = w0 at *
  have r0 := HR0.out.c0
  have r1 := HR0.out.c1
  have r2 := HR0.out.c2
  obtain ⟨y0, y1, y2, y3, y4⟩ := OpAtB.cs HO0.out
  go_wp2_with fail
  refine (CF.out _ HH0.out).mono ?_
  rintro e w2 ⟨A2, c2, rfl, hc2, ho2, b2⟩
  have HXn := Lib.hid (HZ0.out.below b2 HZ0.out.lt)
  have HBn := Lib.hid (HB0.out.trans (b2.mono HB0.out.size))
  have hzlt : w.heap.size + 1 + 1 < w0.heap.size := HZ0.out.lt
  have HOn := Lib.hid (((ho2.set_low (b := w.heap.size + 1 + 1) hzlt 0 (.int .i64 (t.w : Int))).set_low (b := w.heap.size + 1 + 1) hzlt 1 (.int .i64 (t.h : Int))).set_low (b := w.heap.size + 1 + 1) hzlt 2 (.slice A2 t.p.length c2))
  have hz : w.heap.size ≤ w0.heap.size := HB0.out.size
  clear b2 ho2 r0 r1 r2 y0 y1 y2 y3 y4
  have q0 := HXn.out.c0
  have q1 := HXn.out.c1
  have q2 := HXn.out.c2
  have f0 := HXn.out.free 0
  have f1 := HXn.out.free 1
  have f2 := HXn.out.free 2
  unfold rasV
  go_wp2_with fail
  (try simp only [Exit.inBlock, Exit.then])
  refine bodyPost_ret (results_row_tmp rfl _ _ (w.heap.size + 1 + 1) 30 #[.int .i64 (t.w : Int), .int .i64 (t.h : Int), .slice A2 t.p.length c2] (0, 0) _ (.bool true) rfl rfl (fin_ras HXn.out _ _ _) Tryd.underlying30 rfl (by kernel_rfl)) rfl ?_
  exact HG.out _ _ _ hc2 (HOn.out.lower hz) (((HBn.out.setCell (by simp; omega) _).setCell (by simp; omega) _).setCell (by simp; omega) _)
set_option maxHeartbeats 4000000 in
theorem l6Do_6 (r : Ra) (A : Option Addr) (c : Nat) (q : Op) (w : World) (hr : r.ok) (hk : q.k = 6) (hc : r.p.length ≤ c) (h : HasP w w.heap.size A r.p) :
    Calls Tryd.prog 37 #[raV r A c, q.v] w (Did (doR r q) w) := by
  have hdo : doR r q = some (blurR r) := doR_6 r hk
  rw [hdo]
  obtain ⟨n, hn⟩ : ∃ n, r.p.length = n := ⟨_, rfl⟩
  have CF : Hid (∀ u, HasP u u.heap.size A r.p → Calls Tryd.prog 66 #[.agg #[.int .i64 (r.w : Int), .int .i64 (r.h : Int), .slice A n c], .agg #[.int .i64 q.k, .int .i64 q.a, .int .i64 q.b, .int .i64 q.c, .int .i64 q.d]] u (Drawn (blurR r) u)) := Lib.hid fun u hu => by
    have := l6Blur_each r q A c u hr hk hc hu
    unfold raV rasV Op.v at this
    rw [hn] at this
    exact this
  have HG : Hid (∀ A' c' w', (blurR r).p.length ≤ c' → OwnP w' w.heap.size (.slice A' (blurR r).p.length c') (blurR r).p → Below w.heap.size w w' → Did (some (blurR r)) w (.returned (.tuple #[.agg #[.int .i64 ((blurR r).w : Int), .int .i64 ((blurR r).h : Int), .slice A' (blurR r).p.length c'], .bool true])) w') := Lib.hid fun A' c' w' k1 k2 k3 => ⟨A', c', rfl, k1, k2, k3⟩
  unfold Drawn at CF
  generalize Did (some (blurR r)) w = D at *
  obtain ⟨t, ht⟩ : ∃ t, blurR r = t := ⟨_, rfl⟩
  rw [ht] at CF HG
  clear hdo ht
  have e1 : (q.k == 1) = false := by rw [hk]; rfl
  have e2 : (q.k == 2) = false := by rw [hk]; rfl
  have e3 : (q.k == 3) = false := by rw [hk]; rfl
  have e4 : (q.k == 4) = false := by rw [hk]; rfl
  have e7 : (q.k == 7) = false := by rw [hk]; rfl
  clear hk
  unfold raV rasV Op.v
  rw [hn]
  have hb0 : Below w.heap.size w (((w.alloc (.cells #[.int .i64 (r.w : Int), .int .i64 (r.h : Int), .slice A n c] 30)).alloc (.cells #[.int .i64 q.k, .int .i64 q.a, .int .i64 q.b, .int .i64 q.c, .int .i64 q.d] 49)).alloc (.cells #[.int .i64 0, .int .i64 0, .slice none 0 0] 30)) := (((Below.refl _ w).alloc (Nat.le_refl _) _).alloc (by simp) _).alloc (by simp; omega) _
  have hR0 : RasAtB (((w.alloc (.cells #[.int .i64 (r.w : Int), .int .i64 (r.h : Int), .slice A n c] 30)).alloc (.cells #[.int .i64 q.k, .int .i64 q.a, .int .i64 q.b, .int .i64 q.c, .int .i64 q.d] 49)).alloc (.cells #[.int .i64 0, .int .i64 0, .slice none 0 0] 30)) w.heap.size (r.w : Int) (r.h : Int) A n c 30 := Box.alloc (Box.alloc (Box.new w _ _) _) _
  have hO0 : OpAtB (((w.alloc (.cells #[.int .i64 (r.w : Int), .int .i64 (r.h : Int), .slice A n c] 30)).alloc (.cells #[.int .i64 q.k, .int .i64 q.a, .int .i64 q.b, .int .i64 q.c, .int .i64 q.d] 49)).alloc (.cells #[.int .i64 0, .int .i64 0, .slice none 0 0] 30)) (w.heap.size + 1) q := by
    refine Box.alloc ?_ _
    have := Box.new (w.alloc (.cells #[.int .i64 (r.w : Int), .int .i64 (r.h : Int), .slice A n c] 30)) #[.int .i64 q.k, .int .i64 q.a, .int .i64 q.b, .int .i64 q.c, .int .i64 q.d] 49
    rw [show (w.alloc (.cells #[.int .i64 (r.w : Int), .int .i64 (r.h : Int), .slice A n c] 30)).heap.size = w.heap.size + 1 from by simp] at this
    exact this
  have hZ0 : RasAtB (((w.alloc (.cells #[.int .i64 (r.w : Int), .int .i64 (r.h : Int), .slice A n c] 30)).alloc (.cells #[.int .i64 q.k, .int .i64 q.a, .int .i64 q.b, .int .i64 q.c, .int .i64 q.d] 49)).alloc (.cells #[.int .i64 0, .int .i64 0, .slice none 0 0] 30)) (w.heap.size + 1 + 1) 0 0 none 0 0 30 := by
    have := Box.new ((w.alloc (.cells #[.int .i64 (r.w : Int), .int .i64 (r.h : Int), .slice A n c] 30)).alloc (.cells #[.int .i64 q.k, .int .i64 q.a, .int .i64 q.b, .int .i64 q.c, .int .i64 q.d] 49)) #[.int .i64 0, .int .i64 0, .slice none 0 0] 30
    rw [show ((w.alloc (.cells #[.int .i64 (r.w : Int), .int .i64 (r.h : Int), .slice A n c] 30)).alloc (.cells #[.int .i64 q.k, .int .i64 q.a, .int .i64 q.b, .int .i64 q.c, .int .i64 q.d] 49)).heap.size = w.heap.size + 1 + 1 from by simp] at this
    exact this
  have HH0 := Lib.hid (h.carry hb0 (Nat.le_refl _) hb0.size)
  have HB0 := Lib.hid hb0
  have HR0 := Lib.hid hR0
  have HO0 := Lib.hid hO0
  have HZ0 := Lib.hid hZ0
  clear hb0 hR0 hO0 hZ0 h hr hc hn
  go_enter Tryd.func37, Tryd.ntmps37
  go_wp2_with fail
  generalize (((w.alloc (.cells #[.int .i64 (r.w : Int), .int .i64 (r.h : Int), .slice A n c] 30)).alloc (.cells #[.int .i64 q.k, .int .i64 q.a, .int .i64 q.b, .int .i64 q.c, .int .i64 q.d] 49)).alloc (.cells #[.int .i64 0, .int .i64 0, .slice none 0 0] 30)) = w0 at *
  have r0 := HR0.out.c0
  have r1 := HR0.out.c1
  have r2 := HR0.out.c2
  obtain ⟨y0, y1, y2, y3, y4⟩ := OpAtB.cs HO0.out
  go_wp2_with fail
  refine (CF.out _ HH0.out).mono ?_
  rintro e w2 ⟨A2, c2, rfl, hc2, ho2, b2⟩
  have HXn := Lib.hid (HZ0.out.below b2 HZ0.out.lt)
  have HBn := Lib.hid (HB0.out.trans (b2.mono HB0.out.size))
  have hzlt : w.heap.size + 1 + 1 < w0.heap.size := HZ0.out.lt
  have HOn := Lib.hid (((ho2.set_low (b := w.heap.size + 1 + 1) hzlt 0 (.int .i64 (t.w : Int))).set_low (b := w.heap.size + 1 + 1) hzlt 1 (.int .i64 (t.h : Int))).set_low (b := w.heap.size + 1 + 1) hzlt 2 (.slice A2 t.p.length c2))
  have hz : w.heap.size ≤ w0.heap.size := HB0.out.size
  clear b2 ho2 r0 r1 r2 y0 y1 y2 y3 y4
  have q0 := HXn.out.c0
  have q1 := HXn.out.c1
  have q2 := HXn.out.c2
  have f0 := HXn.out.free 0
  have f1 := HXn.out.free 1
  have f2 := HXn.out.free 2
  unfold rasV
  go_wp2_with fail
  (try simp only [Exit.inBlock, Exit.then])
  refine bodyPost_ret (results_row_tmp rfl _ _ (w.heap.size + 1 + 1) 30 #[.int .i64 (t.w : Int), .int .i64 (t.h : Int), .slice A2 t.p.length c2] (0, 0) _ (.bool true) rfl rfl (fin_ras HXn.out _ _ _) Tryd.underlying30 rfl (by kernel_rfl)) rfl ?_
  exact HG.out _ _ _ hc2 (HOn.out.lower hz) (((HBn.out.setCell (by simp; omega) _).setCell (by simp; omega) _).setCell (by simp; omega) _)
set_option maxHeartbeats 4000000 in
theorem l6Do_7 (r : Ra) (A : Option Addr) (c : Nat) (q : Op) (w : World) (hr : r.ok) (hk : q.k = 7) (ho : opB q = true) (_ : r.p.length ≤ c) (h : HasP w w.heap.size A r.p) :
    Calls Tryd.prog 37 #[raV r A c, q.v] w (Did (doR r q) w) := by
  have hdo : doR r q = some (sizeR r q.a.toNat q.b.toNat) := doR_7 r hk
  rw [hdo]
  obtain ⟨n, hn⟩ : ∃ n, r.p.length = n := ⟨_, rfl⟩
  have CF : Hid (∀ u, HasP u u.heap.size A r.p → Calls Tryd.prog 65 #[.agg #[.int .i64 (r.w : Int), .int .i64 (r.h : Int), .slice A n c], .agg #[.int .i64 q.k, .int .i64 q.a, .int .i64 q.b, .int .i64 q.c, .int .i64 q.d]] u (Drawn (sizeR r q.a.toNat q.b.toNat) u)) := Lib.hid fun u hu => by
    have := by
      obtain ⟨e1, e2, e3⟩ := size_form hk ho
      have h1 := l6Size_any r q.a.toNat q.b.toNat A c u hr e2 e3 hu
      rw [← e1] at h1
      exact h1
    unfold raV rasV Op.v at this
    rw [hn] at this
    exact this
  have HG : Hid (∀ A' c' w', (sizeR r q.a.toNat q.b.toNat).p.length ≤ c' → OwnP w' w.heap.size (.slice A' (sizeR r q.a.toNat q.b.toNat).p.length c') (sizeR r q.a.toNat q.b.toNat).p → Below w.heap.size w w' → Did (some (sizeR r q.a.toNat q.b.toNat)) w (.returned (.tuple #[.agg #[.int .i64 ((sizeR r q.a.toNat q.b.toNat).w : Int), .int .i64 ((sizeR r q.a.toNat q.b.toNat).h : Int), .slice A' (sizeR r q.a.toNat q.b.toNat).p.length c'], .bool true])) w') := Lib.hid fun A' c' w' k1 k2 k3 => ⟨A', c', rfl, k1, k2, k3⟩
  unfold Drawn at CF
  generalize Did (some (sizeR r q.a.toNat q.b.toNat)) w = D at *
  obtain ⟨t, ht⟩ : ∃ t, sizeR r q.a.toNat q.b.toNat = t := ⟨_, rfl⟩
  rw [ht] at CF HG
  clear hdo ht ho
  have e1 : (q.k == 1) = false := by rw [hk]; rfl
  have e2 : (q.k == 2) = false := by rw [hk]; rfl
  have e3 : (q.k == 3) = false := by rw [hk]; rfl
  have e4 : (q.k == 4) = false := by rw [hk]; rfl
  have e7 : (q.k == 7) = true := by rw [hk]; rfl
  clear hk
  unfold raV rasV Op.v
  rw [hn]
  have hb0 : Below w.heap.size w (((w.alloc (.cells #[.int .i64 (r.w : Int), .int .i64 (r.h : Int), .slice A n c] 30)).alloc (.cells #[.int .i64 q.k, .int .i64 q.a, .int .i64 q.b, .int .i64 q.c, .int .i64 q.d] 49)).alloc (.cells #[.int .i64 0, .int .i64 0, .slice none 0 0] 30)) := (((Below.refl _ w).alloc (Nat.le_refl _) _).alloc (by simp) _).alloc (by simp; omega) _
  have hR0 : RasAtB (((w.alloc (.cells #[.int .i64 (r.w : Int), .int .i64 (r.h : Int), .slice A n c] 30)).alloc (.cells #[.int .i64 q.k, .int .i64 q.a, .int .i64 q.b, .int .i64 q.c, .int .i64 q.d] 49)).alloc (.cells #[.int .i64 0, .int .i64 0, .slice none 0 0] 30)) w.heap.size (r.w : Int) (r.h : Int) A n c 30 := Box.alloc (Box.alloc (Box.new w _ _) _) _
  have hO0 : OpAtB (((w.alloc (.cells #[.int .i64 (r.w : Int), .int .i64 (r.h : Int), .slice A n c] 30)).alloc (.cells #[.int .i64 q.k, .int .i64 q.a, .int .i64 q.b, .int .i64 q.c, .int .i64 q.d] 49)).alloc (.cells #[.int .i64 0, .int .i64 0, .slice none 0 0] 30)) (w.heap.size + 1) q := by
    refine Box.alloc ?_ _
    have := Box.new (w.alloc (.cells #[.int .i64 (r.w : Int), .int .i64 (r.h : Int), .slice A n c] 30)) #[.int .i64 q.k, .int .i64 q.a, .int .i64 q.b, .int .i64 q.c, .int .i64 q.d] 49
    rw [show (w.alloc (.cells #[.int .i64 (r.w : Int), .int .i64 (r.h : Int), .slice A n c] 30)).heap.size = w.heap.size + 1 from by simp] at this
    exact this
  have hZ0 : RasAtB (((w.alloc (.cells #[.int .i64 (r.w : Int), .int .i64 (r.h : Int), .slice A n c] 30)).alloc (.cells #[.int .i64 q.k, .int .i64 q.a, .int .i64 q.b, .int .i64 q.c, .int .i64 q.d] 49)).alloc (.cells #[.int .i64 0, .int .i64 0, .slice none 0 0] 30)) (w.heap.size + 1 + 1) 0 0 none 0 0 30 := by
    have := Box.new ((w.alloc (.cells #[.int .i64 (r.w : Int), .int .i64 (r.h : Int), .slice A n c] 30)).alloc (.cells #[.int .i64 q.k, .int .i64 q.a, .int .i64 q.b, .int .i64 q.c, .int .i64 q.d] 49)) #[.int .i64 0, .int .i64 0, .slice none 0 0] 30
    rw [show ((w.alloc (.cells #[.int .i64 (r.w : Int), .int .i64 (r.h : Int), .slice A n c] 30)).alloc (.cells #[.int .i64 q.k, .int .i64 q.a, .int .i64 q.b, .int .i64 q.c, .int .i64 q.d] 49)).heap.size = w.heap.size + 1 + 1 from by simp] at this
    exact this
  have HH0 := Lib.hid (h.carry hb0 (Nat.le_refl _) hb0.size)
  have HB0 := Lib.hid hb0
  have HR0 := Lib.hid hR0
  have HO0 := Lib.hid hO0
  have HZ0 := Lib.hid hZ0
  clear hb0 hR0 hO0 hZ0 h hr hn
  go_enter Tryd.func37, Tryd.ntmps37
  go_wp2_with fail
  generalize (((w.alloc (.cells #[.int .i64 (r.w : Int), .int .i64 (r.h : Int), .slice A n c] 30)).alloc (.cells #[.int .i64 q.k, .int .i64 q.a, .int .i64 q.b, .int .i64 q.c, .int .i64 q.d] 49)).alloc (.cells #[.int .i64 0, .int .i64 0, .slice none 0 0] 30)) = w0 at *
  have r0 := HR0.out.c0
  have r1 := HR0.out.c1
  have r2 := HR0.out.c2
  obtain ⟨y0, y1, y2, y3, y4⟩ := OpAtB.cs HO0.out
  go_wp2_with fail
  refine (CF.out _ HH0.out).mono ?_
  rintro e w2 ⟨A2, c2, rfl, hc2, ho2, b2⟩
  have HXn := Lib.hid (HZ0.out.below b2 HZ0.out.lt)
  have HBn := Lib.hid (HB0.out.trans (b2.mono HB0.out.size))
  have hzlt : w.heap.size + 1 + 1 < w0.heap.size := HZ0.out.lt
  have HOn := Lib.hid (((ho2.set_low (b := w.heap.size + 1 + 1) hzlt 0 (.int .i64 (t.w : Int))).set_low (b := w.heap.size + 1 + 1) hzlt 1 (.int .i64 (t.h : Int))).set_low (b := w.heap.size + 1 + 1) hzlt 2 (.slice A2 t.p.length c2))
  have hz : w.heap.size ≤ w0.heap.size := HB0.out.size
  clear b2 ho2 r0 r1 r2 y0 y1 y2 y3 y4
  have q0 := HXn.out.c0
  have q1 := HXn.out.c1
  have q2 := HXn.out.c2
  have f0 := HXn.out.free 0
  have f1 := HXn.out.free 1
  have f2 := HXn.out.free 2
  unfold rasV
  go_wp2_with fail
  (try simp only [Exit.inBlock, Exit.then])
  refine bodyPost_ret (results_row_tmp rfl _ _ (w.heap.size + 1 + 1) 30 #[.int .i64 (t.w : Int), .int .i64 (t.h : Int), .slice A2 t.p.length c2] (0, 0) _ (.bool true) rfl rfl (fin_ras HXn.out _ _ _) Tryd.underlying30 rfl (by kernel_rfl)) rfl ?_
  exact HG.out _ _ _ hc2 (HOn.out.lower hz) (((HBn.out.setCell (by simp; omega) _).setCell (by simp; omega) _).setCell (by simp; omega) _)
set_option maxHeartbeats 4000000 in
theorem l6Do_8 (r : Ra) (A : Option Addr) (c : Nat) (q : Op) (w : World) (hr : r.ok) (hk : q.k = 8) (ho : opB q = true) (hc : r.p.length ≤ c) (h : HasP w w.heap.size A r.p) :
    Calls Tryd.prog 37 #[raV r A c, q.v] w (Did (doR r q) w) := by
  have hdo : doR r q = some (eachR (flatP1 q) r) := doR_8 r hk
  rw [hdo]
  obtain ⟨n, hn⟩ : ∃ n, r.p.length = n := ⟨_, rfl⟩
  have CF : Hid (∀ u, HasP u u.heap.size A r.p → Calls Tryd.prog 66 #[.agg #[.int .i64 (r.w : Int), .int .i64 (r.h : Int), .slice A n c], .agg #[.int .i64 q.k, .int .i64 q.a, .int .i64 q.b, .int .i64 q.c, .int .i64 q.d]] u (Drawn (eachR (flatP1 q) r) u)) := Lib.hid fun u hu => by
    have := l6Flat_each r q A c u hr hk (opB_8 hk ho) hc hu
    unfold raV rasV Op.v at this
    rw [hn] at this
    exact this
  have HG : Hid (∀ A' c' w', (eachR (flatP1 q) r).p.length ≤ c' → OwnP w' w.heap.size (.slice A' (eachR (flatP1 q) r).p.length c') (eachR (flatP1 q) r).p → Below w.heap.size w w' → Did (some (eachR (flatP1 q) r)) w (.returned (.tuple #[.agg #[.int .i64 ((eachR (flatP1 q) r).w : Int), .int .i64 ((eachR (flatP1 q) r).h : Int), .slice A' (eachR (flatP1 q) r).p.length c'], .bool true])) w') := Lib.hid fun A' c' w' k1 k2 k3 => ⟨A', c', rfl, k1, k2, k3⟩
  unfold Drawn at CF
  generalize Did (some (eachR (flatP1 q) r)) w = D at *
  obtain ⟨t, ht⟩ : ∃ t, eachR (flatP1 q) r = t := ⟨_, rfl⟩
  rw [ht] at CF HG
  clear hdo ht ho
  have e1 : (q.k == 1) = false := by rw [hk]; rfl
  have e2 : (q.k == 2) = false := by rw [hk]; rfl
  have e3 : (q.k == 3) = false := by rw [hk]; rfl
  have e4 : (q.k == 4) = false := by rw [hk]; rfl
  have e7 : (q.k == 7) = false := by rw [hk]; rfl
  clear hk
  unfold raV rasV Op.v
  rw [hn]
  have hb0 : Below w.heap.size w (((w.alloc (.cells #[.int .i64 (r.w : Int), .int .i64 (r.h : Int), .slice A n c] 30)).alloc (.cells #[.int .i64 q.k, .int .i64 q.a, .int .i64 q.b, .int .i64 q.c, .int .i64 q.d] 49)).alloc (.cells #[.int .i64 0, .int .i64 0, .slice none 0 0] 30)) := (((Below.refl _ w).alloc (Nat.le_refl _) _).alloc (by simp) _).alloc (by simp; omega) _
  have hR0 : RasAtB (((w.alloc (.cells #[.int .i64 (r.w : Int), .int .i64 (r.h : Int), .slice A n c] 30)).alloc (.cells #[.int .i64 q.k, .int .i64 q.a, .int .i64 q.b, .int .i64 q.c, .int .i64 q.d] 49)).alloc (.cells #[.int .i64 0, .int .i64 0, .slice none 0 0] 30)) w.heap.size (r.w : Int) (r.h : Int) A n c 30 := Box.alloc (Box.alloc (Box.new w _ _) _) _
  have hO0 : OpAtB (((w.alloc (.cells #[.int .i64 (r.w : Int), .int .i64 (r.h : Int), .slice A n c] 30)).alloc (.cells #[.int .i64 q.k, .int .i64 q.a, .int .i64 q.b, .int .i64 q.c, .int .i64 q.d] 49)).alloc (.cells #[.int .i64 0, .int .i64 0, .slice none 0 0] 30)) (w.heap.size + 1) q := by
    refine Box.alloc ?_ _
    have := Box.new (w.alloc (.cells #[.int .i64 (r.w : Int), .int .i64 (r.h : Int), .slice A n c] 30)) #[.int .i64 q.k, .int .i64 q.a, .int .i64 q.b, .int .i64 q.c, .int .i64 q.d] 49
    rw [show (w.alloc (.cells #[.int .i64 (r.w : Int), .int .i64 (r.h : Int), .slice A n c] 30)).heap.size = w.heap.size + 1 from by simp] at this
    exact this
  have hZ0 : RasAtB (((w.alloc (.cells #[.int .i64 (r.w : Int), .int .i64 (r.h : Int), .slice A n c] 30)).alloc (.cells #[.int .i64 q.k, .int .i64 q.a, .int .i64 q.b, .int .i64 q.c, .int .i64 q.d] 49)).alloc (.cells #[.int .i64 0, .int .i64 0, .slice none 0 0] 30)) (w.heap.size + 1 + 1) 0 0 none 0 0 30 := by
    have := Box.new ((w.alloc (.cells #[.int .i64 (r.w : Int), .int .i64 (r.h : Int), .slice A n c] 30)).alloc (.cells #[.int .i64 q.k, .int .i64 q.a, .int .i64 q.b, .int .i64 q.c, .int .i64 q.d] 49)) #[.int .i64 0, .int .i64 0, .slice none 0 0] 30
    rw [show ((w.alloc (.cells #[.int .i64 (r.w : Int), .int .i64 (r.h : Int), .slice A n c] 30)).alloc (.cells #[.int .i64 q.k, .int .i64 q.a, .int .i64 q.b, .int .i64 q.c, .int .i64 q.d] 49)).heap.size = w.heap.size + 1 + 1 from by simp] at this
    exact this
  have HH0 := Lib.hid (h.carry hb0 (Nat.le_refl _) hb0.size)
  have HB0 := Lib.hid hb0
  have HR0 := Lib.hid hR0
  have HO0 := Lib.hid hO0
  have HZ0 := Lib.hid hZ0
  clear hb0 hR0 hO0 hZ0 h hr hc hn
  go_enter Tryd.func37, Tryd.ntmps37
  go_wp2_with fail
  generalize (((w.alloc (.cells #[.int .i64 (r.w : Int), .int .i64 (r.h : Int), .slice A n c] 30)).alloc (.cells #[.int .i64 q.k, .int .i64 q.a, .int .i64 q.b, .int .i64 q.c, .int .i64 q.d] 49)).alloc (.cells #[.int .i64 0, .int .i64 0, .slice none 0 0] 30)) = w0 at *
  have r0 := HR0.out.c0
  have r1 := HR0.out.c1
  have r2 := HR0.out.c2
  obtain ⟨y0, y1, y2, y3, y4⟩ := OpAtB.cs HO0.out
  go_wp2_with fail
  refine (CF.out _ HH0.out).mono ?_
  rintro e w2 ⟨A2, c2, rfl, hc2, ho2, b2⟩
  have HXn := Lib.hid (HZ0.out.below b2 HZ0.out.lt)
  have HBn := Lib.hid (HB0.out.trans (b2.mono HB0.out.size))
  have hzlt : w.heap.size + 1 + 1 < w0.heap.size := HZ0.out.lt
  have HOn := Lib.hid (((ho2.set_low (b := w.heap.size + 1 + 1) hzlt 0 (.int .i64 (t.w : Int))).set_low (b := w.heap.size + 1 + 1) hzlt 1 (.int .i64 (t.h : Int))).set_low (b := w.heap.size + 1 + 1) hzlt 2 (.slice A2 t.p.length c2))
  have hz : w.heap.size ≤ w0.heap.size := HB0.out.size
  clear b2 ho2 r0 r1 r2 y0 y1 y2 y3 y4
  have q0 := HXn.out.c0
  have q1 := HXn.out.c1
  have q2 := HXn.out.c2
  have f0 := HXn.out.free 0
  have f1 := HXn.out.free 1
  have f2 := HXn.out.free 2
  unfold rasV
  go_wp2_with fail
  (try simp only [Exit.inBlock, Exit.then])
  refine bodyPost_ret (results_row_tmp rfl _ _ (w.heap.size + 1 + 1) 30 #[.int .i64 (t.w : Int), .int .i64 (t.h : Int), .slice A2 t.p.length c2] (0, 0) _ (.bool true) rfl rfl (fin_ras HXn.out _ _ _) Tryd.underlying30 rfl (by kernel_rfl)) rfl ?_
  exact HG.out _ _ _ hc2 (HOn.out.lower hz) (((HBn.out.setCell (by simp; omega) _).setCell (by simp; omega) _).setCell (by simp; omega) _)
set_option maxHeartbeats 4000000 in
theorem l6Do_1 (r : Ra) (A : Option Addr) (c : Nat) (q : Op) (w : World) (hr : r.ok) (hk : q.k = 1) (ho : opB q = true) {s : Ra} (hs : doR r q = some s) (_ : r.p.length ≤ c) (h : HasP w w.heap.size A r.p) :
    Calls Tryd.prog 37 #[raV r A c, q.v] w (Did (doR r q) w) := by
  have hdo : doR r q = some (cropR r q.a.toNat q.b.toNat q.c.toNat q.d.toNat) := by rw [hs, (crop_form hk ho hs).2.2.2.2.2]
  rw [hdo]
  obtain ⟨n, hn⟩ : ∃ n, r.p.length = n := ⟨_, rfl⟩
  have CF : Hid (∀ u, HasP u u.heap.size A r.p → Calls Tryd.prog 61 #[.agg #[.int .i64 (r.w : Int), .int .i64 (r.h : Int), .slice A n c], .agg #[.int .i64 q.k, .int .i64 q.a, .int .i64 q.b, .int .i64 q.c, .int .i64 q.d]] u (Drawn (cropR r q.a.toNat q.b.toNat q.c.toNat q.d.toNat) u)) := Lib.hid fun u hu => by
    have := by
      obtain ⟨e1, e2, e3, e4, e5, e6⟩ := crop_form hk ho hs
      have h1 := l6Crop_any r q.a.toNat q.b.toNat q.c.toNat q.d.toNat A c u hr e2 e3 e4 e5 hu
      rw [← e1] at h1
      exact h1
    unfold raV rasV Op.v at this
    rw [hn] at this
    exact this
  have HG : Hid (∀ A' c' w', (cropR r q.a.toNat q.b.toNat q.c.toNat q.d.toNat).p.length ≤ c' → OwnP w' w.heap.size (.slice A' (cropR r q.a.toNat q.b.toNat q.c.toNat q.d.toNat).p.length c') (cropR r q.a.toNat q.b.toNat q.c.toNat q.d.toNat).p → Below w.heap.size w w' → Did (some (cropR r q.a.toNat q.b.toNat q.c.toNat q.d.toNat)) w (.returned (.tuple #[.agg #[.int .i64 ((cropR r q.a.toNat q.b.toNat q.c.toNat q.d.toNat).w : Int), .int .i64 ((cropR r q.a.toNat q.b.toNat q.c.toNat q.d.toNat).h : Int), .slice A' (cropR r q.a.toNat q.b.toNat q.c.toNat q.d.toNat).p.length c'], .bool true])) w') := Lib.hid fun A' c' w' k1 k2 k3 => ⟨A', c', rfl, k1, k2, k3⟩
  unfold Drawn at CF
  generalize Did (some (cropR r q.a.toNat q.b.toNat q.c.toNat q.d.toNat)) w = D at *
  obtain ⟨t, ht⟩ : ∃ t, cropR r q.a.toNat q.b.toNat q.c.toNat q.d.toNat = t := ⟨_, rfl⟩
  rw [ht] at CF HG
  have hin : q.a + q.c ≤ (r.w : Int) ∧ q.b + q.d ≤ (r.h : Int) := by
    obtain ⟨e1, e2, e3, e4, e5, e6⟩ := crop_form hk ho hs
    obtain ⟨h1, h2, h3, h4⟩ := opB_1 hk ho
    omega
  have hrg := opB_1 hk ho
  clear hdo ht ho hs
  have e1 : (q.k == 1) = true := by rw [hk]; rfl
  clear hk
  unfold raV rasV Op.v
  rw [hn]
  have hb0 : Below w.heap.size w (((w.alloc (.cells #[.int .i64 (r.w : Int), .int .i64 (r.h : Int), .slice A n c] 30)).alloc (.cells #[.int .i64 q.k, .int .i64 q.a, .int .i64 q.b, .int .i64 q.c, .int .i64 q.d] 49)).alloc (.cells #[.int .i64 0, .int .i64 0, .slice none 0 0] 30)) := (((Below.refl _ w).alloc (Nat.le_refl _) _).alloc (by simp) _).alloc (by simp; omega) _
  have hR0 : RasAtB (((w.alloc (.cells #[.int .i64 (r.w : Int), .int .i64 (r.h : Int), .slice A n c] 30)).alloc (.cells #[.int .i64 q.k, .int .i64 q.a, .int .i64 q.b, .int .i64 q.c, .int .i64 q.d] 49)).alloc (.cells #[.int .i64 0, .int .i64 0, .slice none 0 0] 30)) w.heap.size (r.w : Int) (r.h : Int) A n c 30 := Box.alloc (Box.alloc (Box.new w _ _) _) _
  have hO0 : OpAtB (((w.alloc (.cells #[.int .i64 (r.w : Int), .int .i64 (r.h : Int), .slice A n c] 30)).alloc (.cells #[.int .i64 q.k, .int .i64 q.a, .int .i64 q.b, .int .i64 q.c, .int .i64 q.d] 49)).alloc (.cells #[.int .i64 0, .int .i64 0, .slice none 0 0] 30)) (w.heap.size + 1) q := by
    refine Box.alloc ?_ _
    have := Box.new (w.alloc (.cells #[.int .i64 (r.w : Int), .int .i64 (r.h : Int), .slice A n c] 30)) #[.int .i64 q.k, .int .i64 q.a, .int .i64 q.b, .int .i64 q.c, .int .i64 q.d] 49
    rw [show (w.alloc (.cells #[.int .i64 (r.w : Int), .int .i64 (r.h : Int), .slice A n c] 30)).heap.size = w.heap.size + 1 from by simp] at this
    exact this
  have hZ0 : RasAtB (((w.alloc (.cells #[.int .i64 (r.w : Int), .int .i64 (r.h : Int), .slice A n c] 30)).alloc (.cells #[.int .i64 q.k, .int .i64 q.a, .int .i64 q.b, .int .i64 q.c, .int .i64 q.d] 49)).alloc (.cells #[.int .i64 0, .int .i64 0, .slice none 0 0] 30)) (w.heap.size + 1 + 1) 0 0 none 0 0 30 := by
    have := Box.new ((w.alloc (.cells #[.int .i64 (r.w : Int), .int .i64 (r.h : Int), .slice A n c] 30)).alloc (.cells #[.int .i64 q.k, .int .i64 q.a, .int .i64 q.b, .int .i64 q.c, .int .i64 q.d] 49)) #[.int .i64 0, .int .i64 0, .slice none 0 0] 30
    rw [show ((w.alloc (.cells #[.int .i64 (r.w : Int), .int .i64 (r.h : Int), .slice A n c] 30)).alloc (.cells #[.int .i64 q.k, .int .i64 q.a, .int .i64 q.b, .int .i64 q.c, .int .i64 q.d] 49)).heap.size = w.heap.size + 1 + 1 from by simp] at this
    exact this
  have HH0 := Lib.hid (h.carry hb0 (Nat.le_refl _) hb0.size)
  have HB0 := Lib.hid hb0
  have HR0 := Lib.hid hR0
  have HO0 := Lib.hid hO0
  have HZ0 := Lib.hid hZ0
  clear hb0 hR0 hO0 hZ0 h hr hn
  go_enter Tryd.func37, Tryd.ntmps37
  go_wp2_with fail
  generalize (((w.alloc (.cells #[.int .i64 (r.w : Int), .int .i64 (r.h : Int), .slice A n c] 30)).alloc (.cells #[.int .i64 q.k, .int .i64 q.a, .int .i64 q.b, .int .i64 q.c, .int .i64 q.d] 49)).alloc (.cells #[.int .i64 0, .int .i64 0, .slice none 0 0] 30)) = w0 at *
  have r0 := HR0.out.c0
  have r1 := HR0.out.c1
  have r2 := HR0.out.c2
  obtain ⟨y0, y1, y2, y3, y4⟩ := OpAtB.cs HO0.out
  have n1 : ¬ ((r.w : Int) < q.a + q.c) := by omega
  have n2 : ¬ ((r.h : Int) < q.b + q.d) := by omega
  go_wp2_with fail
  refine (CF.out _ HH0.out).mono ?_
  rintro e w2 ⟨A2, c2, rfl, hc2, ho2, b2⟩
  have HXn := Lib.hid (HZ0.out.below b2 HZ0.out.lt)
  have HBn := Lib.hid (HB0.out.trans (b2.mono HB0.out.size))
  have hzlt : w.heap.size + 1 + 1 < w0.heap.size := HZ0.out.lt
  have HOn := Lib.hid (((ho2.set_low (b := w.heap.size + 1 + 1) hzlt 0 (.int .i64 (t.w : Int))).set_low (b := w.heap.size + 1 + 1) hzlt 1 (.int .i64 (t.h : Int))).set_low (b := w.heap.size + 1 + 1) hzlt 2 (.slice A2 t.p.length c2))
  have hz : w.heap.size ≤ w0.heap.size := HB0.out.size
  clear b2 ho2 r0 r1 r2 y0 y1 y2 y3 y4
  have q0 := HXn.out.c0
  have q1 := HXn.out.c1
  have q2 := HXn.out.c2
  have f0 := HXn.out.free 0
  have f1 := HXn.out.free 1
  have f2 := HXn.out.free 2
  unfold rasV
  go_wp2_with fail
  (try simp only [Exit.inBlock, Exit.then])
  refine bodyPost_ret (results_row_tmp rfl _ _ (w.heap.size + 1 + 1) 30 #[.int .i64 (t.w : Int), .int .i64 (t.h : Int), .slice A2 t.p.length c2] (0, 0) _ (.bool true) rfl rfl (fin_ras HXn.out _ _ _) Tryd.underlying30 rfl (by kernel_rfl)) rfl ?_
  exact HG.out _ _ _ hc2 (HOn.out.lower hz) (((HBn.out.setCell (by simp; omega) _).setCell (by simp; omega) _).setCell (by simp; omega) _)
set_option maxHeartbeats 4000000 in
theorem l6Do_none (r : Ra) (A : Option Addr) (c : Nat) (q : Op) (w : World) (_ : r.ok) (hk : q.k = 1) (ho : opB q = true) (hs : doR r q = none) (_ : r.p.length ≤ c) (_ : HasP w w.heap.size A r.p) :
    Calls Tryd.prog 37 #[raV r A c, q.v] w (Did (doR r q) w) := by
  rw [hs]
  have hout : (r.w : Int) < q.a + q.c ∨ (r.h : Int) < q.b + q.d := by
    unfold doR at hs
    rw [if_pos hk] at hs
    split at hs
    · rename_i h
      omega
    · cases hs
  have hrg := opB_1 hk ho
  obtain ⟨n, hn⟩ : ∃ n, r.p.length = n := ⟨_, rfl⟩
  have e1 : (q.k == 1) = true := by rw [hk]; rfl
  have HG : Hid (∀ w', Below w.heap.size w w' → Did none w (.returned (.tuple #[.agg #[.int .i64 0, .int .i64 0, .slice none 0 0], .bool false])) w') := Lib.hid fun w' hb => did_none w none hb rfl
  generalize Did none w = D at *
  clear hk ho hs
  unfold raV rasV Op.v
  rw [hn]
  have hb0 : Below w.heap.size w (((w.alloc (.cells #[.int .i64 (r.w : Int), .int .i64 (r.h : Int), .slice A n c] 30)).alloc (.cells #[.int .i64 q.k, .int .i64 q.a, .int .i64 q.b, .int .i64 q.c, .int .i64 q.d] 49)).alloc (.cells #[.int .i64 0, .int .i64 0, .slice none 0 0] 30)) := (((Below.refl _ w).alloc (Nat.le_refl _) _).alloc (by simp) _).alloc (by simp; omega) _
  have hR0 : RasAtB (((w.alloc (.cells #[.int .i64 (r.w : Int), .int .i64 (r.h : Int), .slice A n c] 30)).alloc (.cells #[.int .i64 q.k, .int .i64 q.a, .int .i64 q.b, .int .i64 q.c, .int .i64 q.d] 49)).alloc (.cells #[.int .i64 0, .int .i64 0, .slice none 0 0] 30)) w.heap.size (r.w : Int) (r.h : Int) A n c 30 := Box.alloc (Box.alloc (Box.new w _ _) _) _
  have hO0 : OpAtB (((w.alloc (.cells #[.int .i64 (r.w : Int), .int .i64 (r.h : Int), .slice A n c] 30)).alloc (.cells #[.int .i64 q.k, .int .i64 q.a, .int .i64 q.b, .int .i64 q.c, .int .i64 q.d] 49)).alloc (.cells #[.int .i64 0, .int .i64 0, .slice none 0 0] 30)) (w.heap.size + 1) q := by
    refine Box.alloc ?_ _
    have := Box.new (w.alloc (.cells #[.int .i64 (r.w : Int), .int .i64 (r.h : Int), .slice A n c] 30)) #[.int .i64 q.k, .int .i64 q.a, .int .i64 q.b, .int .i64 q.c, .int .i64 q.d] 49
    rw [show (w.alloc (.cells #[.int .i64 (r.w : Int), .int .i64 (r.h : Int), .slice A n c] 30)).heap.size = w.heap.size + 1 from by simp] at this
    exact this
  have hZ0 : RasAtB (((w.alloc (.cells #[.int .i64 (r.w : Int), .int .i64 (r.h : Int), .slice A n c] 30)).alloc (.cells #[.int .i64 q.k, .int .i64 q.a, .int .i64 q.b, .int .i64 q.c, .int .i64 q.d] 49)).alloc (.cells #[.int .i64 0, .int .i64 0, .slice none 0 0] 30)) (w.heap.size + 1 + 1) 0 0 none 0 0 30 := by
    have := Box.new ((w.alloc (.cells #[.int .i64 (r.w : Int), .int .i64 (r.h : Int), .slice A n c] 30)).alloc (.cells #[.int .i64 q.k, .int .i64 q.a, .int .i64 q.b, .int .i64 q.c, .int .i64 q.d] 49)) #[.int .i64 0, .int .i64 0, .slice none 0 0] 30
    rw [show ((w.alloc (.cells #[.int .i64 (r.w : Int), .int .i64 (r.h : Int), .slice A n c] 30)).alloc (.cells #[.int .i64 q.k, .int .i64 q.a, .int .i64 q.b, .int .i64 q.c, .int .i64 q.d] 49)).heap.size = w.heap.size + 1 + 1 from by simp] at this
    exact this
  have HB0 := Lib.hid hb0
  have HR0 := Lib.hid hR0
  have HO0 := Lib.hid hO0
  have HZ0 := Lib.hid hZ0
  clear hb0 hR0 hO0 hZ0 hn
  go_enter Tryd.func37, Tryd.ntmps37
  go_wp2_with fail
  generalize (((w.alloc (.cells #[.int .i64 (r.w : Int), .int .i64 (r.h : Int), .slice A n c] 30)).alloc (.cells #[.int .i64 q.k, .int .i64 q.a, .int .i64 q.b, .int .i64 q.c, .int .i64 q.d] 49)).alloc (.cells #[.int .i64 0, .int .i64 0, .slice none 0 0] 30)) = w0 at *
  have r0 := HR0.out.c0
  have r1 := HR0.out.c1
  obtain ⟨y0, y1, y2, y3, y4⟩ := OpAtB.cs HO0.out
  have q0 := HZ0.out.c0
  have q1 := HZ0.out.c1
  have q2 := HZ0.out.c2
  have f0 := HZ0.out.free 0
  have f1 := HZ0.out.free 1
  have f2 := HZ0.out.free 2
  by_cases hx : (r.w : Int) < q.a + q.c
  all_goals (
    try have hy : (r.h : Int) < q.b + q.d := by omega
    go_wp2_with fail
    (try simp only [Exit.inBlock, Exit.then])
    refine bodyPost_ret (results_row_tmp rfl _ _ (w.heap.size + 1 + 1) 30 #[.int .i64 0, .int .i64 0, .slice none 0 0] (0, 0) _ (.bool false) rfl rfl HZ0.out Tryd.underlying30 rfl (by kernel_rfl)) rfl ?_
    exact HG.out _ HB0.out)
theorem l6Do_any (r : Ra) (A : Option Addr) (c : Nat) (q : Op) (w : World) (hr : r.ok) (ho : opB q = true) (hc : r.p.length ≤ c) (h : HasP w w.heap.size A r.p) :
    Calls Tryd.prog 37 #[raV r A c, q.v] w (Did (doR r q) w) := by
  have hk : q.k = 1 ∨ q.k = 2 ∨ q.k = 3 ∨ q.k = 4 ∨ q.k = 5 ∨ q.k = 6 ∨ q.k = 7 ∨ q.k = 8 := by
    have := ho
    rw [opB_alt] at this
    by_cases h1 : q.k = 1
    · omega
    by_cases h7 : q.k = 7
    · omega
    by_cases h8 : q.k = 8
    · omega
    rw [if_neg h1, if_neg h7, if_neg h8] at this
    unfold inR at this
    simp only [Bool.and_eq_true, decide_eq_true_eq] at this
    omega
  rcases hk with hk | hk | hk | hk | hk | hk | hk | hk
  · cases hd : doR r q with
    | none => rw [← hd]; exact l6Do_none r A c q w hr hk ho hd hc h
    | some s => rw [← hd]; exact l6Do_1 r A c q w hr hk ho hd hc h
  · exact l6Do_2 r A c q w hr hk hc h
  · exact l6Do_3 r A c q w hr hk hc h
  · exact l6Do_4 r A c q w hr hk hc h
  · exact l6Do_5 r A c q w hr hk hc h
  · exact l6Do_6 r A c q w hr hk hc h
  · exact l6Do_7 r A c q w hr hk ho hc h
  · exact l6Do_8 r A c q w hr hk ho hc h
end Go.Proofs.YtiemlakjallphabDoor
namespace Go.Proofs.YtiemlakjallphabDoor
set_option maxRecDepth 4000
open Go.RowKit

end Go.Proofs.YtiemlakjallphabDoor
