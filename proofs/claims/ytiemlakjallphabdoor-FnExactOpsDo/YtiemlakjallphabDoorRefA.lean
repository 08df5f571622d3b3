/-
  l6Gray and l6Flat of the reference: a pixel without colour, a pixel in front of another one. Conditions: the pixel is one, the colour behind it too.
-/
import Derived.Test.YtiemlakjallphabDoorClo
import Derived.Test.YtiemlakjallphabDoorRegT
import Derived.Test.YtiemlakjallphabDoorCloP
import Derived.Test.YtiemlakjallphabDoorCloA
import Derived.Test.YtiemlakjallphabDoorOpsAll
import Derived.Test.YtiemlakjallphabDoorCloM
namespace Go.Proofs.YtiemlakjallphabDoor
set_option maxRecDepth 4000
open Go.RowKit

set_option maxHeartbeats 4000000 in
theorem l6Turn_any (r : Ra) (A : Option Addr) (c : Nat) (w : World) (hr : r.ok) (h : HasP w w.heap.size A r.p) :
    Calls Tryd.prog 64 #[raV r A c] w (Drawn (turnR r) w) := by
  obtain ⟨hw6, hh6, hl, -⟩ := hr.parts
  have hlen := ra_len hr
  obtain ⟨b, o, -, rfl, hbl, -, -⟩ := h.spot (k := 0) (by omega)
  have HPX : Hid (∀ x y, x < r.h → y < r.w → r.p[(r.h - 1 - x) * r.w + y]? = some (r.at y (r.h - 1 - x))) := Lib.hid fun x y hx hy => (hr.at (x := y) (y := r.h - 1 - x) hy (by omega)).1
  have HG : Hid (∀ A' c' w', (turnR r).p.length ≤ c' → OwnP w' w.heap.size (.slice A' (turnR r).p.length c') (turnR r).p → Below w.heap.size w w' → Drawn (turnR r) w (.returned (.agg #[.int .i64 (r.h : Int), .int .i64 (r.w : Int), .slice A' (turnR r).p.length c'])) w') := Lib.hid fun A' c' w' k1 k2 k3 => ⟨A', c', rfl, k1, k2, k3⟩
  have HTP : Hid ((turnR r).p = tab r.h (r.h * r.w) (fun x y => r.at y (r.h - 1 - x))) := Lib.hid rfl
  generalize Drawn (turnR r) w = D at *
  generalize (turnR r).p = tp at *
  unfold raV rasV
  obtain ⟨f, hf⟩ : ∃ f : Nat → Nat → Px, (fun x y => r.at y (r.h - 1 - x)) = f := ⟨_, rfl⟩
  have HPX2 : Hid (∀ x y, x < r.h → y < r.w → r.p[(r.h - 1 - x) * r.w + y]? = some (f x y)) := Lib.hid fun x y hx hy => by rw [← hf]; exact HPX.out x y hx hy
  rw [hf] at HTP
  clear HPX hf
  obtain ⟨W, hW⟩ : ∃ W, r.w = W := ⟨_, rfl⟩
  obtain ⟨H, hH⟩ : ∃ H, r.h = H := ⟨_, rfl⟩
  obtain ⟨n, hn⟩ : ∃ n, r.p.length = n := ⟨_, rfl⟩
  obtain ⟨pl, hpl⟩ : ∃ pl, r.p = pl := ⟨_, rfl⟩
  rw [hW, hH] at HG HTP hl
  rw [hW, hH, hpl] at HPX2
  rw [hW] at hw6
  rw [hH] at hh6
  rw [hn] at hlen hl
  rw [hpl] at h
  rw [hW, hH, hn]
  have HNL : Hid (pl.length = n) := Lib.hid (by rw [← hpl]; exact hn)
  have HNW := Lib.hid hl
  clear hr hW hH hn hpl hl
  have hb0 : Below w.heap.size w (((w.alloc (.cells #[.int .i64 (W : Int), .int .i64 (H : Int), .slice (some ⟨b, o, none⟩) n c] 30)).alloc (.cells #[.int .i64 0, .int .i64 0, .slice none 0 0] 30)).alloc (.cells #[.int .i64 (H : Int), .int .i64 (W : Int), .slice none 0 0] 30)) := (((Below.refl _ w).alloc (Nat.le_refl _) _).alloc (by simp) _).alloc (by simp; omega) _
  have hR0 : RasAtB (((w.alloc (.cells #[.int .i64 (W : Int), .int .i64 (H : Int), .slice (some ⟨b, o, none⟩) n c] 30)).alloc (.cells #[.int .i64 0, .int .i64 0, .slice none 0 0] 30)).alloc (.cells #[.int .i64 (H : Int), .int .i64 (W : Int), .slice none 0 0] 30)) w.heap.size (W : Int) (H : Int) (some ⟨b, o, none⟩) n c 30 := Box.alloc (Box.alloc (Box.new w _ _) _) _
  have hZ0 : RasAtB (((w.alloc (.cells #[.int .i64 (W : Int), .int .i64 (H : Int), .slice (some ⟨b, o, none⟩) n c] 30)).alloc (.cells #[.int .i64 0, .int .i64 0, .slice none 0 0] 30)).alloc (.cells #[.int .i64 (H : Int), .int .i64 (W : Int), .slice none 0 0] 30)) (w.heap.size + 1) 0 0 none 0 0 30 := by
    refine Box.alloc ?_ _
    have := Box.new (w.alloc (.cells #[.int .i64 (W : Int), .int .i64 (H : Int), .slice (some ⟨b, o, none⟩) n c] 30)) #[.int .i64 0, .int .i64 0, .slice none 0 0] 30
    rw [show (w.alloc (.cells #[.int .i64 (W : Int), .int .i64 (H : Int), .slice (some ⟨b, o, none⟩) n c] 30)).heap.size = w.heap.size + 1 from by simp] at this
    exact this
  have hX0 : RasAtB (((w.alloc (.cells #[.int .i64 (W : Int), .int .i64 (H : Int), .slice (some ⟨b, o, none⟩) n c] 30)).alloc (.cells #[.int .i64 0, .int .i64 0, .slice none 0 0] 30)).alloc (.cells #[.int .i64 (H : Int), .int .i64 (W : Int), .slice none 0 0] 30)) (w.heap.size + 1 + 1) (H : Int) (W : Int) none 0 0 30 := by
    have := Box.new ((w.alloc (.cells #[.int .i64 (W : Int), .int .i64 (H : Int), .slice (some ⟨b, o, none⟩) n c] 30)).alloc (.cells #[.int .i64 0, .int .i64 0, .slice none 0 0] 30)) #[.int .i64 (H : Int), .int .i64 (W : Int), .slice none 0 0] 30
    rw [show ((w.alloc (.cells #[.int .i64 (W : Int), .int .i64 (H : Int), .slice (some ⟨b, o, none⟩) n c] 30)).alloc (.cells #[.int .i64 0, .int .i64 0, .slice none 0 0] 30)).heap.size = w.heap.size + 1 + 1 from by simp] at this
    exact this
  have hsz : w.heap.size + 1 + 1 + 1 ≤ (((w.alloc (.cells #[.int .i64 (W : Int), .int .i64 (H : Int), .slice (some ⟨b, o, none⟩) n c] 30)).alloc (.cells #[.int .i64 0, .int .i64 0, .slice none 0 0] 30)).alloc (.cells #[.int .i64 (H : Int), .int .i64 (W : Int), .slice none 0 0] 30)).heap.size := by simp
  have HB0 := Lib.hid hb0
  have HR0 := Lib.hid hR0
  have HZ0 := Lib.hid hZ0
  have HX0 := Lib.hid hX0
  have HSZ := Lib.hid hsz
  have HH := Lib.hid h
  clear hb0 hR0 hZ0 hX0 hsz h
  go_enter Tryd.func64, Tryd.ntmps64
  go_wp2_with fail
  generalize (((w.alloc (.cells #[.int .i64 (W : Int), .int .i64 (H : Int), .slice (some ⟨b, o, none⟩) n c] 30)).alloc (.cells #[.int .i64 0, .int .i64 0, .slice none 0 0] 30)).alloc (.cells #[.int .i64 (H : Int), .int .i64 (W : Int), .slice none 0 0] 30)) = w0 at *
  go_loopw [4] (fun v wr => ∃ k : Nat, k ≤ W ∧ v = .int .i64 (k : Int) ∧ ∃ A' c' cnt, cnt = k * H ∧ OwnP wr (w.heap.size + 1 + 1 + 1) (.slice A' cnt c') (tab H (k * H) f) ∧ RasAtB wr (w.heap.size + 1 + 1) (H : Int) (W : Int) A' cnt c' 30 ∧ RasAtB wr (w.heap.size + 1) 0 0 none 0 0 30 ∧ RasAtB wr w.heap.size (W : Int) (H : Int) (some ⟨b, o, none⟩) n c 30 ∧ Below w.heap.size w wr ∧ w.heap.size + 1 + 1 + 1 ≤ wr.heap.size) (fun v _ => W - (intOf v).toNat)
  case atStart => exact ⟨0, Nat.zero_le _, rfl, none, 0, 0, by simp, by rw [Nat.zero_mul, tab_zero]; exact World.ownsRow_nil _ _ _ _, HX0.out, HZ0.out, HR0.out, HB0.out, HSZ.out⟩
  case round =>
    obtain ⟨k, hk, rfl, A', c', cnt, hcnt, hown, hX, hZ, hR, hbel, hsz⟩ := hrel
    by_cases hlt : k < W
    · have x1 := hX.c1
      have hown0 : OwnP wr (w.heap.size + 1 + 1 + 1) (.slice A' cnt c') (tab H (k * H + 0) f) := hown
      have HO := Lib.hid hown0
      have HX := Lib.hid hX
      have HZ := Lib.hid hZ
      have HR := Lib.hid hR
      have HB := Lib.hid hbel
      have HCN := Lib.hid hcnt
      clear hown hown0 hX hZ hR hbel hcnt
      go_wp2_with fail
      clear x1
      go_loopw [5] (fun v wq => ∃ j : Nat, j ≤ H ∧ v = .int .i64 (j : Int) ∧ ∃ A' c' cnt, cnt = k * H + j ∧ OwnP wq (w.heap.size + 1 + 1 + 1) (.slice A' cnt c') (tab H (k * H + j) f) ∧ RasAtB wq (w.heap.size + 1 + 1) (H : Int) (W : Int) A' cnt c' 30 ∧ RasAtB wq (w.heap.size + 1) 0 0 none 0 0 30 ∧ RasAtB wq w.heap.size (W : Int) (H : Int) (some ⟨b, o, none⟩) n c 30 ∧ Below w.heap.size w wq ∧ w.heap.size + 1 + 1 + 1 ≤ wq.heap.size) (fun v _ => H - (intOf v).toNat)
      case atStart => exact ⟨0, Nat.zero_le _, rfl, A', c', cnt, HCN.out, HO.out, HX.out, HZ.out, HR.out, HB.out, hsz⟩
      case round =>
        clear HO HX HZ HR HB HCN hsz
        obtain ⟨j, hj, rfl, A', c', cnt, hcnt, hown, hX, hZ, hR, hbel, hsz⟩ := hrel
        have x0 := hX.c0
        by_cases hltj : j < H
        · obtain ⟨Q, hQ⟩ : ∃ Q, H - 1 - j = Q := ⟨_, rfl⟩
          obtain ⟨P, hP⟩ : ∃ P, Q * W = P := ⟨_, rfl⟩
          obtain ⟨I, hI⟩ : ∃ I, P + k = I := ⟨_, rfl⟩
          have hp := HPX2.out j k hltj hlt
          rw [hQ, hP, hI] at hp
          have hIn : I < n := by
            have := (List.getElem?_eq_some_iff.1 hp).1
            rw [HNL.out] at this
            exact this
          have HTS := Lib.hid (tab_step f hltj (y := k))
          obtain ⟨p, hfp⟩ : ∃ p, f j k = p := ⟨_, rfl⟩
          rw [hfp] at hp HTS
          have hQe : (H : Int) - 1 - (j : Int) = (Q : Int) := by omega
          have hPe : (Q : Int) * (W : Int) = (P : Int) := by rw [← hP, Int.natCast_mul]
          have hIe : (P : Int) + (k : Int) = (I : Int) := by omega
          have hI2 : (0 : Int) ≤ (I : Int) ∧ (I : Int) < (n : Int) := by omega
          have u1 := IntWalk.i64_in ((H : Int) - 1) (by omega)
          have u2 := IntWalk.i64_in (Q : Int) (by omega)
          have u3 := IntWalk.i64_in (P : Int) (by omega)
          have u4 := IntWalk.i64_in (I : Int) (by omega)
          have HCL : Hid (cnt = (tab H (k * H + j) f).length) := Lib.hid (by rw [tab_length]; exact hcnt)
          have hcl36 : (tab H (k * H + j) f).length ≤ 36 := by
            rw [tab_length]
            have := place_in hltj hlt
            have h2 : H * W ≤ 36 := by
              rw [Nat.mul_comm, ← HNW.out]
              omega
            omega
          have hpx : PxAt wr b (o + I * 4) p := by
            rcases HH.out.below hbel with h0 | ⟨b', o', e, _, hc'⟩
            · rw [h0] at hp; simp at hp
            · injection e with e
              injection e with e1 e2 _
              subst e1 e2
              exact hc' _ p hp
          have hne : ∀ q, (Value.slice A' cnt c').ownBlock = some q → w.heap.size + 1 + 1 + 1 ≤ q := fun q e => (World.ownsRow.lt hown q e).1
          obtain ⟨G, hG⟩ : ∃ G, wr.heap.size = G := ⟨_, rfl⟩
          have hGd : wr.drew.heap.size = G := hG
          have HOd : Hid (pxE.Own wr.drew (w.heap.size + 1 + 1 + 1) (.slice A' cnt c') (tab H (k * H + j) f)) := Lib.hid (El.Own.drewN (E := pxE) hown 1)
          have HOA : Hid (pxE.Own (wr.drew.alloc (.cells #[.int .i64 p.r, .int .i64 p.g, .int .i64 p.b, .int .i64 p.a] 62)) (w.heap.size + 1 + 1 + 1) (.slice A' cnt c') (tab H (k * H + j) f)) := Lib.hid (El.Own.alloc (E := pxE) HOd.out _)
          have HBX : Hid (Box (wr.drew.alloc (.cells #[.int .i64 p.r, .int .i64 p.g, .int .i64 p.b, .int .i64 p.a] 62)) G (pxE.cells p).toArray 62) := Lib.hid (by rw [← hGd]; exact Box.new wr.drew _ _)
          have hszd : w.heap.size + 1 + 1 + 1 ≤ wr.drew.heap.size := hsz
          have BA : Below wr.drew.heap.size wr.drew (wr.drew.alloc (.cells #[.int .i64 p.r, .int .i64 p.g, .int .i64 p.b, .int .i64 p.a] 62)) := (Below.refl _ _).alloc (Nat.le_refl _) _
          have BA3 := BA.mono hszd
          have hbb : b < w.heap.size := hbl
          have HS3 : Hid (∀ w', Below (w.heap.size + 1 + 1 + 1) wr.drew w' → RasAtB w' (w.heap.size + 1 + 1) (H : Int) (W : Int) A' cnt c' 30 ∧ RasAtB w' w.heap.size (W : Int) (H : Int) (some ⟨b, o, none⟩) n c 30 ∧ PxAt w' b (o + I * 4) p) := Lib.hid fun w' hb => ⟨Box.below hX.drew1 hb (by omega), Box.below hR.drew1 hb (by omega), PxAt.kept (w := wr.drew) hpx fun q hq => hb.cell (by omega)⟩
          have HSb : Hid (∀ w', Below wr.drew.heap.size wr.drew w' → RasAtB w' (w.heap.size + 1 + 1) (H : Int) (W : Int) A' cnt c' 30 ∧ RasAtB w' w.heap.size (W : Int) (H : Int) (some ⟨b, o, none⟩) n c 30 ∧ PxAt w' b (o + I * 4) p) := Lib.hid fun w' hb => HS3.out w' (hb.mono hszd)
          have HS0 := Lib.hid (HSb.out _ (Below.refl _ _))
          have HBd := Lib.hid (below_draws hbel 1)
          have HZd := Lib.hid hZ.drew1
          have hGw : w.heap.size + 1 + 1 + 1 ≤ G := by rw [← hGd]; exact hszd
          clear hown hX hZ hR hbel hpx hp hQ hP hI hfp hGd hcnt
          go_wp2_with fail
          clear x0
          refine wp_region_T (fun w' => RasAtB w' (w.heap.size + 1 + 1) (H : Int) (W : Int) A' cnt c' 30 ∧ RasAtB w' w.heap.size (W : Int) (H : Int) (some ⟨b, o, none⟩) n c 30 ∧ PxAt w' b (o + I * 4) p) 19 (by kernel_rfl) ?_
          refine wpAnyT_take (i := 0) (d := 23) (v := .pointer (some ⟨w.heap.size + 1 + 1, 2, none⟩)) rfl rfl (by kernel_rfl) (by kernel_rfl) (by kernel_rfl) (by kernel_rfl) (by kernel_rfl) (fun _ _ _ h => h) HS0.out (Or.inl ⟨by rfl, fun w' hS' => ?_⟩) ?_
          · obtain ⟨s0, s1, s2⟩ := hS'
            have t2 := s0.c2
            have v0 := s1.c0
            have v1 := s1.c1
            have v2 := s1.c2
            obtain ⟨p0, p1, p2, p3⟩ := s2
            go_simp
          simp only [Act.put, List.setIfInBounds_toArray, List.set_cons_zero, List.set_cons_succ]
          refine wpAnyT_take (i := 1) (d := 24) (v := .slice A' cnt c') rfl rfl (by kernel_rfl) (by kernel_rfl) (by kernel_rfl) (by kernel_rfl) (by kernel_rfl) (fun _ _ _ h => h) HS0.out (Or.inl ⟨by rfl, fun w' hS' => ?_⟩) ?_
          · obtain ⟨s0, s1, s2⟩ := hS'
            have t2 := s0.c2
            have v0 := s1.c0
            have v1 := s1.c1
            have v2 := s1.c2
            obtain ⟨p0, p1, p2, p3⟩ := s2
            go_simp
          simp only [Act.put, List.setIfInBounds_toArray, List.set_cons_zero, List.set_cons_succ]
          refine wpAnyT_take (i := 2) (d := 25) (v := .pointer (some ⟨w.heap.size, 2, none⟩)) rfl rfl (by kernel_rfl) (by kernel_rfl) (by kernel_rfl) (by kernel_rfl) (by kernel_rfl) (fun _ _ _ h => h) HS0.out (Or.inl ⟨by rfl, fun w' hS' => ?_⟩) ?_
          · obtain ⟨s0, s1, s2⟩ := hS'
            have t2 := s0.c2
            have v0 := s1.c0
            have v1 := s1.c1
            have v2 := s1.c2
            obtain ⟨p0, p1, p2, p3⟩ := s2
            go_simp
          simp only [Act.put, List.setIfInBounds_toArray, List.set_cons_zero, List.set_cons_succ]
          refine wpAnyT_take (i := 3) (d := 26) (v := .slice (some ⟨b, o, none⟩) n c) rfl rfl (by kernel_rfl) (by kernel_rfl) (by kernel_rfl) (by kernel_rfl) (by kernel_rfl) (fun _ _ _ h => h) HS0.out (Or.inl ⟨by rfl, fun w' hS' => ?_⟩) ?_
          · obtain ⟨s0, s1, s2⟩ := hS'
            have t2 := s0.c2
            have v0 := s1.c0
            have v1 := s1.c1
            have v2 := s1.c2
            obtain ⟨p0, p1, p2, p3⟩ := s2
            go_simp
          simp only [Act.put, List.setIfInBounds_toArray, List.set_cons_zero, List.set_cons_succ]
          refine wpAnyT_take (i := 4) (d := 27) (v := .pointer (some ⟨w.heap.size, 1, none⟩)) rfl rfl (by kernel_rfl) (by kernel_rfl) (by kernel_rfl) (by kernel_rfl) (by kernel_rfl) (fun _ _ _ h => h) HS0.out (Or.inl ⟨by rfl, fun w' hS' => ?_⟩) ?_
          · obtain ⟨s0, s1, s2⟩ := hS'
            have t2 := s0.c2
            have v0 := s1.c0
            have v1 := s1.c1
            have v2 := s1.c2
            obtain ⟨p0, p1, p2, p3⟩ := s2
            go_simp
          simp only [Act.put, List.setIfInBounds_toArray, List.set_cons_zero, List.set_cons_succ]
          refine wpAnyT_take (i := 5) (d := 28) (v := .int .i64 (H : Int)) rfl rfl (by kernel_rfl) (by kernel_rfl) (by kernel_rfl) (by kernel_rfl) (by kernel_rfl) (fun _ _ _ h => h) HS0.out (Or.inl ⟨by rfl, fun w' hS' => ?_⟩) ?_
          · obtain ⟨s0, s1, s2⟩ := hS'
            have t2 := s0.c2
            have v0 := s1.c0
            have v1 := s1.c1
            have v2 := s1.c2
            obtain ⟨p0, p1, p2, p3⟩ := s2
            go_simp
          simp only [Act.put, List.setIfInBounds_toArray, List.set_cons_zero, List.set_cons_succ]
          refine wpAnyT_take (i := 6) (d := 29) (v := .int .i64 ((H : Int) - 1)) rfl rfl (by kernel_rfl) (by kernel_rfl) (by kernel_rfl) (by kernel_rfl) (by kernel_rfl) (fun _ _ _ h => h) HS0.out (Or.inl ⟨by rfl, fun w' hS' => ?_⟩) ?_
          · obtain ⟨s0, s1, s2⟩ := hS'
            have t2 := s0.c2
            have v0 := s1.c0
            have v1 := s1.c1
            have v2 := s1.c2
            obtain ⟨p0, p1, p2, p3⟩ := s2
            go_simp
          simp only [Act.put, List.setIfInBounds_toArray, List.set_cons_zero, List.set_cons_succ]
          refine wpAnyT_take (i := 7) (d := 30) (v := .int .i64 (j : Int)) rfl rfl (by kernel_rfl) (by kernel_rfl) (by kernel_rfl) (by kernel_rfl) (by kernel_rfl) (fun _ _ _ h => h) HS0.out (Or.inl ⟨by rfl, fun w' hS' => ?_⟩) ?_
          · obtain ⟨s0, s1, s2⟩ := hS'
            have t2 := s0.c2
            have v0 := s1.c0
            have v1 := s1.c1
            have v2 := s1.c2
            obtain ⟨p0, p1, p2, p3⟩ := s2
            go_simp
          simp only [Act.put, List.setIfInBounds_toArray, List.set_cons_zero, List.set_cons_succ]
          refine wpAnyT_take (i := 8) (d := 31) (v := .int .i64 (Q : Int)) rfl rfl (by kernel_rfl) (by kernel_rfl) (by kernel_rfl) (by kernel_rfl) (by kernel_rfl) (fun _ _ _ h => h) HS0.out (Or.inl ⟨by rfl, fun w' hS' => ?_⟩) ?_
          · obtain ⟨s0, s1, s2⟩ := hS'
            have t2 := s0.c2
            have v0 := s1.c0
            have v1 := s1.c1
            have v2 := s1.c2
            obtain ⟨p0, p1, p2, p3⟩ := s2
            go_simp
          simp only [Act.put, List.setIfInBounds_toArray, List.set_cons_zero, List.set_cons_succ]
          refine wpAnyT_take (i := 9) (d := 32) (v := .pointer (some ⟨w.heap.size, 0, none⟩)) rfl rfl (by kernel_rfl) (by kernel_rfl) (by kernel_rfl) (by kernel_rfl) (by kernel_rfl) (fun _ _ _ h => h) HS0.out (Or.inl ⟨by rfl, fun w' hS' => ?_⟩) ?_
          · obtain ⟨s0, s1, s2⟩ := hS'
            have t2 := s0.c2
            have v0 := s1.c0
            have v1 := s1.c1
            have v2 := s1.c2
            obtain ⟨p0, p1, p2, p3⟩ := s2
            go_simp
          simp only [Act.put, List.setIfInBounds_toArray, List.set_cons_zero, List.set_cons_succ]
          refine wpAnyT_take (i := 10) (d := 33) (v := .int .i64 (W : Int)) rfl rfl (by kernel_rfl) (by kernel_rfl) (by kernel_rfl) (by kernel_rfl) (by kernel_rfl) (fun _ _ _ h => h) HS0.out (Or.inl ⟨by rfl, fun w' hS' => ?_⟩) ?_
          · obtain ⟨s0, s1, s2⟩ := hS'
            have t2 := s0.c2
            have v0 := s1.c0
            have v1 := s1.c1
            have v2 := s1.c2
            obtain ⟨p0, p1, p2, p3⟩ := s2
            go_simp
          simp only [Act.put, List.setIfInBounds_toArray, List.set_cons_zero, List.set_cons_succ]
          refine wpAnyT_take (i := 11) (d := 34) (v := .int .i64 (P : Int)) rfl rfl (by kernel_rfl) (by kernel_rfl) (by kernel_rfl) (by kernel_rfl) (by kernel_rfl) (fun _ _ _ h => h) HS0.out (Or.inl ⟨by rfl, fun w' hS' => ?_⟩) ?_
          · obtain ⟨s0, s1, s2⟩ := hS'
            have t2 := s0.c2
            have v0 := s1.c0
            have v1 := s1.c1
            have v2 := s1.c2
            obtain ⟨p0, p1, p2, p3⟩ := s2
            go_simp
          simp only [Act.put, List.setIfInBounds_toArray, List.set_cons_zero, List.set_cons_succ]
          refine wpAnyT_take (i := 12) (d := 35) (v := .int .i64 (k : Int)) rfl rfl (by kernel_rfl) (by kernel_rfl) (by kernel_rfl) (by kernel_rfl) (by kernel_rfl) (fun _ _ _ h => h) HS0.out (Or.inl ⟨by rfl, fun w' hS' => ?_⟩) ?_
          · obtain ⟨s0, s1, s2⟩ := hS'
            have t2 := s0.c2
            have v0 := s1.c0
            have v1 := s1.c1
            have v2 := s1.c2
            obtain ⟨p0, p1, p2, p3⟩ := s2
            go_simp
          simp only [Act.put, List.setIfInBounds_toArray, List.set_cons_zero, List.set_cons_succ]
          refine wpAnyT_take (i := 13) (d := 36) (v := .int .i64 (I : Int)) rfl rfl (by kernel_rfl) (by kernel_rfl) (by kernel_rfl) (by kernel_rfl) (by kernel_rfl) (fun _ _ _ h => h) HS0.out (Or.inl ⟨by rfl, fun w' hS' => ?_⟩) ?_
          · obtain ⟨s0, s1, s2⟩ := hS'
            have t2 := s0.c2
            have v0 := s1.c0
            have v1 := s1.c1
            have v2 := s1.c2
            obtain ⟨p0, p1, p2, p3⟩ := s2
            go_simp
          simp only [Act.put, List.setIfInBounds_toArray, List.set_cons_zero, List.set_cons_succ]
          refine wpAnyT_take (i := 14) (d := 37) (v := .pointer (some ⟨b, o + I * 4, none⟩)) rfl rfl (by kernel_rfl) (by kernel_rfl) (by kernel_rfl) (by kernel_rfl) (by kernel_rfl) (fun _ _ _ h => h) HS0.out (Or.inl ⟨by rfl, fun w' hS' => ?_⟩) ?_
          · obtain ⟨s0, s1, s2⟩ := hS'
            have t2 := s0.c2
            have v0 := s1.c0
            have v1 := s1.c1
            have v2 := s1.c2
            obtain ⟨p0, p1, p2, p3⟩ := s2
            go_simp
          simp only [Act.put, List.setIfInBounds_toArray, List.set_cons_zero, List.set_cons_succ]
          refine wpAnyT_take (i := 15) (d := 38) (v := .agg #[.int .i64 p.r, .int .i64 p.g, .int .i64 p.b, .int .i64 p.a]) rfl rfl (by kernel_rfl) (by kernel_rfl) (by kernel_rfl) (by kernel_rfl) (by kernel_rfl) (fun _ _ _ h => h) HS0.out (Or.inl ⟨by rfl, fun w' hS' => ?_⟩) ?_
          · obtain ⟨s0, s1, s2⟩ := hS'
            have t2 := s0.c2
            have v0 := s1.c0
            have v1 := s1.c1
            have v2 := s1.c2
            obtain ⟨p0, p1, p2, p3⟩ := s2
            go_simp
          simp only [Act.put, List.setIfInBounds_toArray, List.set_cons_zero, List.set_cons_succ]
          refine wpAnyT_one (i := 16) (by kernel_rfl) rfl (fun K hK => ?_)
          go_simp
          refine hK.out _ _ (fun _ => HSb.out _ BA) ?_
          clear hK
          try simp only [Act.put, List.setIfInBounds_toArray]
          refine wpAnyT_one (i := 17) (by kernel_rfl) rfl (fun K hK => ?_)
          refine El.step_append (E := pxE) 28 Tryd.underlying28 rfl (.tmp 24) (.tmp 39) rfl (w.heap.size + 1 + 1 + 1) (.slice A' cnt c') (tab H (k * H + j) f) rfl HOA.out ⟨G, 0, none⟩ 1 1 [p] rfl rfl (Box.news (E := pxE) (x := p) HBX.out) (by decide) (by omega) (by simp; omega) (G + 1) (by simp [hG]) ?_
          intro g cap w5 hown5 hgr5 hg5 hcap5
          have b5 : Below (w.heap.size + 1 + 1 + 1) wr.drew w5 := BA3.grown hgr5 (by simp; omega) (fun q e => (World.ownsRow.lt HOd.out q e).1)
          refine hK.out _ _ (fun _ => HS3.out _ b5) ?_
          clear hK
          try simp only [Act.put, List.setIfInBounds_toArray]
          refine wpAnyT_one (i := 18) (by kernel_rfl) rfl (fun K hK => ?_)
          go_simp
          refine hK.out _ _ (fun _ => HS3.out _ b5) ?_
          clear hK
          try simp only [Act.put, List.setIfInBounds_toArray, List.set_cons_zero, List.set_cons_succ]
          refine wpAnyT_one (i := 19) (by kernel_rfl) rfl (fun K hK => ?_)
          have hx5 : RasAtB w5 (w.heap.size + 1 + 1) (H : Int) (W : Int) A' cnt c' 30 := (HS3.out _ b5).1
          have q2 := hx5.c2
          have f2 := hx5.free 2
          go_simp
          refine hK.out _ _ last_out ?_
          clear hK
          refine wpAnyT_done (by kernel_rfl) ?_ _
          have hl1 : (tab H (k * H + j) f).length + 1 = k * H + (j + 1) := by rw [tab_length]; omega
          have hx6 : RasAtB (w5.setCell ⟨w.heap.size + 1 + 1, 2, none⟩ (.slice (some ⟨g, 0, none⟩) ((tab H (k * H + j) f).length + 1) cap)) (w.heap.size + 1 + 1) (H : Int) (W : Int) (some ⟨g, 0, none⟩) ((tab H (k * H + j) f).length + 1) cap 30 := hx5.set2 _ _ _
          have hr6 : RasAtB (w5.setCell ⟨w.heap.size + 1 + 1, 2, none⟩ (.slice (some ⟨g, 0, none⟩) ((tab H (k * H + j) f).length + 1) cap)) w.heap.size (W : Int) (H : Int) (some ⟨b, o, none⟩) n c 30 := (HS3.out _ b5).2.1.set_other (by omega) 2 _
          have hz6 : RasAtB (w5.setCell ⟨w.heap.size + 1 + 1, 2, none⟩ (.slice (some ⟨g, 0, none⟩) ((tab H (k * H + j) f).length + 1) cap)) (w.heap.size + 1) 0 0 none 0 0 30 := (Box.below HZd.out b5 (by omega)).set_other (by omega) 2 _
          have ho6 : OwnP (w5.setCell ⟨w.heap.size + 1 + 1, 2, none⟩ (.slice (some ⟨g, 0, none⟩) ((tab H (k * H + j) f).length + 1) cap)) (w.heap.size + 1 + 1 + 1) (.slice (some ⟨g, 0, none⟩) ((tab H (k * H + j) f).length + 1) cap) (tab H (k * H + (j + 1)) f) := by
            rw [HTS.out]
            exact OwnP.set_low (own_px.1 hown5) (by omega) 2 _
          have hb6 : Below w.heap.size w (w5.setCell ⟨w.heap.size + 1 + 1, 2, none⟩ (.slice (some ⟨g, 0, none⟩) ((tab H (k * H + j) f).length + 1) cap)) := (HBd.out.trans (b5.mono (by omega))).setCell (p := ⟨w.heap.size + 1 + 1, 2, none⟩) (by simp; omega) _
          have hs6 : w.heap.size + 1 + 1 + 1 ≤ (w5.setCell ⟨w.heap.size + 1 + 1, 2, none⟩ (.slice (some ⟨g, 0, none⟩) ((tab H (k * H + j) f).length + 1) cap)).heap.size := by
            have := b5.size
            simp
            omega
          have HE := Lib.hid (And.intro hl1 (And.intro ho6 (And.intro hx6 (And.intro hz6 (And.intro hr6 (And.intro hb6 hs6))))))
          clear hl1 hx6 hr6 hz6 ho6 hb6 hs6 hown5 hgr5 hg5 hcap5 b5 hx5 q2 f2
          go_wp2_with fail
          go_roundw
          case rel => exact ⟨j + 1, by omega, by go_num, _, _, _, HE.out.1, HE.out.2.1, HE.out.2.2.1, HE.out.2.2.2.1, HE.out.2.2.2.2.1, HE.out.2.2.2.2.2.1, HE.out.2.2.2.2.2.2⟩
          case measure => simp [intOf]; omega
        · obtain rfl : j = H := by omega
          have HO : Hid (OwnP wr (w.heap.size + 1 + 1 + 1) (.slice A' cnt c') (tab j ((k + 1) * j) f)) := Lib.hid (by rw [Nat.add_mul, Nat.one_mul]; exact hown)
          have HCN : Hid (cnt = (k + 1) * j) := Lib.hid (by rw [Nat.add_mul, Nat.one_mul]; exact hcnt)
          have HX := Lib.hid hX
          have HZ := Lib.hid hZ
          have HR := Lib.hid hR
          have HB := Lib.hid hbel
          clear hown hcnt hX hZ hR hbel
          go_wp2_with fail
          go_roundw
          case rel => exact ⟨k + 1, by omega, by go_num, A', c', cnt, HCN.out, HO.out, HX.out, HZ.out, HR.out, HB.out, hsz⟩
          case measure => simp [intOf]; omega
    · obtain rfl : k = W := by omega
      have hT : tab H (k * H) f = tp := by rw [HTP.out, Nat.mul_comm]
      have hcl : cnt = tp.length := by rw [hcnt, ← hT, tab_length]
      rw [hT] at hown
      rw [hcl] at hown hX
      have hc' : tp.length ≤ c' := (El.Own.len (E := pxE) hown).2
      have HZ := Lib.hid hZ
      have HE := Lib.hid (HG.out A' c' _ hc' (OwnP.lower (((OwnP.set_low hown (b := w.heap.size + 1) (by omega) 0 (.int .i64 (H : Int))).set_low (b := w.heap.size + 1) (by omega) 1 (.int .i64 (k : Int))).set_low (b := w.heap.size + 1) (by omega) 2 (.slice A' tp.length c')) (by omega)) (((hbel.setCell (p := ⟨w.heap.size + 1, 0, none⟩) (by simp) (.int .i64 (H : Int))).setCell (p := ⟨w.heap.size + 1, 1, none⟩) (by simp) (.int .i64 (k : Int))).setCell (p := ⟨w.heap.size + 1, 2, none⟩) (by simp) (.slice A' tp.length c')))
      have x0 := hX.c0
      have x1 := hX.c1
      have x2 := hX.c2
      have z0 := hZ.c0
      have z1 := hZ.c1
      have z2 := hZ.c2
      have f0 := hZ.free 0
      have f1 := hZ.free 1
      have f2 := hZ.free 2
      clear hown hcnt hcl hT hX hZ hR hbel hc'
      go_wp2_with fail
      (try simp only [Exit.inBlock, Exit.then])
      refine bodyPost_ret (results_cell_row rfl _ _ (w.heap.size + 1) 30 #[.int .i64 (H : Int), .int .i64 (k : Int), .slice A' tp.length c'] (0, 0) _ rfl (fin_ras HZ.out _ _ _) Tryd.underlying30 rfl (by kernel_rfl)) rfl ?_
      exact HE.out
end Go.Proofs.YtiemlakjallphabDoor
namespace Go.Proofs.YtiemlakjallphabDoor
set_option maxRecDepth 4000
open Go.RowKit

set_option maxHeartbeats 8000000 in
theorem l6FlipX_any (r : Ra) (A : Option Addr) (c : Nat) (w : World) (hr : r.ok) (h : HasP w w.heap.size A r.p) :
    Calls Tryd.prog 62 #[raV r A c] w (Drawn (flipXR r) w) := by
  obtain ⟨hw6, hh6, hl, -⟩ := hr.parts
  have hlen := ra_len hr
  obtain ⟨b, o, -, rfl, hbl, -, -⟩ := h.spot (k := 0) (by omega)
  have HPX : Hid (∀ x y, x < (flipXR r).w → y < (flipXR r).h → r.p[y * r.w + (r.w - 1 - x)]? = some ((fun x y => r.at (r.w - 1 - x) y) x y)) := Lib.hid fun x y hx hy => (hr.at (x := r.w - 1 - x) (y := y) (by have : x < r.w := hx; omega) hy).1
  have HG : Hid (∀ A' c' w', (flipXR r).p.length ≤ c' → OwnP w' w.heap.size (.slice A' (flipXR r).p.length c') (flipXR r).p → Below w.heap.size w w' → Drawn (flipXR r) w (.returned (.agg #[.int .i64 ((flipXR r).w : Int), .int .i64 ((flipXR r).h : Int), .slice A' (flipXR r).p.length c'])) w') := Lib.hid fun A' c' w' k1 k2 k3 => ⟨A', c', rfl, k1, k2, k3⟩
  have HTP : Hid ((flipXR r).p = tab (flipXR r).w ((flipXR r).w * (flipXR r).h) (fun x y => r.at (r.w - 1 - x) y)) := Lib.hid rfl
  generalize Drawn (flipXR r) w = D at *
  generalize (flipXR r).p = tp at *
  change Hid (∀ x y, x < r.w → y < r.h → r.p[y * r.w + (r.w - 1 - x)]? = some ((fun x y => r.at (r.w - 1 - x) y) x y)) at HPX
  change Hid (∀ A' c' w', tp.length ≤ c' → OwnP w' w.heap.size (.slice A' tp.length c') tp → Below w.heap.size w w' → D (.returned (.agg #[.int .i64 ((r.w : Nat) : Int), .int .i64 ((r.h : Nat) : Int), .slice A' tp.length c'])) w') at HG
  change Hid (tp = tab r.w (r.w * r.h) (fun x y => r.at (r.w - 1 - x) y)) at HTP
  unfold raV rasV
  obtain ⟨f, hf⟩ : ∃ f : Nat → Nat → Px, (fun x y => r.at (r.w - 1 - x) y) = f := ⟨_, rfl⟩
  rw [hf] at HTP HPX
  clear hf
  obtain ⟨W, hW⟩ : ∃ W, r.w = W := ⟨_, rfl⟩
  obtain ⟨H, hH⟩ : ∃ H, r.h = H := ⟨_, rfl⟩
  obtain ⟨n, hn⟩ : ∃ n, r.p.length = n := ⟨_, rfl⟩
  obtain ⟨pl, hpl⟩ : ∃ pl, r.p = pl := ⟨_, rfl⟩
  simp only [hW, hH] at *
  rw [hpl] at HPX
  rw [hn] at hlen hl
  rw [hpl] at h
  rw [hn]
  have HNL : Hid (pl.length = n) := Lib.hid (by rw [← hpl]; exact hn)
  clear hr hW hH hn hpl hl
  have hRW6 : W ≤ 6 := by omega
  have hRH6 : H ≤ 6 := by omega
  have hb0 : Below w.heap.size w (((w.alloc (.cells #[.int .i64 (W : Int), .int .i64 (H : Int), .slice (some ⟨b, o, none⟩) n c] 30)).alloc (.cells #[.int .i64 0, .int .i64 0, .slice none 0 0] 30)).alloc (.cells #[.int .i64 (W : Int), .int .i64 (H : Int), .slice none 0 0] 30)) := ((((Below.refl _ w).alloc (Nat.le_refl _) _).alloc (by simp) _).alloc (by simp; omega) _)
  have hR0 : RasAtB (((w.alloc (.cells #[.int .i64 (W : Int), .int .i64 (H : Int), .slice (some ⟨b, o, none⟩) n c] 30)).alloc (.cells #[.int .i64 0, .int .i64 0, .slice none 0 0] 30)).alloc (.cells #[.int .i64 (W : Int), .int .i64 (H : Int), .slice none 0 0] 30)) w.heap.size (W : Int) (H : Int) (some ⟨b, o, none⟩) n c 30 := Box.alloc (Box.alloc (Box.new w _ _) _) _
  have hZ0 : RasAtB (((w.alloc (.cells #[.int .i64 (W : Int), .int .i64 (H : Int), .slice (some ⟨b, o, none⟩) n c] 30)).alloc (.cells #[.int .i64 0, .int .i64 0, .slice none 0 0] 30)).alloc (.cells #[.int .i64 (W : Int), .int .i64 (H : Int), .slice none 0 0] 30)) (w.heap.size + 1) 0 0 none 0 0 30 := by
    refine Box.alloc ?_ _
    have := Box.new (w.alloc (.cells #[.int .i64 (W : Int), .int .i64 (H : Int), .slice (some ⟨b, o, none⟩) n c] 30)) #[.int .i64 0, .int .i64 0, .slice none 0 0] 30
    rw [show (w.alloc (.cells #[.int .i64 (W : Int), .int .i64 (H : Int), .slice (some ⟨b, o, none⟩) n c] 30)).heap.size = w.heap.size + 1 from by simp] at this
    exact this
  have hX0 : RasAtB (((w.alloc (.cells #[.int .i64 (W : Int), .int .i64 (H : Int), .slice (some ⟨b, o, none⟩) n c] 30)).alloc (.cells #[.int .i64 0, .int .i64 0, .slice none 0 0] 30)).alloc (.cells #[.int .i64 (W : Int), .int .i64 (H : Int), .slice none 0 0] 30)) (w.heap.size + 1 + 1) (W : Int) (H : Int) none 0 0 30 := by
    have := Box.new ((w.alloc (.cells #[.int .i64 (W : Int), .int .i64 (H : Int), .slice (some ⟨b, o, none⟩) n c] 30)).alloc (.cells #[.int .i64 0, .int .i64 0, .slice none 0 0] 30)) #[.int .i64 (W : Int), .int .i64 (H : Int), .slice none 0 0] 30
    rw [show ((w.alloc (.cells #[.int .i64 (W : Int), .int .i64 (H : Int), .slice (some ⟨b, o, none⟩) n c] 30)).alloc (.cells #[.int .i64 0, .int .i64 0, .slice none 0 0] 30)).heap.size = w.heap.size + 1 + 1 from by simp] at this
    exact this
  have hsz : w.heap.size + 1 + 1 + 1 ≤ (((w.alloc (.cells #[.int .i64 (W : Int), .int .i64 (H : Int), .slice (some ⟨b, o, none⟩) n c] 30)).alloc (.cells #[.int .i64 0, .int .i64 0, .slice none 0 0] 30)).alloc (.cells #[.int .i64 (W : Int), .int .i64 (H : Int), .slice none 0 0] 30)).heap.size := by simp
  have HB0 := Lib.hid hb0
  have HR0 := Lib.hid hR0
  have HZ0 := Lib.hid hZ0
  have HX0 := Lib.hid hX0
  have HSZ := Lib.hid hsz
  have HH := Lib.hid h

  clear hb0 hR0 hZ0 hX0 hsz h
  go_enter Tryd.func62, Tryd.ntmps62
  go_wp2_with fail
  generalize (((w.alloc (.cells #[.int .i64 (W : Int), .int .i64 (H : Int), .slice (some ⟨b, o, none⟩) n c] 30)).alloc (.cells #[.int .i64 0, .int .i64 0, .slice none 0 0] 30)).alloc (.cells #[.int .i64 (W : Int), .int .i64 (H : Int), .slice none 0 0] 30)) = w0 at *
  go_loopw [4] (fun v wr => ∃ k : Nat, k ≤ H ∧ v = .int .i64 (k : Int) ∧ ∃ A' c' cnt, cnt = k * W ∧ OwnP wr (w.heap.size + 1 + 1 + 1) (.slice A' cnt c') (tab W (k * W) f) ∧ RasAtB wr (w.heap.size + 1 + 1) (W : Int) (H : Int) A' cnt c' 30 ∧ RasAtB wr (w.heap.size + 1) 0 0 none 0 0 30 ∧ RasAtB wr w.heap.size (W : Int) (H : Int) (some ⟨b, o, none⟩) n c 30 ∧ Below w.heap.size w wr ∧ w.heap.size + 1 + 1 + 1 ≤ wr.heap.size) (fun v _ => H - (intOf v).toNat)
  case atStart => exact ⟨0, Nat.zero_le _, rfl, none, 0, 0, by simp, by rw [Nat.zero_mul, tab_zero]; exact World.ownsRow_nil _ _ _ _, HX0.out, HZ0.out, HR0.out, HB0.out, HSZ.out⟩
  case round =>
    obtain ⟨k, hk, rfl, A', c', cnt, hcnt, hown, hX, hZ, hR, hbel, hsz⟩ := hrel
    have x1 := hX.c1
    have r1 := hR.c1
    by_cases hlt : k < H
    · have r0 := hR.c0
      have hown0 : OwnP wr (w.heap.size + 1 + 1 + 1) (.slice A' cnt c') (tab W (k * W + 0) f) := hown
      have HO := Lib.hid hown0
      have HX := Lib.hid hX
      have HZ := Lib.hid hZ
      have HR := Lib.hid hR
      have HB := Lib.hid hbel
      have HCN := Lib.hid hcnt
      clear hown hown0 hX hZ hR hbel hcnt
      go_wp2_with fail
      clear x1 r0 r1
      go_loopw [5] (fun v wq => ∃ j : Nat, j ≤ W ∧ v = .int .i64 ((W : Int) - 1 - (j : Int)) ∧ ∃ A' c' cnt, cnt = k * W + j ∧ OwnP wq (w.heap.size + 1 + 1 + 1) (.slice A' cnt c') (tab W (k * W + j) f) ∧ RasAtB wq (w.heap.size + 1 + 1) (W : Int) (H : Int) A' cnt c' 30 ∧ RasAtB wq (w.heap.size + 1) 0 0 none 0 0 30 ∧ RasAtB wq w.heap.size (W : Int) (H : Int) (some ⟨b, o, none⟩) n c 30 ∧ Below w.heap.size w wq ∧ w.heap.size + 1 + 1 + 1 ≤ wq.heap.size) (fun v _ => ((intOf v) + 1).toNat)
      case atStart => exact ⟨0, Nat.zero_le _, by simp, A', c', cnt, HCN.out, HO.out, HX.out, HZ.out, HR.out, HB.out, hsz⟩
      case round =>
        clear HO HX HZ HR HB HCN hsz
        obtain ⟨j, hj, rfl, A', c', cnt, hcnt, hown, hX, hZ, hR, hbel, hsz⟩ := hrel
        have x0 := hX.c0
        by_cases hltj : j < W
        · have hp := HPX.out j k hltj hlt
          obtain ⟨P, hP⟩ : ∃ P, k * W = P := ⟨_, rfl⟩
          obtain ⟨Q, hQ⟩ : ∃ Q, W - 1 - j = Q := ⟨_, rfl⟩
          obtain ⟨I, hI⟩ : ∃ I, P + Q = I := ⟨_, rfl⟩
          rw [hQ, hP, hI] at hp
          have hPe : (k : Int) * (W : Int) = (P : Int) := by rw [← hP, Int.natCast_mul]
          have hIe : (P : Int) + ((W : Int) - 1 - (j : Int)) = (I : Int) := by omega
          have hP36 : P ≤ 36 := by
            have := Nat.mul_le_mul (Nat.le_of_lt hlt) (Nat.le_refl W)
            have := Nat.mul_le_mul hRH6 hRW6
            omega
          have u3 := IntWalk.i64_in (P : Int) (by omega)
          have u4 := IntWalk.i64_in (I : Int) (by omega)
          have u5 : (0 : Int) ≤ (W : Int) - 1 - (j : Int) := by omega
          clear hQ hP hI
          have hIn : I < n := by
            have := (List.getElem?_eq_some_iff.1 hp).1
            rw [HNL.out] at this
            exact this
          have HTS := Lib.hid (tab_step f hltj (y := k))
          obtain ⟨p, hfp⟩ : ∃ p, f j k = p := ⟨_, rfl⟩
          rw [hfp] at hp HTS
          have hI2 : (0 : Int) ≤ (I : Int) ∧ (I : Int) < (n : Int) := by omega
          have HCL : Hid (cnt = (tab W (k * W + j) f).length) := Lib.hid (by rw [tab_length]; exact hcnt)
          have hcl36 : (tab W (k * W + j) f).length ≤ 36 := by
            rw [tab_length]
            have := place_in hltj hlt
            have h2 : W * H ≤ 6 * 6 := Nat.mul_le_mul hRW6 hRH6
            omega
          have hpx : PxAt wr b (o + I * 4) p := by
            rcases HH.out.below hbel with h0 | ⟨b', o', e, _, hc'⟩
            · rw [h0] at hp; simp at hp
            · injection e with e
              injection e with e1 e2 _
              subst e1 e2
              exact hc' _ p hp
          have hne : ∀ q, (Value.slice A' cnt c').ownBlock = some q → w.heap.size + 1 + 1 + 1 ≤ q := fun q e => (World.ownsRow.lt hown q e).1
          obtain ⟨G, hG⟩ : ∃ G, wr.heap.size = G := ⟨_, rfl⟩
          have hGd : wr.drew.heap.size = G := hG
          have HOd : Hid (pxE.Own wr.drew (w.heap.size + 1 + 1 + 1) (.slice A' cnt c') (tab W (k * W + j) f)) := Lib.hid (El.Own.drewN (E := pxE) hown 1)
          have HOA : Hid (pxE.Own (wr.drew.alloc (.cells #[.int .i64 p.r, .int .i64 p.g, .int .i64 p.b, .int .i64 p.a] 62)) (w.heap.size + 1 + 1 + 1) (.slice A' cnt c') (tab W (k * W + j) f)) := Lib.hid (El.Own.alloc (E := pxE) HOd.out _)
          have HBX : Hid (Box (wr.drew.alloc (.cells #[.int .i64 p.r, .int .i64 p.g, .int .i64 p.b, .int .i64 p.a] 62)) G (pxE.cells p).toArray 62) := Lib.hid (by rw [← hGd]; exact Box.new wr.drew _ _)
          have hszd : w.heap.size + 1 + 1 + 1 ≤ wr.drew.heap.size := hsz
          have BA : Below wr.drew.heap.size wr.drew (wr.drew.alloc (.cells #[.int .i64 p.r, .int .i64 p.g, .int .i64 p.b, .int .i64 p.a] 62)) := (Below.refl _ _).alloc (Nat.le_refl _) _
          have BA3 := BA.mono hszd
          have hbb : b < w.heap.size := hbl
          have HS3 : Hid (∀ w', Below (w.heap.size + 1 + 1 + 1) wr.drew w' → RasAtB w' (w.heap.size + 1 + 1) (W : Int) (H : Int) A' cnt c' 30 ∧ RasAtB w' w.heap.size (W : Int) (H : Int) (some ⟨b, o, none⟩) n c 30 ∧ PxAt w' b (o + I * 4) p) := Lib.hid fun w' hb => ⟨Box.below hX.drew1 hb (by omega), Box.below hR.drew1 hb (by omega), PxAt.kept (w := wr.drew) hpx fun q hq => hb.cell (by omega)⟩
          have HSb : Hid (∀ w', Below wr.drew.heap.size wr.drew w' → RasAtB w' (w.heap.size + 1 + 1) (W : Int) (H : Int) A' cnt c' 30 ∧ RasAtB w' w.heap.size (W : Int) (H : Int) (some ⟨b, o, none⟩) n c 30 ∧ PxAt w' b (o + I * 4) p) := Lib.hid fun w' hb => HS3.out w' (hb.mono hszd)
          have HS0 := Lib.hid (HSb.out _ (Below.refl _ _))
          have HBd := Lib.hid (below_draws hbel 1)
          have HZd := Lib.hid hZ.drew1
          have hGw : w.heap.size + 1 + 1 + 1 ≤ G := by rw [← hGd]; exact hszd
          clear hown hX hZ hR hbel hpx hp hfp hGd hcnt
          go_wp2_with fail
          clear x0
          refine wp_region_T (fun w' => RasAtB w' (w.heap.size + 1 + 1) (W : Int) (H : Int) A' cnt c' 30 ∧ RasAtB w' w.heap.size (W : Int) (H : Int) (some ⟨b, o, none⟩) n c 30 ∧ PxAt w' b (o + I * 4) p) 15 (by kernel_rfl) ?_
          refine wpAnyT_take (i := 0) (d := 24) (v := .pointer (some ⟨w.heap.size + 1 + 1, 2, none⟩)) rfl rfl (by kernel_rfl) (by kernel_rfl) (by kernel_rfl) (by kernel_rfl) (by kernel_rfl) (fun _ _ _ h => h) HS0.out (Or.inl ⟨by rfl, fun w' hS' => ?_⟩) ?_
          · obtain ⟨s0, s1, s2⟩ := hS'
            have t2 := s0.c2
            have v0 := s1.c0
            have v1 := s1.c1
            have v2 := s1.c2
            obtain ⟨p0, p1, p2, p3⟩ := s2
            go_simp
          simp only [Act.put, List.setIfInBounds_toArray, List.set_cons_zero, List.set_cons_succ]
          refine wpAnyT_take (i := 1) (d := 25) (v := .slice A' cnt c') rfl rfl (by kernel_rfl) (by kernel_rfl) (by kernel_rfl) (by kernel_rfl) (by kernel_rfl) (fun _ _ _ h => h) HS0.out (Or.inl ⟨by rfl, fun w' hS' => ?_⟩) ?_
          · obtain ⟨s0, s1, s2⟩ := hS'
            have t2 := s0.c2
            have v0 := s1.c0
            have v1 := s1.c1
            have v2 := s1.c2
            obtain ⟨p0, p1, p2, p3⟩ := s2
            go_simp
          simp only [Act.put, List.setIfInBounds_toArray, List.set_cons_zero, List.set_cons_succ]
          refine wpAnyT_take (i := 2) (d := 26) (v := .pointer (some ⟨w.heap.size, 2, none⟩)) rfl rfl (by kernel_rfl) (by kernel_rfl) (by kernel_rfl) (by kernel_rfl) (by kernel_rfl) (fun _ _ _ h => h) HS0.out (Or.inl ⟨by rfl, fun w' hS' => ?_⟩) ?_
          · obtain ⟨s0, s1, s2⟩ := hS'
            have t2 := s0.c2
            have v0 := s1.c0
            have v1 := s1.c1
            have v2 := s1.c2
            obtain ⟨p0, p1, p2, p3⟩ := s2
            go_simp
          simp only [Act.put, List.setIfInBounds_toArray, List.set_cons_zero, List.set_cons_succ]
          refine wpAnyT_take (i := 3) (d := 27) (v := .slice (some ⟨b, o, none⟩) n c) rfl rfl (by kernel_rfl) (by kernel_rfl) (by kernel_rfl) (by kernel_rfl) (by kernel_rfl) (fun _ _ _ h => h) HS0.out (Or.inl ⟨by rfl, fun w' hS' => ?_⟩) ?_
          · obtain ⟨s0, s1, s2⟩ := hS'
            have t2 := s0.c2
            have v0 := s1.c0
            have v1 := s1.c1
            have v2 := s1.c2
            obtain ⟨p0, p1, p2, p3⟩ := s2
            go_simp
          simp only [Act.put, List.setIfInBounds_toArray, List.set_cons_zero, List.set_cons_succ]
          refine wpAnyT_take (i := 4) (d := 28) (v := .int .i64 (k : Int)) rfl rfl (by kernel_rfl) (by kernel_rfl) (by kernel_rfl) (by kernel_rfl) (by kernel_rfl) (fun _ _ _ h => h) HS0.out (Or.inl ⟨by rfl, fun w' hS' => ?_⟩) ?_
          · obtain ⟨s0, s1, s2⟩ := hS'
            have t2 := s0.c2
            have v0 := s1.c0
            have v1 := s1.c1
            have v2 := s1.c2
            obtain ⟨p0, p1, p2, p3⟩ := s2
            go_simp
          simp only [Act.put, List.setIfInBounds_toArray, List.set_cons_zero, List.set_cons_succ]
          refine wpAnyT_take (i := 5) (d := 29) (v := .pointer (some ⟨w.heap.size, 0, none⟩)) rfl rfl (by kernel_rfl) (by kernel_rfl) (by kernel_rfl) (by kernel_rfl) (by kernel_rfl) (fun _ _ _ h => h) HS0.out (Or.inl ⟨by rfl, fun w' hS' => ?_⟩) ?_
          · obtain ⟨s0, s1, s2⟩ := hS'
            have t2 := s0.c2
            have v0 := s1.c0
            have v1 := s1.c1
            have v2 := s1.c2
            obtain ⟨p0, p1, p2, p3⟩ := s2
            go_simp
          simp only [Act.put, List.setIfInBounds_toArray, List.set_cons_zero, List.set_cons_succ]
          refine wpAnyT_take (i := 6) (d := 30) (v := .int .i64 (W : Int)) rfl rfl (by kernel_rfl) (by kernel_rfl) (by kernel_rfl) (by kernel_rfl) (by kernel_rfl) (fun _ _ _ h => h) HS0.out (Or.inl ⟨by rfl, fun w' hS' => ?_⟩) ?_
          · obtain ⟨s0, s1, s2⟩ := hS'
            have t2 := s0.c2
            have v0 := s1.c0
            have v1 := s1.c1
            have v2 := s1.c2
            obtain ⟨p0, p1, p2, p3⟩ := s2
            go_simp
          simp only [Act.put, List.setIfInBounds_toArray, List.set_cons_zero, List.set_cons_succ]
          refine wpAnyT_take (i := 7) (d := 31) (v := .int .i64 (P : Int)) rfl rfl (by kernel_rfl) (by kernel_rfl) (by kernel_rfl) (by kernel_rfl) (by kernel_rfl) (fun _ _ _ h => h) HS0.out (Or.inl ⟨by rfl, fun w' hS' => ?_⟩) ?_
          · obtain ⟨s0, s1, s2⟩ := hS'
            have t2 := s0.c2
            have v0 := s1.c0
            have v1 := s1.c1
            have v2 := s1.c2
            obtain ⟨p0, p1, p2, p3⟩ := s2
            go_simp
          simp only [Act.put, List.setIfInBounds_toArray, List.set_cons_zero, List.set_cons_succ]
          refine wpAnyT_take (i := 8) (d := 32) (v := .int .i64 ((W : Int) - 1 - (j : Int))) rfl rfl (by kernel_rfl) (by kernel_rfl) (by kernel_rfl) (by kernel_rfl) (by kernel_rfl) (fun _ _ _ h => h) HS0.out (Or.inl ⟨by rfl, fun w' hS' => ?_⟩) ?_
          · obtain ⟨s0, s1, s2⟩ := hS'
            have t2 := s0.c2
            have v0 := s1.c0
            have v1 := s1.c1
            have v2 := s1.c2
            obtain ⟨p0, p1, p2, p3⟩ := s2
            go_simp
          simp only [Act.put, List.setIfInBounds_toArray, List.set_cons_zero, List.set_cons_succ]
          refine wpAnyT_take (i := 9) (d := 33) (v := .int .i64 (I : Int)) rfl rfl (by kernel_rfl) (by kernel_rfl) (by kernel_rfl) (by kernel_rfl) (by kernel_rfl) (fun _ _ _ h => h) HS0.out (Or.inl ⟨by rfl, fun w' hS' => ?_⟩) ?_
          · obtain ⟨s0, s1, s2⟩ := hS'
            have t2 := s0.c2
            have v0 := s1.c0
            have v1 := s1.c1
            have v2 := s1.c2
            obtain ⟨p0, p1, p2, p3⟩ := s2
            go_simp
          simp only [Act.put, List.setIfInBounds_toArray, List.set_cons_zero, List.set_cons_succ]
          refine wpAnyT_take (i := 10) (d := 34) (v := .pointer (some ⟨b, o + I * 4, none⟩)) rfl rfl (by kernel_rfl) (by kernel_rfl) (by kernel_rfl) (by kernel_rfl) (by kernel_rfl) (fun _ _ _ h => h) HS0.out (Or.inl ⟨by rfl, fun w' hS' => ?_⟩) ?_
          · obtain ⟨s0, s1, s2⟩ := hS'
            have t2 := s0.c2
            have v0 := s1.c0
            have v1 := s1.c1
            have v2 := s1.c2
            obtain ⟨p0, p1, p2, p3⟩ := s2
            go_simp
          simp only [Act.put, List.setIfInBounds_toArray, List.set_cons_zero, List.set_cons_succ]
          refine wpAnyT_take (i := 11) (d := 35) (v := .agg #[.int .i64 p.r, .int .i64 p.g, .int .i64 p.b, .int .i64 p.a]) rfl rfl (by kernel_rfl) (by kernel_rfl) (by kernel_rfl) (by kernel_rfl) (by kernel_rfl) (fun _ _ _ h => h) HS0.out (Or.inl ⟨by rfl, fun w' hS' => ?_⟩) ?_
          · obtain ⟨s0, s1, s2⟩ := hS'
            have t2 := s0.c2
            have v0 := s1.c0
            have v1 := s1.c1
            have v2 := s1.c2
            obtain ⟨p0, p1, p2, p3⟩ := s2
            go_simp
          simp only [Act.put, List.setIfInBounds_toArray, List.set_cons_zero, List.set_cons_succ]
          refine wpAnyT_one (i := 12) (by kernel_rfl) rfl (fun K hK => ?_)
          go_simp
          refine hK.out _ _ (fun _ => HSb.out _ BA) ?_
          clear hK
          try simp only [Act.put, List.setIfInBounds_toArray]
          refine wpAnyT_one (i := 13) (by kernel_rfl) rfl (fun K hK => ?_)
          refine El.step_append (E := pxE) 28 Tryd.underlying28 rfl (.tmp 25) (.tmp 36) rfl (w.heap.size + 1 + 1 + 1) (.slice A' cnt c') (tab W (k * W + j) f) rfl HOA.out ⟨G, 0, none⟩ 1 1 [p] rfl rfl (Box.news (E := pxE) (x := p) HBX.out) (by decide) (by omega) (by simp; omega) (G + 1) (by simp [hG]) ?_
          intro g cap w5 hown5 hgr5 hg5 hcap5
          have b5 : Below (w.heap.size + 1 + 1 + 1) wr.drew w5 := BA3.grown hgr5 (by simp; omega) (fun q e => (World.ownsRow.lt HOd.out q e).1)
          refine hK.out _ _ (fun _ => HS3.out _ b5) ?_
          clear hK
          try simp only [Act.put, List.setIfInBounds_toArray]
          refine wpAnyT_one (i := 14) (by kernel_rfl) rfl (fun K hK => ?_)
          go_simp
          refine hK.out _ _ (fun _ => HS3.out _ b5) ?_
          clear hK
          try simp only [Act.put, List.setIfInBounds_toArray, List.set_cons_zero, List.set_cons_succ]
          refine wpAnyT_one (i := 15) (by kernel_rfl) rfl (fun K hK => ?_)
          have hx5 : RasAtB w5 (w.heap.size + 1 + 1) (W : Int) (H : Int) A' cnt c' 30 := (HS3.out _ b5).1
          have q2 := hx5.c2
          have f2 := hx5.free 2
          go_simp
          refine hK.out _ _ last_out ?_
          clear hK
          refine wpAnyT_done (by kernel_rfl) ?_ _
          have hl1 : (tab W (k * W + j) f).length + 1 = k * W + (j + 1) := by rw [tab_length]; omega
          have hx6 : RasAtB (w5.setCell ⟨w.heap.size + 1 + 1, 2, none⟩ (.slice (some ⟨g, 0, none⟩) ((tab W (k * W + j) f).length + 1) cap)) (w.heap.size + 1 + 1) (W : Int) (H : Int) (some ⟨g, 0, none⟩) ((tab W (k * W + j) f).length + 1) cap 30 := hx5.set2 _ _ _
          have hr6 : RasAtB (w5.setCell ⟨w.heap.size + 1 + 1, 2, none⟩ (.slice (some ⟨g, 0, none⟩) ((tab W (k * W + j) f).length + 1) cap)) w.heap.size (W : Int) (H : Int) (some ⟨b, o, none⟩) n c 30 := (HS3.out _ b5).2.1.set_other (by omega) 2 _
          have hz6 : RasAtB (w5.setCell ⟨w.heap.size + 1 + 1, 2, none⟩ (.slice (some ⟨g, 0, none⟩) ((tab W (k * W + j) f).length + 1) cap)) (w.heap.size + 1) 0 0 none 0 0 30 := (Box.below HZd.out b5 (by omega)).set_other (by omega) 2 _

          have ho6 : OwnP (w5.setCell ⟨w.heap.size + 1 + 1, 2, none⟩ (.slice (some ⟨g, 0, none⟩) ((tab W (k * W + j) f).length + 1) cap)) (w.heap.size + 1 + 1 + 1) (.slice (some ⟨g, 0, none⟩) ((tab W (k * W + j) f).length + 1) cap) (tab W (k * W + (j + 1)) f) := by
            rw [HTS.out]
            exact OwnP.set_low (own_px.1 hown5) (by omega) 2 _
          have hb6 : Below w.heap.size w (w5.setCell ⟨w.heap.size + 1 + 1, 2, none⟩ (.slice (some ⟨g, 0, none⟩) ((tab W (k * W + j) f).length + 1) cap)) := (HBd.out.trans (b5.mono (by omega))).setCell (p := ⟨w.heap.size + 1 + 1, 2, none⟩) (by simp; omega) _
          have hs6 : w.heap.size + 1 + 1 + 1 ≤ (w5.setCell ⟨w.heap.size + 1 + 1, 2, none⟩ (.slice (some ⟨g, 0, none⟩) ((tab W (k * W + j) f).length + 1) cap)).heap.size := by
            have := b5.size
            simp
            omega
          have HE := Lib.hid (And.intro hl1 (And.intro ho6 (And.intro hx6 (And.intro hz6 (And.intro hr6 (And.intro hb6 hs6))))))
          clear hl1 hx6 hr6 hz6 ho6 hb6 hs6 hown5 hgr5 hg5 hcap5 b5 hx5 q2 f2 u3 u4 u5 hPe hIe hP36
          go_wp2_with fail
          go_roundw
          case rel => exact ⟨j + 1, by omega, by go_num, _, _, _, HE.out.1, HE.out.2.1, HE.out.2.2.1, HE.out.2.2.2.1, HE.out.2.2.2.2.1, HE.out.2.2.2.2.2.1, HE.out.2.2.2.2.2.2⟩
          case measure => simp [intOf]; omega
        · obtain rfl : j = W := by omega
          have HO : Hid (OwnP wr (w.heap.size + 1 + 1 + 1) (.slice A' cnt c') (tab j ((k + 1) * j) f)) := Lib.hid (by rw [Nat.add_mul, Nat.one_mul]; exact hown)
          have HCN : Hid (cnt = (k + 1) * j) := Lib.hid (by rw [Nat.add_mul, Nat.one_mul]; exact hcnt)
          have HX := Lib.hid hX
          have HZ := Lib.hid hZ
          have HR := Lib.hid hR
          have HB := Lib.hid hbel
          clear hown hcnt hX hZ hR hbel
          go_wp2_with fail
          go_roundw
          case rel => exact ⟨k + 1, by omega, by go_num, A', c', cnt, HCN.out, HO.out, HX.out, HZ.out, HR.out, HB.out, hsz⟩
          case measure => simp [intOf]; omega
    · obtain rfl : k = H := by omega
      have hT : tab W (k * W) f = tp := by rw [HTP.out, Nat.mul_comm]
      have hcl : cnt = tp.length := by rw [hcnt, ← hT, tab_length]
      rw [hT] at hown
      rw [hcl] at hown hX
      have hc' : tp.length ≤ c' := (El.Own.len (E := pxE) hown).2
      have HZ := Lib.hid hZ
      have HE := Lib.hid (HG.out A' c' _ hc' (OwnP.lower (((OwnP.set_low hown (b := w.heap.size + 1) (by omega) 0 (.int .i64 (W : Int))).set_low (b := w.heap.size + 1) (by omega) 1 (.int .i64 (k : Int))).set_low (b := w.heap.size + 1) (by omega) 2 (.slice A' tp.length c')) (by omega)) (((hbel.setCell (p := ⟨w.heap.size + 1, 0, none⟩) (by simp) (.int .i64 (W : Int))).setCell (p := ⟨w.heap.size + 1, 1, none⟩) (by simp) (.int .i64 (k : Int))).setCell (p := ⟨w.heap.size + 1, 2, none⟩) (by simp) (.slice A' tp.length c')))
      have x0 := hX.c0
      have x2 := hX.c2
      have z0 := hZ.c0
      have z1 := hZ.c1
      have z2 := hZ.c2
      have f0 := hZ.free 0
      have f1 := hZ.free 1
      have f2 := hZ.free 2
      clear hown hcnt hcl hT hX hZ hR hbel hc'
      go_wp2_with fail
      (try simp only [Exit.inBlock, Exit.then])
      refine bodyPost_ret (results_cell_row rfl _ _ (w.heap.size + 1) 30 #[.int .i64 (W : Int), .int .i64 (k : Int), .slice A' tp.length c'] (0, 0) _ rfl (fin_ras HZ.out _ _ _) Tryd.underlying30 rfl (by kernel_rfl)) rfl ?_
      exact HE.out
end Go.Proofs.YtiemlakjallphabDoor
namespace Go.Proofs.YtiemlakjallphabDoor
set_option maxRecDepth 4000
open Go.RowKit

set_option maxHeartbeats 8000000 in
theorem l6Crop_any (r : Ra) (aa bb cc dd : Nat) (A : Option Addr) (c : Nat) (w : World) (hr : r.ok) (hcc : 1 ≤ cc) (hdd : 1 ≤ dd) (hac : aa + cc ≤ r.w) (hbd : bb + dd ≤ r.h) (h : HasP w w.heap.size A r.p) :
    Calls Tryd.prog 61 #[raV r A c, (cO (aa : Int) (bb : Int) (cc : Int) (dd : Int)).v] w (Drawn (cropR r aa bb cc dd) w) := by
  obtain ⟨hw6, hh6, hl, -⟩ := hr.parts
  have hlen := ra_len hr
  obtain ⟨b, o, -, rfl, hbl, -, -⟩ := h.spot (k := 0) (by omega)
  have HPX : Hid (∀ x y, x < (cropR r aa bb cc dd).w → y < (cropR r aa bb cc dd).h → r.p[(bb + y) * r.w + (aa + x)]? = some ((fun x y => r.at (aa + x) (bb + y)) x y)) := Lib.hid fun x y hx hy => (hr.at (x := aa + x) (y := bb + y) (by have : x < cc := hx; omega) (by have : y < dd := hy; omega)).1
  have HG : Hid (∀ A' c' w', (cropR r aa bb cc dd).p.length ≤ c' → OwnP w' w.heap.size (.slice A' (cropR r aa bb cc dd).p.length c') (cropR r aa bb cc dd).p → Below w.heap.size w w' → Drawn (cropR r aa bb cc dd) w (.returned (.agg #[.int .i64 ((cropR r aa bb cc dd).w : Int), .int .i64 ((cropR r aa bb cc dd).h : Int), .slice A' (cropR r aa bb cc dd).p.length c'])) w') := Lib.hid fun A' c' w' k1 k2 k3 => ⟨A', c', rfl, k1, k2, k3⟩
  have HTP : Hid ((cropR r aa bb cc dd).p = tab (cropR r aa bb cc dd).w ((cropR r aa bb cc dd).w * (cropR r aa bb cc dd).h) (fun x y => r.at (aa + x) (bb + y))) := Lib.hid rfl
  generalize Drawn (cropR r aa bb cc dd) w = D at *
  generalize (cropR r aa bb cc dd).p = tp at *
  change Hid (∀ x y, x < cc → y < dd → r.p[(bb + y) * r.w + (aa + x)]? = some ((fun x y => r.at (aa + x) (bb + y)) x y)) at HPX
  change Hid (∀ A' c' w', tp.length ≤ c' → OwnP w' w.heap.size (.slice A' tp.length c') tp → Below w.heap.size w w' → D (.returned (.agg #[.int .i64 ((cc : Nat) : Int), .int .i64 ((dd : Nat) : Int), .slice A' tp.length c'])) w') at HG
  change Hid (tp = tab cc (cc * dd) (fun x y => r.at (aa + x) (bb + y))) at HTP
  unfold raV rasV
  obtain ⟨f, hf⟩ : ∃ f : Nat → Nat → Px, (fun x y => r.at (aa + x) (bb + y)) = f := ⟨_, rfl⟩
  rw [hf] at HTP HPX
  clear hf
  obtain ⟨W, hW⟩ : ∃ W, r.w = W := ⟨_, rfl⟩
  obtain ⟨H, hH⟩ : ∃ H, r.h = H := ⟨_, rfl⟩
  obtain ⟨n, hn⟩ : ∃ n, r.p.length = n := ⟨_, rfl⟩
  obtain ⟨pl, hpl⟩ : ∃ pl, r.p = pl := ⟨_, rfl⟩
  simp only [hW, hH] at *
  rw [hpl] at HPX
  rw [hn] at hlen hl
  rw [hpl] at h
  rw [hn]
  have HNL : Hid (pl.length = n) := Lib.hid (by rw [← hpl]; exact hn)
  clear hr hW hH hn hpl hl
  have hRW6 : cc ≤ 6 := by omega
  have hRH6 : dd ≤ 6 := by omega
  have hb0 : Below w.heap.size w ((((w.alloc (.cells #[.int .i64 (W : Int), .int .i64 (H : Int), .slice (some ⟨b, o, none⟩) n c] 30)).alloc (.cells #[.int .i64 1, .int .i64 (aa : Int), .int .i64 (bb : Int), .int .i64 (cc : Int), .int .i64 (dd : Int)] 49)).alloc (.cells #[.int .i64 0, .int .i64 0, .slice none 0 0] 30)).alloc (.cells #[.int .i64 (cc : Int), .int .i64 (dd : Int), .slice none 0 0] 30)) := (((((Below.refl _ w).alloc (Nat.le_refl _) _).alloc (by simp) _).alloc (by simp; omega) _).alloc (by simp; omega) _)
  have hR0 : RasAtB ((((w.alloc (.cells #[.int .i64 (W : Int), .int .i64 (H : Int), .slice (some ⟨b, o, none⟩) n c] 30)).alloc (.cells #[.int .i64 1, .int .i64 (aa : Int), .int .i64 (bb : Int), .int .i64 (cc : Int), .int .i64 (dd : Int)] 49)).alloc (.cells #[.int .i64 0, .int .i64 0, .slice none 0 0] 30)).alloc (.cells #[.int .i64 (cc : Int), .int .i64 (dd : Int), .slice none 0 0] 30)) w.heap.size (W : Int) (H : Int) (some ⟨b, o, none⟩) n c 30 := Box.alloc (Box.alloc (Box.alloc (Box.new w _ _) _) _) _
  have hO0 : OpAtB ((((w.alloc (.cells #[.int .i64 (W : Int), .int .i64 (H : Int), .slice (some ⟨b, o, none⟩) n c] 30)).alloc (.cells #[.int .i64 1, .int .i64 (aa : Int), .int .i64 (bb : Int), .int .i64 (cc : Int), .int .i64 (dd : Int)] 49)).alloc (.cells #[.int .i64 0, .int .i64 0, .slice none 0 0] 30)).alloc (.cells #[.int .i64 (cc : Int), .int .i64 (dd : Int), .slice none 0 0] 30)) (w.heap.size + 1) (cO (aa : Int) (bb : Int) (cc : Int) (dd : Int)) := by
    refine Box.alloc (Box.alloc ?_ _) _
    have := Box.new (w.alloc (.cells #[.int .i64 (W : Int), .int .i64 (H : Int), .slice (some ⟨b, o, none⟩) n c] 30)) #[.int .i64 1, .int .i64 (aa : Int), .int .i64 (bb : Int), .int .i64 (cc : Int), .int .i64 (dd : Int)] 49
    rw [show (w.alloc (.cells #[.int .i64 (W : Int), .int .i64 (H : Int), .slice (some ⟨b, o, none⟩) n c] 30)).heap.size = w.heap.size + 1 from by simp] at this
    exact this
  have hZ0 : RasAtB ((((w.alloc (.cells #[.int .i64 (W : Int), .int .i64 (H : Int), .slice (some ⟨b, o, none⟩) n c] 30)).alloc (.cells #[.int .i64 1, .int .i64 (aa : Int), .int .i64 (bb : Int), .int .i64 (cc : Int), .int .i64 (dd : Int)] 49)).alloc (.cells #[.int .i64 0, .int .i64 0, .slice none 0 0] 30)).alloc (.cells #[.int .i64 (cc : Int), .int .i64 (dd : Int), .slice none 0 0] 30)) (w.heap.size + 1 + 1) 0 0 none 0 0 30 := by
    refine Box.alloc ?_ _
    have := Box.new ((w.alloc (.cells #[.int .i64 (W : Int), .int .i64 (H : Int), .slice (some ⟨b, o, none⟩) n c] 30)).alloc (.cells #[.int .i64 1, .int .i64 (aa : Int), .int .i64 (bb : Int), .int .i64 (cc : Int), .int .i64 (dd : Int)] 49)) #[.int .i64 0, .int .i64 0, .slice none 0 0] 30
    rw [show ((w.alloc (.cells #[.int .i64 (W : Int), .int .i64 (H : Int), .slice (some ⟨b, o, none⟩) n c] 30)).alloc (.cells #[.int .i64 1, .int .i64 (aa : Int), .int .i64 (bb : Int), .int .i64 (cc : Int), .int .i64 (dd : Int)] 49)).heap.size = w.heap.size + 1 + 1 from by simp] at this
    exact this
  have hX0 : RasAtB ((((w.alloc (.cells #[.int .i64 (W : Int), .int .i64 (H : Int), .slice (some ⟨b, o, none⟩) n c] 30)).alloc (.cells #[.int .i64 1, .int .i64 (aa : Int), .int .i64 (bb : Int), .int .i64 (cc : Int), .int .i64 (dd : Int)] 49)).alloc (.cells #[.int .i64 0, .int .i64 0, .slice none 0 0] 30)).alloc (.cells #[.int .i64 (cc : Int), .int .i64 (dd : Int), .slice none 0 0] 30)) (w.heap.size + 1 + 1 + 1) (cc : Int) (dd : Int) none 0 0 30 := by
    have := Box.new (((w.alloc (.cells #[.int .i64 (W : Int), .int .i64 (H : Int), .slice (some ⟨b, o, none⟩) n c] 30)).alloc (.cells #[.int .i64 1, .int .i64 (aa : Int), .int .i64 (bb : Int), .int .i64 (cc : Int), .int .i64 (dd : Int)] 49)).alloc (.cells #[.int .i64 0, .int .i64 0, .slice none 0 0] 30)) #[.int .i64 (cc : Int), .int .i64 (dd : Int), .slice none 0 0] 30
    rw [show (((w.alloc (.cells #[.int .i64 (W : Int), .int .i64 (H : Int), .slice (some ⟨b, o, none⟩) n c] 30)).alloc (.cells #[.int .i64 1, .int .i64 (aa : Int), .int .i64 (bb : Int), .int .i64 (cc : Int), .int .i64 (dd : Int)] 49)).alloc (.cells #[.int .i64 0, .int .i64 0, .slice none 0 0] 30)).heap.size = w.heap.size + 1 + 1 + 1 from by simp] at this
    exact this
  have hsz : w.heap.size + 1 + 1 + 1 + 1 ≤ ((((w.alloc (.cells #[.int .i64 (W : Int), .int .i64 (H : Int), .slice (some ⟨b, o, none⟩) n c] 30)).alloc (.cells #[.int .i64 1, .int .i64 (aa : Int), .int .i64 (bb : Int), .int .i64 (cc : Int), .int .i64 (dd : Int)] 49)).alloc (.cells #[.int .i64 0, .int .i64 0, .slice none 0 0] 30)).alloc (.cells #[.int .i64 (cc : Int), .int .i64 (dd : Int), .slice none 0 0] 30)).heap.size := by simp
  have HB0 := Lib.hid hb0
  have HR0 := Lib.hid hR0
  have HZ0 := Lib.hid hZ0
  have HX0 := Lib.hid hX0
  have HSZ := Lib.hid hsz
  have HH := Lib.hid h
  have HOP0 := Lib.hid hO0
  clear hb0 hR0 hZ0 hX0 hsz h hO0
  unfold Op.v cO
  dsimp only
  go_enter Tryd.func61, Tryd.ntmps61
  go_wp2_with fail
  generalize ((((w.alloc (.cells #[.int .i64 (W : Int), .int .i64 (H : Int), .slice (some ⟨b, o, none⟩) n c] 30)).alloc (.cells #[.int .i64 1, .int .i64 (aa : Int), .int .i64 (bb : Int), .int .i64 (cc : Int), .int .i64 (dd : Int)] 49)).alloc (.cells #[.int .i64 0, .int .i64 0, .slice none 0 0] 30)).alloc (.cells #[.int .i64 (cc : Int), .int .i64 (dd : Int), .slice none 0 0] 30)) = w0 at *
  go_loopw [6] (fun v wr => ∃ k : Nat, k ≤ dd ∧ v = .int .i64 (k : Int) ∧ ∃ A' c' cnt, cnt = k * cc ∧ OwnP wr (w.heap.size + 1 + 1 + 1 + 1) (.slice A' cnt c') (tab cc (k * cc) f) ∧ RasAtB wr (w.heap.size + 1 + 1 + 1) (cc : Int) (dd : Int) A' cnt c' 30 ∧ RasAtB wr (w.heap.size + 1 + 1) 0 0 none 0 0 30 ∧ RasAtB wr w.heap.size (W : Int) (H : Int) (some ⟨b, o, none⟩) n c 30 ∧ Below w.heap.size w wr ∧ w.heap.size + 1 + 1 + 1 + 1 ≤ wr.heap.size ∧ OpAtB wr (w.heap.size + 1) (cO (aa : Int) (bb : Int) (cc : Int) (dd : Int))) (fun v _ => dd - (intOf v).toNat)
  case atStart => exact ⟨0, Nat.zero_le _, rfl, none, 0, 0, by simp, by rw [Nat.zero_mul, tab_zero]; exact World.ownsRow_nil _ _ _ _, HX0.out, HZ0.out, HR0.out, HB0.out, HSZ.out, HOP0.out⟩
  case round =>
    obtain ⟨k, hk, rfl, A', c', cnt, hcnt, hown, hX, hZ, hR, hbel, hsz, hO⟩ := hrel
    have x1 := hX.c1
    have r1 := hR.c1
    obtain ⟨y0, y1, y2, y3, y4⟩ : wr.cell? ⟨w.heap.size + 1, 0, none⟩ = some (.int .i64 1) ∧ wr.cell? ⟨w.heap.size + 1, 1, none⟩ = some (.int .i64 (aa : Int)) ∧ wr.cell? ⟨w.heap.size + 1, 2, none⟩ = some (.int .i64 (bb : Int)) ∧ wr.cell? ⟨w.heap.size + 1, 3, none⟩ = some (.int .i64 (cc : Int)) ∧ wr.cell? ⟨w.heap.size + 1, 4, none⟩ = some (.int .i64 (dd : Int)) := OpAtB.cs hO
    by_cases hlt : k < dd
    · have r0 := hR.c0
      have hown0 : OwnP wr (w.heap.size + 1 + 1 + 1 + 1) (.slice A' cnt c') (tab cc (k * cc + 0) f) := hown
      have HO := Lib.hid hown0
      have HX := Lib.hid hX
      have HZ := Lib.hid hZ
      have HR := Lib.hid hR
      have HB := Lib.hid hbel
      have HCN := Lib.hid hcnt
      have HOP := Lib.hid hO
      clear hown hown0 hX hZ hR hbel hcnt hO
      go_wp2_with fail
      clear x1 r0 r1 y0 y1 y2 y3 y4
      go_loopw [7] (fun v wq => ∃ j : Nat, j ≤ cc ∧ v = .int .i64 ((j : Int)) ∧ ∃ A' c' cnt, cnt = k * cc + j ∧ OwnP wq (w.heap.size + 1 + 1 + 1 + 1) (.slice A' cnt c') (tab cc (k * cc + j) f) ∧ RasAtB wq (w.heap.size + 1 + 1 + 1) (cc : Int) (dd : Int) A' cnt c' 30 ∧ RasAtB wq (w.heap.size + 1 + 1) 0 0 none 0 0 30 ∧ RasAtB wq w.heap.size (W : Int) (H : Int) (some ⟨b, o, none⟩) n c 30 ∧ Below w.heap.size w wq ∧ w.heap.size + 1 + 1 + 1 + 1 ≤ wq.heap.size ∧ OpAtB wq (w.heap.size + 1) (cO (aa : Int) (bb : Int) (cc : Int) (dd : Int))) (fun v _ => cc - (intOf v).toNat)
      case atStart => exact ⟨0, Nat.zero_le _, rfl, A', c', cnt, HCN.out, HO.out, HX.out, HZ.out, HR.out, HB.out, hsz, HOP.out⟩
      case round =>
        clear HO HX HZ HR HB HCN hsz HOP
        obtain ⟨j, hj, rfl, A', c', cnt, hcnt, hown, hX, hZ, hR, hbel, hsz, hO⟩ := hrel
        have x0 := hX.c0
        obtain ⟨y0, y1, y2, y3, y4⟩ : wr.cell? ⟨w.heap.size + 1, 0, none⟩ = some (.int .i64 1) ∧ wr.cell? ⟨w.heap.size + 1, 1, none⟩ = some (.int .i64 (aa : Int)) ∧ wr.cell? ⟨w.heap.size + 1, 2, none⟩ = some (.int .i64 (bb : Int)) ∧ wr.cell? ⟨w.heap.size + 1, 3, none⟩ = some (.int .i64 (cc : Int)) ∧ wr.cell? ⟨w.heap.size + 1, 4, none⟩ = some (.int .i64 (dd : Int)) := OpAtB.cs hO
        by_cases hltj : j < cc
        · have hp := HPX.out j k hltj hlt
          obtain ⟨M, hM⟩ : ∃ M, bb + k = M := ⟨_, rfl⟩
          obtain ⟨P, hP⟩ : ∃ P, M * W = P := ⟨_, rfl⟩
          obtain ⟨Q, hQ⟩ : ∃ Q, P + aa = Q := ⟨_, rfl⟩
          obtain ⟨I, hI⟩ : ∃ I, Q + j = I := ⟨_, rfl⟩
          rw [hM, hP, ← Nat.add_assoc, hQ, hI] at hp
          have hMe : (bb : Int) + (k : Int) = (M : Int) := by omega
          have hPe : (M : Int) * (W : Int) = (P : Int) := by rw [← hP, Int.natCast_mul]
          have hQe : (P : Int) + (aa : Int) = (Q : Int) := by omega
          have hIe : (Q : Int) + (j : Int) = (I : Int) := by omega
          have hP36 : P ≤ 36 := by
            have h1 : M ≤ 6 := by omega
            have := Nat.mul_le_mul h1 hw6.2
            omega
          have u2 := IntWalk.i64_in (M : Int) (by omega)
          have u3 := IntWalk.i64_in (P : Int) (by omega)
          have u4 := IntWalk.i64_in (Q : Int) (by omega)
          have u5 := IntWalk.i64_in (I : Int) (by omega)
          clear hM hQ hP hI
          have hIn : I < n := by
            have := (List.getElem?_eq_some_iff.1 hp).1
            rw [HNL.out] at this
            exact this
          have HTS := Lib.hid (tab_step f hltj (y := k))
          obtain ⟨p, hfp⟩ : ∃ p, f j k = p := ⟨_, rfl⟩
          rw [hfp] at hp HTS
          have hI2 : (0 : Int) ≤ (I : Int) ∧ (I : Int) < (n : Int) := by omega
          have HCL : Hid (cnt = (tab cc (k * cc + j) f).length) := Lib.hid (by rw [tab_length]; exact hcnt)
          have hcl36 : (tab cc (k * cc + j) f).length ≤ 36 := by
            rw [tab_length]
            have := place_in hltj hlt
            have h2 : cc * dd ≤ 6 * 6 := Nat.mul_le_mul hRW6 hRH6
            omega
          have hpx : PxAt wr b (o + I * 4) p := by
            rcases HH.out.below hbel with h0 | ⟨b', o', e, _, hc'⟩
            · rw [h0] at hp; simp at hp
            · injection e with e
              injection e with e1 e2 _
              subst e1 e2
              exact hc' _ p hp
          have hne : ∀ q, (Value.slice A' cnt c').ownBlock = some q → w.heap.size + 1 + 1 + 1 + 1 ≤ q := fun q e => (World.ownsRow.lt hown q e).1
          obtain ⟨G, hG⟩ : ∃ G, wr.heap.size = G := ⟨_, rfl⟩
          have hGd : wr.drew.heap.size = G := hG
          have HOd : Hid (pxE.Own wr.drew (w.heap.size + 1 + 1 + 1 + 1) (.slice A' cnt c') (tab cc (k * cc + j) f)) := Lib.hid (El.Own.drewN (E := pxE) hown 1)
          have HOA : Hid (pxE.Own (wr.drew.alloc (.cells #[.int .i64 p.r, .int .i64 p.g, .int .i64 p.b, .int .i64 p.a] 62)) (w.heap.size + 1 + 1 + 1 + 1) (.slice A' cnt c') (tab cc (k * cc + j) f)) := Lib.hid (El.Own.alloc (E := pxE) HOd.out _)
          have HBX : Hid (Box (wr.drew.alloc (.cells #[.int .i64 p.r, .int .i64 p.g, .int .i64 p.b, .int .i64 p.a] 62)) G (pxE.cells p).toArray 62) := Lib.hid (by rw [← hGd]; exact Box.new wr.drew _ _)
          have hszd : w.heap.size + 1 + 1 + 1 + 1 ≤ wr.drew.heap.size := hsz
          have BA : Below wr.drew.heap.size wr.drew (wr.drew.alloc (.cells #[.int .i64 p.r, .int .i64 p.g, .int .i64 p.b, .int .i64 p.a] 62)) := (Below.refl _ _).alloc (Nat.le_refl _) _
          have BA3 := BA.mono hszd
          have hbb : b < w.heap.size := hbl
          have HS3 : Hid (∀ w', Below (w.heap.size + 1 + 1 + 1 + 1) wr.drew w' → RasAtB w' (w.heap.size + 1 + 1 + 1) (cc : Int) (dd : Int) A' cnt c' 30 ∧ RasAtB w' w.heap.size (W : Int) (H : Int) (some ⟨b, o, none⟩) n c 30 ∧ PxAt w' b (o + I * 4) p ∧ OpAtB w' (w.heap.size + 1) (cO (aa : Int) (bb : Int) (cc : Int) (dd : Int))) := Lib.hid fun w' hb => ⟨Box.below hX.drew1 hb (by omega), Box.below hR.drew1 hb (by omega), PxAt.kept (w := wr.drew) hpx fun q hq => hb.cell (by omega), Box.below (Box.drew hO) hb (by omega)⟩
          have HSb : Hid (∀ w', Below wr.drew.heap.size wr.drew w' → RasAtB w' (w.heap.size + 1 + 1 + 1) (cc : Int) (dd : Int) A' cnt c' 30 ∧ RasAtB w' w.heap.size (W : Int) (H : Int) (some ⟨b, o, none⟩) n c 30 ∧ PxAt w' b (o + I * 4) p ∧ OpAtB w' (w.heap.size + 1) (cO (aa : Int) (bb : Int) (cc : Int) (dd : Int))) := Lib.hid fun w' hb => HS3.out w' (hb.mono hszd)
          have HS0 := Lib.hid (HSb.out _ (Below.refl _ _))
          have HBd := Lib.hid (below_draws hbel 1)
          have HZd := Lib.hid hZ.drew1
          have hGw : w.heap.size + 1 + 1 + 1 + 1 ≤ G := by rw [← hGd]; exact hszd
          clear hown hX hZ hR hbel hpx hp hfp hGd hcnt hO
          go_wp2_with fail
          clear x0 y0 y1 y2 y3 y4
          refine wp_region_T (fun w' => RasAtB w' (w.heap.size + 1 + 1 + 1) (cc : Int) (dd : Int) A' cnt c' 30 ∧ RasAtB w' w.heap.size (W : Int) (H : Int) (some ⟨b, o, none⟩) n c 30 ∧ PxAt w' b (o + I * 4) p ∧ OpAtB w' (w.heap.size + 1) (cO (aa : Int) (bb : Int) (cc : Int) (dd : Int))) 21 (by kernel_rfl) ?_
          refine wpAnyT_take (i := 0) (d := 25) (v := .pointer (some ⟨w.heap.size + 1 + 1 + 1, 2, none⟩)) rfl rfl (by kernel_rfl) (by kernel_rfl) (by kernel_rfl) (by kernel_rfl) (by kernel_rfl) (fun _ _ _ h => h) HS0.out (Or.inl ⟨by rfl, fun w' hS' => ?_⟩) ?_
          · obtain ⟨s0, s1, s2, s3⟩ := hS'
            have t2 := s0.c2
            have v0 := s1.c0
            have v1 := s1.c1
            have v2 := s1.c2
            obtain ⟨p0, p1, p2, p3⟩ := s2
            obtain ⟨z0, z1, z2, z3, z4⟩ : w'.cell? ⟨w.heap.size + 1, 0, none⟩ = some (.int .i64 1) ∧ w'.cell? ⟨w.heap.size + 1, 1, none⟩ = some (.int .i64 (aa : Int)) ∧ w'.cell? ⟨w.heap.size + 1, 2, none⟩ = some (.int .i64 (bb : Int)) ∧ w'.cell? ⟨w.heap.size + 1, 3, none⟩ = some (.int .i64 (cc : Int)) ∧ w'.cell? ⟨w.heap.size + 1, 4, none⟩ = some (.int .i64 (dd : Int)) := OpAtB.cs s3
            go_simp
          simp only [Act.put, List.setIfInBounds_toArray, List.set_cons_zero, List.set_cons_succ]
          refine wpAnyT_take (i := 1) (d := 26) (v := .slice A' cnt c') rfl rfl (by kernel_rfl) (by kernel_rfl) (by kernel_rfl) (by kernel_rfl) (by kernel_rfl) (fun _ _ _ h => h) HS0.out (Or.inl ⟨by rfl, fun w' hS' => ?_⟩) ?_
          · obtain ⟨s0, s1, s2, s3⟩ := hS'
            have t2 := s0.c2
            have v0 := s1.c0
            have v1 := s1.c1
            have v2 := s1.c2
            obtain ⟨p0, p1, p2, p3⟩ := s2
            obtain ⟨z0, z1, z2, z3, z4⟩ : w'.cell? ⟨w.heap.size + 1, 0, none⟩ = some (.int .i64 1) ∧ w'.cell? ⟨w.heap.size + 1, 1, none⟩ = some (.int .i64 (aa : Int)) ∧ w'.cell? ⟨w.heap.size + 1, 2, none⟩ = some (.int .i64 (bb : Int)) ∧ w'.cell? ⟨w.heap.size + 1, 3, none⟩ = some (.int .i64 (cc : Int)) ∧ w'.cell? ⟨w.heap.size + 1, 4, none⟩ = some (.int .i64 (dd : Int)) := OpAtB.cs s3
            go_simp
          simp only [Act.put, List.setIfInBounds_toArray, List.set_cons_zero, List.set_cons_succ]
          refine wpAnyT_take (i := 2) (d := 27) (v := .pointer (some ⟨w.heap.size, 2, none⟩)) rfl rfl (by kernel_rfl) (by kernel_rfl) (by kernel_rfl) (by kernel_rfl) (by kernel_rfl) (fun _ _ _ h => h) HS0.out (Or.inl ⟨by rfl, fun w' hS' => ?_⟩) ?_
          · obtain ⟨s0, s1, s2, s3⟩ := hS'
            have t2 := s0.c2
            have v0 := s1.c0
            have v1 := s1.c1
            have v2 := s1.c2
            obtain ⟨p0, p1, p2, p3⟩ := s2
            obtain ⟨z0, z1, z2, z3, z4⟩ : w'.cell? ⟨w.heap.size + 1, 0, none⟩ = some (.int .i64 1) ∧ w'.cell? ⟨w.heap.size + 1, 1, none⟩ = some (.int .i64 (aa : Int)) ∧ w'.cell? ⟨w.heap.size + 1, 2, none⟩ = some (.int .i64 (bb : Int)) ∧ w'.cell? ⟨w.heap.size + 1, 3, none⟩ = some (.int .i64 (cc : Int)) ∧ w'.cell? ⟨w.heap.size + 1, 4, none⟩ = some (.int .i64 (dd : Int)) := OpAtB.cs s3
            go_simp
          simp only [Act.put, List.setIfInBounds_toArray, List.set_cons_zero, List.set_cons_succ]
          refine wpAnyT_take (i := 3) (d := 28) (v := .slice (some ⟨b, o, none⟩) n c) rfl rfl (by kernel_rfl) (by kernel_rfl) (by kernel_rfl) (by kernel_rfl) (by kernel_rfl) (fun _ _ _ h => h) HS0.out (Or.inl ⟨by rfl, fun w' hS' => ?_⟩) ?_
          · obtain ⟨s0, s1, s2, s3⟩ := hS'
            have t2 := s0.c2
            have v0 := s1.c0
            have v1 := s1.c1
            have v2 := s1.c2
            obtain ⟨p0, p1, p2, p3⟩ := s2
            obtain ⟨z0, z1, z2, z3, z4⟩ : w'.cell? ⟨w.heap.size + 1, 0, none⟩ = some (.int .i64 1) ∧ w'.cell? ⟨w.heap.size + 1, 1, none⟩ = some (.int .i64 (aa : Int)) ∧ w'.cell? ⟨w.heap.size + 1, 2, none⟩ = some (.int .i64 (bb : Int)) ∧ w'.cell? ⟨w.heap.size + 1, 3, none⟩ = some (.int .i64 (cc : Int)) ∧ w'.cell? ⟨w.heap.size + 1, 4, none⟩ = some (.int .i64 (dd : Int)) := OpAtB.cs s3
            go_simp
          simp only [Act.put, List.setIfInBounds_toArray, List.set_cons_zero, List.set_cons_succ]
          refine wpAnyT_take (i := 4) (d := 29) (v := .pointer (some ⟨w.heap.size + 1, 2, none⟩)) rfl rfl (by kernel_rfl) (by kernel_rfl) (by kernel_rfl) (by kernel_rfl) (by kernel_rfl) (fun _ _ _ h => h) HS0.out (Or.inl ⟨by rfl, fun w' hS' => ?_⟩) ?_
          · obtain ⟨s0, s1, s2, s3⟩ := hS'
            have t2 := s0.c2
            have v0 := s1.c0
            have v1 := s1.c1
            have v2 := s1.c2
            obtain ⟨p0, p1, p2, p3⟩ := s2
            obtain ⟨z0, z1, z2, z3, z4⟩ : w'.cell? ⟨w.heap.size + 1, 0, none⟩ = some (.int .i64 1) ∧ w'.cell? ⟨w.heap.size + 1, 1, none⟩ = some (.int .i64 (aa : Int)) ∧ w'.cell? ⟨w.heap.size + 1, 2, none⟩ = some (.int .i64 (bb : Int)) ∧ w'.cell? ⟨w.heap.size + 1, 3, none⟩ = some (.int .i64 (cc : Int)) ∧ w'.cell? ⟨w.heap.size + 1, 4, none⟩ = some (.int .i64 (dd : Int)) := OpAtB.cs s3
            go_simp
          simp only [Act.put, List.setIfInBounds_toArray, List.set_cons_zero, List.set_cons_succ]
          refine wpAnyT_take (i := 5) (d := 30) (v := .int .i64 (bb : Int)) rfl rfl (by kernel_rfl) (by kernel_rfl) (by kernel_rfl) (by kernel_rfl) (by kernel_rfl) (fun _ _ _ h => h) HS0.out (Or.inl ⟨by rfl, fun w' hS' => ?_⟩) ?_
          · obtain ⟨s0, s1, s2, s3⟩ := hS'
            have t2 := s0.c2
            have v0 := s1.c0
            have v1 := s1.c1
            have v2 := s1.c2
            obtain ⟨p0, p1, p2, p3⟩ := s2
            obtain ⟨z0, z1, z2, z3, z4⟩ : w'.cell? ⟨w.heap.size + 1, 0, none⟩ = some (.int .i64 1) ∧ w'.cell? ⟨w.heap.size + 1, 1, none⟩ = some (.int .i64 (aa : Int)) ∧ w'.cell? ⟨w.heap.size + 1, 2, none⟩ = some (.int .i64 (bb : Int)) ∧ w'.cell? ⟨w.heap.size + 1, 3, none⟩ = some (.int .i64 (cc : Int)) ∧ w'.cell? ⟨w.heap.size + 1, 4, none⟩ = some (.int .i64 (dd : Int)) := OpAtB.cs s3
            go_simp
          simp only [Act.put, List.setIfInBounds_toArray, List.set_cons_zero, List.set_cons_succ]
          refine wpAnyT_take (i := 6) (d := 31) (v := .int .i64 (k : Int)) rfl rfl (by kernel_rfl) (by kernel_rfl) (by kernel_rfl) (by kernel_rfl) (by kernel_rfl) (fun _ _ _ h => h) HS0.out (Or.inl ⟨by rfl, fun w' hS' => ?_⟩) ?_
          · obtain ⟨s0, s1, s2, s3⟩ := hS'
            have t2 := s0.c2
            have v0 := s1.c0
            have v1 := s1.c1
            have v2 := s1.c2
            obtain ⟨p0, p1, p2, p3⟩ := s2
            obtain ⟨z0, z1, z2, z3, z4⟩ : w'.cell? ⟨w.heap.size + 1, 0, none⟩ = some (.int .i64 1) ∧ w'.cell? ⟨w.heap.size + 1, 1, none⟩ = some (.int .i64 (aa : Int)) ∧ w'.cell? ⟨w.heap.size + 1, 2, none⟩ = some (.int .i64 (bb : Int)) ∧ w'.cell? ⟨w.heap.size + 1, 3, none⟩ = some (.int .i64 (cc : Int)) ∧ w'.cell? ⟨w.heap.size + 1, 4, none⟩ = some (.int .i64 (dd : Int)) := OpAtB.cs s3
            go_simp
          simp only [Act.put, List.setIfInBounds_toArray, List.set_cons_zero, List.set_cons_succ]
          refine wpAnyT_take (i := 7) (d := 32) (v := .int .i64 (M : Int)) rfl rfl (by kernel_rfl) (by kernel_rfl) (by kernel_rfl) (by kernel_rfl) (by kernel_rfl) (fun _ _ _ h => h) HS0.out (Or.inl ⟨by rfl, fun w' hS' => ?_⟩) ?_
          · obtain ⟨s0, s1, s2, s3⟩ := hS'
            have t2 := s0.c2
            have v0 := s1.c0
            have v1 := s1.c1
            have v2 := s1.c2
            obtain ⟨p0, p1, p2, p3⟩ := s2
            obtain ⟨z0, z1, z2, z3, z4⟩ : w'.cell? ⟨w.heap.size + 1, 0, none⟩ = some (.int .i64 1) ∧ w'.cell? ⟨w.heap.size + 1, 1, none⟩ = some (.int .i64 (aa : Int)) ∧ w'.cell? ⟨w.heap.size + 1, 2, none⟩ = some (.int .i64 (bb : Int)) ∧ w'.cell? ⟨w.heap.size + 1, 3, none⟩ = some (.int .i64 (cc : Int)) ∧ w'.cell? ⟨w.heap.size + 1, 4, none⟩ = some (.int .i64 (dd : Int)) := OpAtB.cs s3
            go_simp
          simp only [Act.put, List.setIfInBounds_toArray, List.set_cons_zero, List.set_cons_succ]
          refine wpAnyT_take (i := 8) (d := 33) (v := .pointer (some ⟨w.heap.size, 0, none⟩)) rfl rfl (by kernel_rfl) (by kernel_rfl) (by kernel_rfl) (by kernel_rfl) (by kernel_rfl) (fun _ _ _ h => h) HS0.out (Or.inl ⟨by rfl, fun w' hS' => ?_⟩) ?_
          · obtain ⟨s0, s1, s2, s3⟩ := hS'
            have t2 := s0.c2
            have v0 := s1.c0
            have v1 := s1.c1
            have v2 := s1.c2
            obtain ⟨p0, p1, p2, p3⟩ := s2
            obtain ⟨z0, z1, z2, z3, z4⟩ : w'.cell? ⟨w.heap.size + 1, 0, none⟩ = some (.int .i64 1) ∧ w'.cell? ⟨w.heap.size + 1, 1, none⟩ = some (.int .i64 (aa : Int)) ∧ w'.cell? ⟨w.heap.size + 1, 2, none⟩ = some (.int .i64 (bb : Int)) ∧ w'.cell? ⟨w.heap.size + 1, 3, none⟩ = some (.int .i64 (cc : Int)) ∧ w'.cell? ⟨w.heap.size + 1, 4, none⟩ = some (.int .i64 (dd : Int)) := OpAtB.cs s3
            go_simp
          simp only [Act.put, List.setIfInBounds_toArray, List.set_cons_zero, List.set_cons_succ]
          refine wpAnyT_take (i := 9) (d := 34) (v := .int .i64 (W : Int)) rfl rfl (by kernel_rfl) (by kernel_rfl) (by kernel_rfl) (by kernel_rfl) (by kernel_rfl) (fun _ _ _ h => h) HS0.out (Or.inl ⟨by rfl, fun w' hS' => ?_⟩) ?_
          · obtain ⟨s0, s1, s2, s3⟩ := hS'
            have t2 := s0.c2
            have v0 := s1.c0
            have v1 := s1.c1
            have v2 := s1.c2
            obtain ⟨p0, p1, p2, p3⟩ := s2
            obtain ⟨z0, z1, z2, z3, z4⟩ : w'.cell? ⟨w.heap.size + 1, 0, none⟩ = some (.int .i64 1) ∧ w'.cell? ⟨w.heap.size + 1, 1, none⟩ = some (.int .i64 (aa : Int)) ∧ w'.cell? ⟨w.heap.size + 1, 2, none⟩ = some (.int .i64 (bb : Int)) ∧ w'.cell? ⟨w.heap.size + 1, 3, none⟩ = some (.int .i64 (cc : Int)) ∧ w'.cell? ⟨w.heap.size + 1, 4, none⟩ = some (.int .i64 (dd : Int)) := OpAtB.cs s3
            go_simp
          simp only [Act.put, List.setIfInBounds_toArray, List.set_cons_zero, List.set_cons_succ]
          refine wpAnyT_take (i := 10) (d := 35) (v := .int .i64 (P : Int)) rfl rfl (by kernel_rfl) (by kernel_rfl) (by kernel_rfl) (by kernel_rfl) (by kernel_rfl) (fun _ _ _ h => h) HS0.out (Or.inl ⟨by rfl, fun w' hS' => ?_⟩) ?_
          · obtain ⟨s0, s1, s2, s3⟩ := hS'
            have t2 := s0.c2
            have v0 := s1.c0
            have v1 := s1.c1
            have v2 := s1.c2
            obtain ⟨p0, p1, p2, p3⟩ := s2
            obtain ⟨z0, z1, z2, z3, z4⟩ : w'.cell? ⟨w.heap.size + 1, 0, none⟩ = some (.int .i64 1) ∧ w'.cell? ⟨w.heap.size + 1, 1, none⟩ = some (.int .i64 (aa : Int)) ∧ w'.cell? ⟨w.heap.size + 1, 2, none⟩ = some (.int .i64 (bb : Int)) ∧ w'.cell? ⟨w.heap.size + 1, 3, none⟩ = some (.int .i64 (cc : Int)) ∧ w'.cell? ⟨w.heap.size + 1, 4, none⟩ = some (.int .i64 (dd : Int)) := OpAtB.cs s3
            go_simp
          simp only [Act.put, List.setIfInBounds_toArray, List.set_cons_zero, List.set_cons_succ]
          refine wpAnyT_take (i := 11) (d := 36) (v := .pointer (some ⟨w.heap.size + 1, 1, none⟩)) rfl rfl (by kernel_rfl) (by kernel_rfl) (by kernel_rfl) (by kernel_rfl) (by kernel_rfl) (fun _ _ _ h => h) HS0.out (Or.inl ⟨by rfl, fun w' hS' => ?_⟩) ?_
          · obtain ⟨s0, s1, s2, s3⟩ := hS'
            have t2 := s0.c2
            have v0 := s1.c0
            have v1 := s1.c1
            have v2 := s1.c2
            obtain ⟨p0, p1, p2, p3⟩ := s2
            obtain ⟨z0, z1, z2, z3, z4⟩ : w'.cell? ⟨w.heap.size + 1, 0, none⟩ = some (.int .i64 1) ∧ w'.cell? ⟨w.heap.size + 1, 1, none⟩ = some (.int .i64 (aa : Int)) ∧ w'.cell? ⟨w.heap.size + 1, 2, none⟩ = some (.int .i64 (bb : Int)) ∧ w'.cell? ⟨w.heap.size + 1, 3, none⟩ = some (.int .i64 (cc : Int)) ∧ w'.cell? ⟨w.heap.size + 1, 4, none⟩ = some (.int .i64 (dd : Int)) := OpAtB.cs s3
            go_simp
          simp only [Act.put, List.setIfInBounds_toArray, List.set_cons_zero, List.set_cons_succ]
          refine wpAnyT_take (i := 12) (d := 37) (v := .int .i64 (aa : Int)) rfl rfl (by kernel_rfl) (by kernel_rfl) (by kernel_rfl) (by kernel_rfl) (by kernel_rfl) (fun _ _ _ h => h) HS0.out (Or.inl ⟨by rfl, fun w' hS' => ?_⟩) ?_
          · obtain ⟨s0, s1, s2, s3⟩ := hS'
            have t2 := s0.c2
            have v0 := s1.c0
            have v1 := s1.c1
            have v2 := s1.c2
            obtain ⟨p0, p1, p2, p3⟩ := s2
            obtain ⟨z0, z1, z2, z3, z4⟩ : w'.cell? ⟨w.heap.size + 1, 0, none⟩ = some (.int .i64 1) ∧ w'.cell? ⟨w.heap.size + 1, 1, none⟩ = some (.int .i64 (aa : Int)) ∧ w'.cell? ⟨w.heap.size + 1, 2, none⟩ = some (.int .i64 (bb : Int)) ∧ w'.cell? ⟨w.heap.size + 1, 3, none⟩ = some (.int .i64 (cc : Int)) ∧ w'.cell? ⟨w.heap.size + 1, 4, none⟩ = some (.int .i64 (dd : Int)) := OpAtB.cs s3
            go_simp
          simp only [Act.put, List.setIfInBounds_toArray, List.set_cons_zero, List.set_cons_succ]
          refine wpAnyT_take (i := 13) (d := 38) (v := .int .i64 (Q : Int)) rfl rfl (by kernel_rfl) (by kernel_rfl) (by kernel_rfl) (by kernel_rfl) (by kernel_rfl) (fun _ _ _ h => h) HS0.out (Or.inl ⟨by rfl, fun w' hS' => ?_⟩) ?_
          · obtain ⟨s0, s1, s2, s3⟩ := hS'
            have t2 := s0.c2
            have v0 := s1.c0
            have v1 := s1.c1
            have v2 := s1.c2
            obtain ⟨p0, p1, p2, p3⟩ := s2
            obtain ⟨z0, z1, z2, z3, z4⟩ : w'.cell? ⟨w.heap.size + 1, 0, none⟩ = some (.int .i64 1) ∧ w'.cell? ⟨w.heap.size + 1, 1, none⟩ = some (.int .i64 (aa : Int)) ∧ w'.cell? ⟨w.heap.size + 1, 2, none⟩ = some (.int .i64 (bb : Int)) ∧ w'.cell? ⟨w.heap.size + 1, 3, none⟩ = some (.int .i64 (cc : Int)) ∧ w'.cell? ⟨w.heap.size + 1, 4, none⟩ = some (.int .i64 (dd : Int)) := OpAtB.cs s3
            go_simp
          simp only [Act.put, List.setIfInBounds_toArray, List.set_cons_zero, List.set_cons_succ]
          refine wpAnyT_take (i := 14) (d := 39) (v := .int .i64 (j : Int)) rfl rfl (by kernel_rfl) (by kernel_rfl) (by kernel_rfl) (by kernel_rfl) (by kernel_rfl) (fun _ _ _ h => h) HS0.out (Or.inl ⟨by rfl, fun w' hS' => ?_⟩) ?_
          · obtain ⟨s0, s1, s2, s3⟩ := hS'
            have t2 := s0.c2
            have v0 := s1.c0
            have v1 := s1.c1
            have v2 := s1.c2
            obtain ⟨p0, p1, p2, p3⟩ := s2
            obtain ⟨z0, z1, z2, z3, z4⟩ : w'.cell? ⟨w.heap.size + 1, 0, none⟩ = some (.int .i64 1) ∧ w'.cell? ⟨w.heap.size + 1, 1, none⟩ = some (.int .i64 (aa : Int)) ∧ w'.cell? ⟨w.heap.size + 1, 2, none⟩ = some (.int .i64 (bb : Int)) ∧ w'.cell? ⟨w.heap.size + 1, 3, none⟩ = some (.int .i64 (cc : Int)) ∧ w'.cell? ⟨w.heap.size + 1, 4, none⟩ = some (.int .i64 (dd : Int)) := OpAtB.cs s3
            go_simp
          simp only [Act.put, List.setIfInBounds_toArray, List.set_cons_zero, List.set_cons_succ]
          refine wpAnyT_take (i := 15) (d := 40) (v := .int .i64 (I : Int)) rfl rfl (by kernel_rfl) (by kernel_rfl) (by kernel_rfl) (by kernel_rfl) (by kernel_rfl) (fun _ _ _ h => h) HS0.out (Or.inl ⟨by rfl, fun w' hS' => ?_⟩) ?_
          · obtain ⟨s0, s1, s2, s3⟩ := hS'
            have t2 := s0.c2
            have v0 := s1.c0
            have v1 := s1.c1
            have v2 := s1.c2
            obtain ⟨p0, p1, p2, p3⟩ := s2
            obtain ⟨z0, z1, z2, z3, z4⟩ : w'.cell? ⟨w.heap.size + 1, 0, none⟩ = some (.int .i64 1) ∧ w'.cell? ⟨w.heap.size + 1, 1, none⟩ = some (.int .i64 (aa : Int)) ∧ w'.cell? ⟨w.heap.size + 1, 2, none⟩ = some (.int .i64 (bb : Int)) ∧ w'.cell? ⟨w.heap.size + 1, 3, none⟩ = some (.int .i64 (cc : Int)) ∧ w'.cell? ⟨w.heap.size + 1, 4, none⟩ = some (.int .i64 (dd : Int)) := OpAtB.cs s3
            go_simp
          simp only [Act.put, List.setIfInBounds_toArray, List.set_cons_zero, List.set_cons_succ]
          refine wpAnyT_take (i := 16) (d := 41) (v := .pointer (some ⟨b, o + I * 4, none⟩)) rfl rfl (by kernel_rfl) (by kernel_rfl) (by kernel_rfl) (by kernel_rfl) (by kernel_rfl) (fun _ _ _ h => h) HS0.out (Or.inl ⟨by rfl, fun w' hS' => ?_⟩) ?_
          · obtain ⟨s0, s1, s2, s3⟩ := hS'
            have t2 := s0.c2
            have v0 := s1.c0
            have v1 := s1.c1
            have v2 := s1.c2
            obtain ⟨p0, p1, p2, p3⟩ := s2
            obtain ⟨z0, z1, z2, z3, z4⟩ : w'.cell? ⟨w.heap.size + 1, 0, none⟩ = some (.int .i64 1) ∧ w'.cell? ⟨w.heap.size + 1, 1, none⟩ = some (.int .i64 (aa : Int)) ∧ w'.cell? ⟨w.heap.size + 1, 2, none⟩ = some (.int .i64 (bb : Int)) ∧ w'.cell? ⟨w.heap.size + 1, 3, none⟩ = some (.int .i64 (cc : Int)) ∧ w'.cell? ⟨w.heap.size + 1, 4, none⟩ = some (.int .i64 (dd : Int)) := OpAtB.cs s3
            go_simp
          simp only [Act.put, List.setIfInBounds_toArray, List.set_cons_zero, List.set_cons_succ]
          refine wpAnyT_take (i := 17) (d := 42) (v := .agg #[.int .i64 p.r, .int .i64 p.g, .int .i64 p.b, .int .i64 p.a]) rfl rfl (by kernel_rfl) (by kernel_rfl) (by kernel_rfl) (by kernel_rfl) (by kernel_rfl) (fun _ _ _ h => h) HS0.out (Or.inl ⟨by rfl, fun w' hS' => ?_⟩) ?_
          · obtain ⟨s0, s1, s2, s3⟩ := hS'
            have t2 := s0.c2
            have v0 := s1.c0
            have v1 := s1.c1
            have v2 := s1.c2
            obtain ⟨p0, p1, p2, p3⟩ := s2
            obtain ⟨z0, z1, z2, z3, z4⟩ : w'.cell? ⟨w.heap.size + 1, 0, none⟩ = some (.int .i64 1) ∧ w'.cell? ⟨w.heap.size + 1, 1, none⟩ = some (.int .i64 (aa : Int)) ∧ w'.cell? ⟨w.heap.size + 1, 2, none⟩ = some (.int .i64 (bb : Int)) ∧ w'.cell? ⟨w.heap.size + 1, 3, none⟩ = some (.int .i64 (cc : Int)) ∧ w'.cell? ⟨w.heap.size + 1, 4, none⟩ = some (.int .i64 (dd : Int)) := OpAtB.cs s3
            go_simp
          simp only [Act.put, List.setIfInBounds_toArray, List.set_cons_zero, List.set_cons_succ]
          refine wpAnyT_one (i := 18) (by kernel_rfl) rfl (fun K hK => ?_)
          go_simp
          refine hK.out _ _ (fun _ => HSb.out _ BA) ?_
          clear hK
          try simp only [Act.put, List.setIfInBounds_toArray]
          refine wpAnyT_one (i := 19) (by kernel_rfl) rfl (fun K hK => ?_)
          refine El.step_append (E := pxE) 28 Tryd.underlying28 rfl (.tmp 26) (.tmp 43) rfl (w.heap.size + 1 + 1 + 1 + 1) (.slice A' cnt c') (tab cc (k * cc + j) f) rfl HOA.out ⟨G, 0, none⟩ 1 1 [p] rfl rfl (Box.news (E := pxE) (x := p) HBX.out) (by decide) (by omega) (by simp; omega) (G + 1) (by simp [hG]) ?_
          intro g cap w5 hown5 hgr5 hg5 hcap5
          have b5 : Below (w.heap.size + 1 + 1 + 1 + 1) wr.drew w5 := BA3.grown hgr5 (by simp; omega) (fun q e => (World.ownsRow.lt HOd.out q e).1)
          refine hK.out _ _ (fun _ => HS3.out _ b5) ?_
          clear hK
          try simp only [Act.put, List.setIfInBounds_toArray]
          refine wpAnyT_one (i := 20) (by kernel_rfl) rfl (fun K hK => ?_)
          go_simp
          refine hK.out _ _ (fun _ => HS3.out _ b5) ?_
          clear hK
          try simp only [Act.put, List.setIfInBounds_toArray, List.set_cons_zero, List.set_cons_succ]
          refine wpAnyT_one (i := 21) (by kernel_rfl) rfl (fun K hK => ?_)
          have hx5 : RasAtB w5 (w.heap.size + 1 + 1 + 1) (cc : Int) (dd : Int) A' cnt c' 30 := (HS3.out _ b5).1
          have q2 := hx5.c2
          have f2 := hx5.free 2
          go_simp
          refine hK.out _ _ last_out ?_
          clear hK
          refine wpAnyT_done (by kernel_rfl) ?_ _
          have hl1 : (tab cc (k * cc + j) f).length + 1 = k * cc + (j + 1) := by rw [tab_length]; omega
          have hx6 : RasAtB (w5.setCell ⟨w.heap.size + 1 + 1 + 1, 2, none⟩ (.slice (some ⟨g, 0, none⟩) ((tab cc (k * cc + j) f).length + 1) cap)) (w.heap.size + 1 + 1 + 1) (cc : Int) (dd : Int) (some ⟨g, 0, none⟩) ((tab cc (k * cc + j) f).length + 1) cap 30 := hx5.set2 _ _ _
          have hr6 : RasAtB (w5.setCell ⟨w.heap.size + 1 + 1 + 1, 2, none⟩ (.slice (some ⟨g, 0, none⟩) ((tab cc (k * cc + j) f).length + 1) cap)) w.heap.size (W : Int) (H : Int) (some ⟨b, o, none⟩) n c 30 := (HS3.out _ b5).2.1.set_other (by omega) 2 _
          have hz6 : RasAtB (w5.setCell ⟨w.heap.size + 1 + 1 + 1, 2, none⟩ (.slice (some ⟨g, 0, none⟩) ((tab cc (k * cc + j) f).length + 1) cap)) (w.heap.size + 1 + 1) 0 0 none 0 0 30 := (Box.below HZd.out b5 (by omega)).set_other (by omega) 2 _
          have hq6 : OpAtB (w5.setCell ⟨w.heap.size + 1 + 1 + 1, 2, none⟩ (.slice (some ⟨g, 0, none⟩) ((tab cc (k * cc + j) f).length + 1) cap)) (w.heap.size + 1) (cO (aa : Int) (bb : Int) (cc : Int) (dd : Int)) := Box.set_other (b := w.heap.size + 1 + 1 + 1) (HS3.out _ b5).2.2.2 (by omega) 2 _
          have ho6 : OwnP (w5.setCell ⟨w.heap.size + 1 + 1 + 1, 2, none⟩ (.slice (some ⟨g, 0, none⟩) ((tab cc (k * cc + j) f).length + 1) cap)) (w.heap.size + 1 + 1 + 1 + 1) (.slice (some ⟨g, 0, none⟩) ((tab cc (k * cc + j) f).length + 1) cap) (tab cc (k * cc + (j + 1)) f) := by
            rw [HTS.out]
            exact OwnP.set_low (own_px.1 hown5) (by omega) 2 _
          have hb6 : Below w.heap.size w (w5.setCell ⟨w.heap.size + 1 + 1 + 1, 2, none⟩ (.slice (some ⟨g, 0, none⟩) ((tab cc (k * cc + j) f).length + 1) cap)) := (HBd.out.trans (b5.mono (by omega))).setCell (p := ⟨w.heap.size + 1 + 1 + 1, 2, none⟩) (by simp; omega) _
          have hs6 : w.heap.size + 1 + 1 + 1 + 1 ≤ (w5.setCell ⟨w.heap.size + 1 + 1 + 1, 2, none⟩ (.slice (some ⟨g, 0, none⟩) ((tab cc (k * cc + j) f).length + 1) cap)).heap.size := by
            have := b5.size
            simp
            omega
          have HE := Lib.hid (And.intro hl1 (And.intro ho6 (And.intro hx6 (And.intro hz6 (And.intro hr6 (And.intro hb6 (And.intro hs6 hq6)))))))
          clear hl1 hx6 hr6 hz6 ho6 hb6 hs6 hown5 hgr5 hg5 hcap5 b5 hx5 q2 f2 hq6 u2 u3 u4 u5 hMe hPe hQe hIe hP36
          go_wp2_with fail
          go_roundw
          case rel => exact ⟨j + 1, by omega, by go_num, _, _, _, HE.out.1, HE.out.2.1, HE.out.2.2.1, HE.out.2.2.2.1, HE.out.2.2.2.2.1, HE.out.2.2.2.2.2.1, HE.out.2.2.2.2.2.2.1, HE.out.2.2.2.2.2.2.2⟩
          case measure => simp [intOf]; omega
        · obtain rfl : j = cc := by omega
          have HO : Hid (OwnP wr (w.heap.size + 1 + 1 + 1 + 1) (.slice A' cnt c') (tab j ((k + 1) * j) f)) := Lib.hid (by rw [Nat.add_mul, Nat.one_mul]; exact hown)
          have HCN : Hid (cnt = (k + 1) * j) := Lib.hid (by rw [Nat.add_mul, Nat.one_mul]; exact hcnt)
          have HX := Lib.hid hX
          have HZ := Lib.hid hZ
          have HR := Lib.hid hR
          have HB := Lib.hid hbel
          have HOP := Lib.hid hO
          clear hown hcnt hX hZ hR hbel hO
          go_wp2_with fail
          go_roundw
          case rel => exact ⟨k + 1, by omega, by go_num, A', c', cnt, HCN.out, HO.out, HX.out, HZ.out, HR.out, HB.out, hsz, HOP.out⟩
          case measure => simp [intOf]; omega
    · obtain rfl : k = dd := by omega
      have hT : tab cc (k * cc) f = tp := by rw [HTP.out, Nat.mul_comm]
      have hcl : cnt = tp.length := by rw [hcnt, ← hT, tab_length]
      rw [hT] at hown
      rw [hcl] at hown hX
      have hc' : tp.length ≤ c' := (El.Own.len (E := pxE) hown).2
      have HZ := Lib.hid hZ
      have HE := Lib.hid (HG.out A' c' _ hc' (OwnP.lower (((OwnP.set_low hown (b := w.heap.size + 1 + 1) (by omega) 0 (.int .i64 (cc : Int))).set_low (b := w.heap.size + 1 + 1) (by omega) 1 (.int .i64 (k : Int))).set_low (b := w.heap.size + 1 + 1) (by omega) 2 (.slice A' tp.length c')) (by omega)) (((hbel.setCell (p := ⟨w.heap.size + 1 + 1, 0, none⟩) (by simp; omega) (.int .i64 (cc : Int))).setCell (p := ⟨w.heap.size + 1 + 1, 1, none⟩) (by simp; omega) (.int .i64 (k : Int))).setCell (p := ⟨w.heap.size + 1 + 1, 2, none⟩) (by simp; omega) (.slice A' tp.length c')))
      have x0 := hX.c0
      have x2 := hX.c2
      have z0 := hZ.c0
      have z1 := hZ.c1
      have z2 := hZ.c2
      have f0 := hZ.free 0
      have f1 := hZ.free 1
      have f2 := hZ.free 2
      clear hown hcnt hcl hT hX hZ hR hbel hc'
      go_wp2_with fail
      (try simp only [Exit.inBlock, Exit.then])
      refine bodyPost_ret (results_cell_row rfl _ _ (w.heap.size + 1 + 1) 30 #[.int .i64 (cc : Int), .int .i64 (k : Int), .slice A' tp.length c'] (0, 0) _ rfl (fin_ras HZ.out _ _ _) Tryd.underlying30 rfl (by kernel_rfl)) rfl ?_
      exact HE.out
end Go.Proofs.YtiemlakjallphabDoor
namespace Go.Proofs.YtiemlakjallphabDoor
set_option maxRecDepth 4000
open Go.RowKit

set_option maxHeartbeats 8000000 in
theorem l6Size_any (r : Ra) (aa bb : Nat) (A : Option Addr) (c : Nat) (w : World) (hr : r.ok) (haa : 1 ≤ aa ∧ aa ≤ 6) (hbb : 1 ≤ bb ∧ bb ≤ 6) (h : HasP w w.heap.size A r.p) :
    Calls Tryd.prog 65 #[raV r A c, (sO (aa : Int) (bb : Int)).v] w (Drawn (sizeR r aa bb) w) := by
  obtain ⟨hw6, hh6, hl, -⟩ := hr.parts
  have hlen := ra_len hr
  obtain ⟨b, o, -, rfl, hbl, -, -⟩ := h.spot (k := 0) (by omega)
  have HPX : Hid (∀ x y, x < (sizeR r aa bb).w → y < (sizeR r aa bb).h → r.p[(2 * y + 1) * r.h / (2 * bb) * r.w + (2 * x + 1) * r.w / (2 * aa)]? = some ((fun x y => r.at ((2 * x + 1) * r.w / (2 * aa)) ((2 * y + 1) * r.h / (2 * bb))) x y)) := Lib.hid fun x y hx hy => (hr.at (pick_lt hr.parts.1.1 (show x < aa from hx)) (pick_lt hr.parts.2.1.1 (show y < bb from hy))).1
  have HG : Hid (∀ A' c' w', (sizeR r aa bb).p.length ≤ c' → OwnP w' w.heap.size (.slice A' (sizeR r aa bb).p.length c') (sizeR r aa bb).p → Below w.heap.size w w' → Drawn (sizeR r aa bb) w (.returned (.agg #[.int .i64 ((sizeR r aa bb).w : Int), .int .i64 ((sizeR r aa bb).h : Int), .slice A' (sizeR r aa bb).p.length c'])) w') := Lib.hid fun A' c' w' k1 k2 k3 => ⟨A', c', rfl, k1, k2, k3⟩
  have HTP : Hid ((sizeR r aa bb).p = tab (sizeR r aa bb).w ((sizeR r aa bb).w * (sizeR r aa bb).h) (fun x y => r.at ((2 * x + 1) * r.w / (2 * aa)) ((2 * y + 1) * r.h / (2 * bb)))) := Lib.hid rfl
  generalize Drawn (sizeR r aa bb) w = D at *
  generalize (sizeR r aa bb).p = tp at *
  change Hid (∀ x y, x < aa → y < bb → r.p[(2 * y + 1) * r.h / (2 * bb) * r.w + (2 * x + 1) * r.w / (2 * aa)]? = some ((fun x y => r.at ((2 * x + 1) * r.w / (2 * aa)) ((2 * y + 1) * r.h / (2 * bb))) x y)) at HPX
  change Hid (∀ A' c' w', tp.length ≤ c' → OwnP w' w.heap.size (.slice A' tp.length c') tp → Below w.heap.size w w' → D (.returned (.agg #[.int .i64 ((aa : Nat) : Int), .int .i64 ((bb : Nat) : Int), .slice A' tp.length c'])) w') at HG
  change Hid (tp = tab aa (aa * bb) (fun x y => r.at ((2 * x + 1) * r.w / (2 * aa)) ((2 * y + 1) * r.h / (2 * bb)))) at HTP
  unfold raV rasV
  obtain ⟨f, hf⟩ : ∃ f : Nat → Nat → Px, (fun x y => r.at ((2 * x + 1) * r.w / (2 * aa)) ((2 * y + 1) * r.h / (2 * bb))) = f := ⟨_, rfl⟩
  rw [hf] at HTP HPX
  clear hf
  obtain ⟨W, hW⟩ : ∃ W, r.w = W := ⟨_, rfl⟩
  obtain ⟨H, hH⟩ : ∃ H, r.h = H := ⟨_, rfl⟩
  obtain ⟨n, hn⟩ : ∃ n, r.p.length = n := ⟨_, rfl⟩
  obtain ⟨pl, hpl⟩ : ∃ pl, r.p = pl := ⟨_, rfl⟩
  simp only [hW, hH] at *
  rw [hpl] at HPX
  rw [hn] at hlen hl
  rw [hpl] at h
  rw [hn]
  have HNL : Hid (pl.length = n) := Lib.hid (by rw [← hpl]; exact hn)
  clear hr hW hH hn hpl hl
  have hRW6 : aa ≤ 6 := by omega
  have hRH6 : bb ≤ 6 := by omega
  have hb0 : Below w.heap.size w ((((w.alloc (.cells #[.int .i64 (W : Int), .int .i64 (H : Int), .slice (some ⟨b, o, none⟩) n c] 30)).alloc (.cells #[.int .i64 7, .int .i64 (aa : Int), .int .i64 (bb : Int), .int .i64 0, .int .i64 0] 49)).alloc (.cells #[.int .i64 0, .int .i64 0, .slice none 0 0] 30)).alloc (.cells #[.int .i64 (aa : Int), .int .i64 (bb : Int), .slice none 0 0] 30)) := (((((Below.refl _ w).alloc (Nat.le_refl _) _).alloc (by simp) _).alloc (by simp; omega) _).alloc (by simp; omega) _)
  have hR0 : RasAtB ((((w.alloc (.cells #[.int .i64 (W : Int), .int .i64 (H : Int), .slice (some ⟨b, o, none⟩) n c] 30)).alloc (.cells #[.int .i64 7, .int .i64 (aa : Int), .int .i64 (bb : Int), .int .i64 0, .int .i64 0] 49)).alloc (.cells #[.int .i64 0, .int .i64 0, .slice none 0 0] 30)).alloc (.cells #[.int .i64 (aa : Int), .int .i64 (bb : Int), .slice none 0 0] 30)) w.heap.size (W : Int) (H : Int) (some ⟨b, o, none⟩) n c 30 := Box.alloc (Box.alloc (Box.alloc (Box.new w _ _) _) _) _
  have hO0 : OpAtB ((((w.alloc (.cells #[.int .i64 (W : Int), .int .i64 (H : Int), .slice (some ⟨b, o, none⟩) n c] 30)).alloc (.cells #[.int .i64 7, .int .i64 (aa : Int), .int .i64 (bb : Int), .int .i64 0, .int .i64 0] 49)).alloc (.cells #[.int .i64 0, .int .i64 0, .slice none 0 0] 30)).alloc (.cells #[.int .i64 (aa : Int), .int .i64 (bb : Int), .slice none 0 0] 30)) (w.heap.size + 1) (sO (aa : Int) (bb : Int)) := by
    refine Box.alloc (Box.alloc ?_ _) _
    have := Box.new (w.alloc (.cells #[.int .i64 (W : Int), .int .i64 (H : Int), .slice (some ⟨b, o, none⟩) n c] 30)) #[.int .i64 7, .int .i64 (aa : Int), .int .i64 (bb : Int), .int .i64 0, .int .i64 0] 49
    rw [show (w.alloc (.cells #[.int .i64 (W : Int), .int .i64 (H : Int), .slice (some ⟨b, o, none⟩) n c] 30)).heap.size = w.heap.size + 1 from by simp] at this
    exact this
  have hZ0 : RasAtB ((((w.alloc (.cells #[.int .i64 (W : Int), .int .i64 (H : Int), .slice (some ⟨b, o, none⟩) n c] 30)).alloc (.cells #[.int .i64 7, .int .i64 (aa : Int), .int .i64 (bb : Int), .int .i64 0, .int .i64 0] 49)).alloc (.cells #[.int .i64 0, .int .i64 0, .slice none 0 0] 30)).alloc (.cells #[.int .i64 (aa : Int), .int .i64 (bb : Int), .slice none 0 0] 30)) (w.heap.size + 1 + 1) 0 0 none 0 0 30 := by
    refine Box.alloc ?_ _
    have := Box.new ((w.alloc (.cells #[.int .i64 (W : Int), .int .i64 (H : Int), .slice (some ⟨b, o, none⟩) n c] 30)).alloc (.cells #[.int .i64 7, .int .i64 (aa : Int), .int .i64 (bb : Int), .int .i64 0, .int .i64 0] 49)) #[.int .i64 0, .int .i64 0, .slice none 0 0] 30
    rw [show ((w.alloc (.cells #[.int .i64 (W : Int), .int .i64 (H : Int), .slice (some ⟨b, o, none⟩) n c] 30)).alloc (.cells #[.int .i64 7, .int .i64 (aa : Int), .int .i64 (bb : Int), .int .i64 0, .int .i64 0] 49)).heap.size = w.heap.size + 1 + 1 from by simp] at this
    exact this
  have hX0 : RasAtB ((((w.alloc (.cells #[.int .i64 (W : Int), .int .i64 (H : Int), .slice (some ⟨b, o, none⟩) n c] 30)).alloc (.cells #[.int .i64 7, .int .i64 (aa : Int), .int .i64 (bb : Int), .int .i64 0, .int .i64 0] 49)).alloc (.cells #[.int .i64 0, .int .i64 0, .slice none 0 0] 30)).alloc (.cells #[.int .i64 (aa : Int), .int .i64 (bb : Int), .slice none 0 0] 30)) (w.heap.size + 1 + 1 + 1) (aa : Int) (bb : Int) none 0 0 30 := by
    have := Box.new (((w.alloc (.cells #[.int .i64 (W : Int), .int .i64 (H : Int), .slice (some ⟨b, o, none⟩) n c] 30)).alloc (.cells #[.int .i64 7, .int .i64 (aa : Int), .int .i64 (bb : Int), .int .i64 0, .int .i64 0] 49)).alloc (.cells #[.int .i64 0, .int .i64 0, .slice none 0 0] 30)) #[.int .i64 (aa : Int), .int .i64 (bb : Int), .slice none 0 0] 30
    rw [show (((w.alloc (.cells #[.int .i64 (W : Int), .int .i64 (H : Int), .slice (some ⟨b, o, none⟩) n c] 30)).alloc (.cells #[.int .i64 7, .int .i64 (aa : Int), .int .i64 (bb : Int), .int .i64 0, .int .i64 0] 49)).alloc (.cells #[.int .i64 0, .int .i64 0, .slice none 0 0] 30)).heap.size = w.heap.size + 1 + 1 + 1 from by simp] at this
    exact this
  have hsz : w.heap.size + 1 + 1 + 1 + 1 ≤ ((((w.alloc (.cells #[.int .i64 (W : Int), .int .i64 (H : Int), .slice (some ⟨b, o, none⟩) n c] 30)).alloc (.cells #[.int .i64 7, .int .i64 (aa : Int), .int .i64 (bb : Int), .int .i64 0, .int .i64 0] 49)).alloc (.cells #[.int .i64 0, .int .i64 0, .slice none 0 0] 30)).alloc (.cells #[.int .i64 (aa : Int), .int .i64 (bb : Int), .slice none 0 0] 30)).heap.size := by simp
  have HB0 := Lib.hid hb0
  have HR0 := Lib.hid hR0
  have HZ0 := Lib.hid hZ0
  have HX0 := Lib.hid hX0
  have HSZ := Lib.hid hsz
  have HH := Lib.hid h
  have HOP0 := Lib.hid hO0
  clear hb0 hR0 hZ0 hX0 hsz h hO0
  unfold Op.v sO
  dsimp only
  go_enter Tryd.func65, Tryd.ntmps65
  go_wp2_with fail
  generalize ((((w.alloc (.cells #[.int .i64 (W : Int), .int .i64 (H : Int), .slice (some ⟨b, o, none⟩) n c] 30)).alloc (.cells #[.int .i64 7, .int .i64 (aa : Int), .int .i64 (bb : Int), .int .i64 0, .int .i64 0] 49)).alloc (.cells #[.int .i64 0, .int .i64 0, .slice none 0 0] 30)).alloc (.cells #[.int .i64 (aa : Int), .int .i64 (bb : Int), .slice none 0 0] 30)) = w0 at *
  go_loopw [6] (fun v wr => ∃ k : Nat, k ≤ bb ∧ v = .int .i64 (k : Int) ∧ ∃ A' c' cnt, cnt = k * aa ∧ OwnP wr (w.heap.size + 1 + 1 + 1 + 1) (.slice A' cnt c') (tab aa (k * aa) f) ∧ RasAtB wr (w.heap.size + 1 + 1 + 1) (aa : Int) (bb : Int) A' cnt c' 30 ∧ RasAtB wr (w.heap.size + 1 + 1) 0 0 none 0 0 30 ∧ RasAtB wr w.heap.size (W : Int) (H : Int) (some ⟨b, o, none⟩) n c 30 ∧ Below w.heap.size w wr ∧ w.heap.size + 1 + 1 + 1 + 1 ≤ wr.heap.size ∧ OpAtB wr (w.heap.size + 1) (sO (aa : Int) (bb : Int))) (fun v _ => bb - (intOf v).toNat)
  case atStart => exact ⟨0, Nat.zero_le _, rfl, none, 0, 0, by simp, by rw [Nat.zero_mul, tab_zero]; exact World.ownsRow_nil _ _ _ _, HX0.out, HZ0.out, HR0.out, HB0.out, HSZ.out, HOP0.out⟩
  case round =>
    obtain ⟨k, hk, rfl, A', c', cnt, hcnt, hown, hX, hZ, hR, hbel, hsz, hO⟩ := hrel
    have x1 := hX.c1
    have r1 := hR.c1
    obtain ⟨y0, y1, y2, y3, y4⟩ : wr.cell? ⟨w.heap.size + 1, 0, none⟩ = some (.int .i64 7) ∧ wr.cell? ⟨w.heap.size + 1, 1, none⟩ = some (.int .i64 (aa : Int)) ∧ wr.cell? ⟨w.heap.size + 1, 2, none⟩ = some (.int .i64 (bb : Int)) ∧ wr.cell? ⟨w.heap.size + 1, 3, none⟩ = some (.int .i64 0) ∧ wr.cell? ⟨w.heap.size + 1, 4, none⟩ = some (.int .i64 0) := OpAtB.cs hO
    by_cases hlt : k < bb
    · have r0 := hR.c0
      have hown0 : OwnP wr (w.heap.size + 1 + 1 + 1 + 1) (.slice A' cnt c') (tab aa (k * aa + 0) f) := hown
      have HO := Lib.hid hown0
      have HX := Lib.hid hX
      have HZ := Lib.hid hZ
      have HR := Lib.hid hR
      have HB := Lib.hid hbel
      have HCN := Lib.hid hcnt
      have HOP := Lib.hid hO
      clear hown hown0 hX hZ hR hbel hcnt hO
      go_wp2_with fail
      clear x1 r0 r1 y0 y1 y2 y3 y4
      go_loopw [7] (fun v wq => ∃ j : Nat, j ≤ aa ∧ v = .int .i64 ((j : Int)) ∧ ∃ A' c' cnt, cnt = k * aa + j ∧ OwnP wq (w.heap.size + 1 + 1 + 1 + 1) (.slice A' cnt c') (tab aa (k * aa + j) f) ∧ RasAtB wq (w.heap.size + 1 + 1 + 1) (aa : Int) (bb : Int) A' cnt c' 30 ∧ RasAtB wq (w.heap.size + 1 + 1) 0 0 none 0 0 30 ∧ RasAtB wq w.heap.size (W : Int) (H : Int) (some ⟨b, o, none⟩) n c 30 ∧ Below w.heap.size w wq ∧ w.heap.size + 1 + 1 + 1 + 1 ≤ wq.heap.size ∧ OpAtB wq (w.heap.size + 1) (sO (aa : Int) (bb : Int))) (fun v _ => aa - (intOf v).toNat)
      case atStart => exact ⟨0, Nat.zero_le _, rfl, A', c', cnt, HCN.out, HO.out, HX.out, HZ.out, HR.out, HB.out, hsz, HOP.out⟩
      case round =>
        clear HO HX HZ HR HB HCN hsz HOP
        obtain ⟨j, hj, rfl, A', c', cnt, hcnt, hown, hX, hZ, hR, hbel, hsz, hO⟩ := hrel
        have x0 := hX.c0
        obtain ⟨y0, y1, y2, y3, y4⟩ : wr.cell? ⟨w.heap.size + 1, 0, none⟩ = some (.int .i64 7) ∧ wr.cell? ⟨w.heap.size + 1, 1, none⟩ = some (.int .i64 (aa : Int)) ∧ wr.cell? ⟨w.heap.size + 1, 2, none⟩ = some (.int .i64 (bb : Int)) ∧ wr.cell? ⟨w.heap.size + 1, 3, none⟩ = some (.int .i64 0) ∧ wr.cell? ⟨w.heap.size + 1, 4, none⟩ = some (.int .i64 0) := OpAtB.cs hO
        by_cases hltj : j < aa
        · have hp := HPX.out j k hltj hlt
          obtain ⟨K2, hK2⟩ : ∃ K2, 2 * k = K2 := ⟨_, rfl⟩
          obtain ⟨K3, hK3⟩ : ∃ K3, K2 + 1 = K3 := ⟨_, rfl⟩
          obtain ⟨K4, hK4⟩ : ∃ K4, K3 * H = K4 := ⟨_, rfl⟩
          obtain ⟨B2, hB2⟩ : ∃ B2, 2 * bb = B2 := ⟨_, rfl⟩
          obtain ⟨Q, hQ⟩ : ∃ Q, K4 / B2 = Q := ⟨_, rfl⟩
          obtain ⟨P, hP⟩ : ∃ P, Q * W = P := ⟨_, rfl⟩
          obtain ⟨J2, hJ2⟩ : ∃ J2, 2 * j = J2 := ⟨_, rfl⟩
          obtain ⟨J3, hJ3⟩ : ∃ J3, J2 + 1 = J3 := ⟨_, rfl⟩
          obtain ⟨J4, hJ4⟩ : ∃ J4, J3 * W = J4 := ⟨_, rfl⟩
          obtain ⟨A2, hA2⟩ : ∃ A2, 2 * aa = A2 := ⟨_, rfl⟩
          obtain ⟨R, hR9⟩ : ∃ R, J4 / A2 = R := ⟨_, rfl⟩
          obtain ⟨I, hI⟩ : ∃ I, P + R = I := ⟨_, rfl⟩
          rw [hK2, hK3, hK4, hB2, hQ, hP, hJ2, hJ3, hJ4, hA2, hR9, hI] at hp
          have b1 : K3 ≤ 13 := by omega
          have b2 : J3 ≤ 13 := by omega
          have b3 : K4 ≤ 78 := by have := Nat.mul_le_mul b1 hh6.2; omega
          have b4 : J4 ≤ 78 := by have := Nat.mul_le_mul b2 hw6.2; omega
          have b5q : Q ≤ 78 := by rw [← hQ]; exact Nat.le_trans (Nat.div_le_self _ _) b3
          have b6 : R ≤ 78 := by rw [← hR9]; exact Nat.le_trans (Nat.div_le_self _ _) b4
          have b7 : P ≤ 468 := by have := Nat.mul_le_mul b5q hw6.2; omega
          have e1 : 2 * (k : Int) = (K2 : Int) := by omega
          have e2 : (K2 : Int) + 1 = (K3 : Int) := by omega
          have e3 : (K3 : Int) * (H : Int) = (K4 : Int) := by rw [← hK4, Int.natCast_mul]
          have e4 : 2 * (bb : Int) = (B2 : Int) := by omega
          have e5 : (K4 : Int).tdiv (B2 : Int) = (Q : Int) := by rw [Int.tdiv_eq_ediv_of_nonneg (by omega), ← hQ]; exact (Int.natCast_ediv K4 B2).symm
          have e5' : (K4 : Int) / (B2 : Int) = (Q : Int) := by rw [← hQ]; exact (Int.natCast_ediv K4 B2).symm
          have e6 : (Q : Int) * (W : Int) = (P : Int) := by rw [← hP, Int.natCast_mul]
          have e7 : 2 * (j : Int) = (J2 : Int) := by omega
          have e8 : (J2 : Int) + 1 = (J3 : Int) := by omega
          have e9 : (J3 : Int) * (W : Int) = (J4 : Int) := by rw [← hJ4, Int.natCast_mul]
          have e10 : 2 * (aa : Int) = (A2 : Int) := by omega
          have e11 : (J4 : Int).tdiv (A2 : Int) = (R : Int) := by rw [Int.tdiv_eq_ediv_of_nonneg (by omega), ← hR9]; exact (Int.natCast_ediv J4 A2).symm
          have e11' : (J4 : Int) / (A2 : Int) = (R : Int) := by rw [← hR9]; exact (Int.natCast_ediv J4 A2).symm
          have e12 : (P : Int) + (R : Int) = (I : Int) := by omega
          have n1 : ¬ B2 = 0 := by omega
          have n2 : ¬ A2 = 0 := by omega
          have n3 : ¬ (B2 : Int) = 0 := by omega
          have n4 : ¬ (A2 : Int) = 0 := by omega
          have u1 := IntWalk.i64_in (K2 : Int) (by omega)
          have u2 := IntWalk.i64_in (K3 : Int) (by omega)
          have u3 := IntWalk.i64_in (K4 : Int) (by omega)
          have u4 := IntWalk.i64_in (B2 : Int) (by omega)
          have u5 := IntWalk.i64_in (Q : Int) (by omega)
          have u6 := IntWalk.i64_in (P : Int) (by omega)
          have u7 := IntWalk.i64_in (J2 : Int) (by omega)
          have u8 := IntWalk.i64_in (J3 : Int) (by omega)
          have u9 := IntWalk.i64_in (J4 : Int) (by omega)
          have u10 := IntWalk.i64_in (A2 : Int) (by omega)
          have u11 := IntWalk.i64_in (R : Int) (by omega)
          have u12 := IntWalk.i64_in (I : Int) (by omega)
          clear hK2 hK3 hK4 hB2 hQ hP hJ2 hJ3 hJ4 hA2 hR9 hI
          have hIn : I < n := by
            have := (List.getElem?_eq_some_iff.1 hp).1
            rw [HNL.out] at this
            exact this
          have HTS := Lib.hid (tab_step f hltj (y := k))
          obtain ⟨p, hfp⟩ : ∃ p, f j k = p := ⟨_, rfl⟩
          rw [hfp] at hp HTS
          have hI2 : (0 : Int) ≤ (I : Int) ∧ (I : Int) < (n : Int) := by omega
          have HCL : Hid (cnt = (tab aa (k * aa + j) f).length) := Lib.hid (by rw [tab_length]; exact hcnt)
          have hcl36 : (tab aa (k * aa + j) f).length ≤ 36 := by
            rw [tab_length]
            have := place_in hltj hlt
            have h2 : aa * bb ≤ 6 * 6 := Nat.mul_le_mul hRW6 hRH6
            omega
          have hpx : PxAt wr b (o + I * 4) p := by
            rcases HH.out.below hbel with h0 | ⟨b', o', e, _, hc'⟩
            · rw [h0] at hp; simp at hp
            · injection e with e
              injection e with e1 e2 _
              subst e1 e2
              exact hc' _ p hp
          have hne : ∀ q, (Value.slice A' cnt c').ownBlock = some q → w.heap.size + 1 + 1 + 1 + 1 ≤ q := fun q e => (World.ownsRow.lt hown q e).1
          obtain ⟨G, hG⟩ : ∃ G, wr.heap.size = G := ⟨_, rfl⟩
          have hGd : wr.drew.heap.size = G := hG
          have HOd : Hid (pxE.Own wr.drew (w.heap.size + 1 + 1 + 1 + 1) (.slice A' cnt c') (tab aa (k * aa + j) f)) := Lib.hid (El.Own.drewN (E := pxE) hown 1)
          have HOA : Hid (pxE.Own (wr.drew.alloc (.cells #[.int .i64 p.r, .int .i64 p.g, .int .i64 p.b, .int .i64 p.a] 62)) (w.heap.size + 1 + 1 + 1 + 1) (.slice A' cnt c') (tab aa (k * aa + j) f)) := Lib.hid (El.Own.alloc (E := pxE) HOd.out _)
          have HBX : Hid (Box (wr.drew.alloc (.cells #[.int .i64 p.r, .int .i64 p.g, .int .i64 p.b, .int .i64 p.a] 62)) G (pxE.cells p).toArray 62) := Lib.hid (by rw [← hGd]; exact Box.new wr.drew _ _)
          have hszd : w.heap.size + 1 + 1 + 1 + 1 ≤ wr.drew.heap.size := hsz
          have BA : Below wr.drew.heap.size wr.drew (wr.drew.alloc (.cells #[.int .i64 p.r, .int .i64 p.g, .int .i64 p.b, .int .i64 p.a] 62)) := (Below.refl _ _).alloc (Nat.le_refl _) _
          have BA3 := BA.mono hszd
          have hbb : b < w.heap.size := hbl
          have HS3 : Hid (∀ w', Below (w.heap.size + 1 + 1 + 1 + 1) wr.drew w' → RasAtB w' (w.heap.size + 1 + 1 + 1) (aa : Int) (bb : Int) A' cnt c' 30 ∧ RasAtB w' w.heap.size (W : Int) (H : Int) (some ⟨b, o, none⟩) n c 30 ∧ PxAt w' b (o + I * 4) p ∧ OpAtB w' (w.heap.size + 1) (sO (aa : Int) (bb : Int))) := Lib.hid fun w' hb => ⟨Box.below hX.drew1 hb (by omega), Box.below hR.drew1 hb (by omega), PxAt.kept (w := wr.drew) hpx fun q hq => hb.cell (by omega), Box.below (Box.drew hO) hb (by omega)⟩
          have HSb : Hid (∀ w', Below wr.drew.heap.size wr.drew w' → RasAtB w' (w.heap.size + 1 + 1 + 1) (aa : Int) (bb : Int) A' cnt c' 30 ∧ RasAtB w' w.heap.size (W : Int) (H : Int) (some ⟨b, o, none⟩) n c 30 ∧ PxAt w' b (o + I * 4) p ∧ OpAtB w' (w.heap.size + 1) (sO (aa : Int) (bb : Int))) := Lib.hid fun w' hb => HS3.out w' (hb.mono hszd)
          have HS0 := Lib.hid (HSb.out _ (Below.refl _ _))
          have HBd := Lib.hid (below_draws hbel 1)
          have HZd := Lib.hid hZ.drew1
          have hGw : w.heap.size + 1 + 1 + 1 + 1 ≤ G := by rw [← hGd]; exact hszd
          clear hown hX hZ hR hbel hpx hp hfp hGd hcnt hO
          go_wp2_with fail
          clear x0 y0 y1 y2 y3 y4
          refine wp_region_T (fun w' => RasAtB w' (w.heap.size + 1 + 1 + 1) (aa : Int) (bb : Int) A' cnt c' 30 ∧ RasAtB w' w.heap.size (W : Int) (H : Int) (some ⟨b, o, none⟩) n c 30 ∧ PxAt w' b (o + I * 4) p ∧ OpAtB w' (w.heap.size + 1) (sO (aa : Int) (bb : Int))) 33 (by kernel_rfl) ?_
          refine wpAnyT_take (i := 0) (d := 25) (v := .pointer (some ⟨w.heap.size + 1 + 1 + 1, 2, none⟩)) rfl rfl (by kernel_rfl) (by kernel_rfl) (by kernel_rfl) (by kernel_rfl) (by kernel_rfl) (fun _ _ _ h => h) HS0.out (Or.inl ⟨by rfl, fun w' hS' => ?_⟩) ?_
          · obtain ⟨s0, s1, s2, s3⟩ := hS'
            have t2 := s0.c2
            have v0 := s1.c0
            have v1 := s1.c1
            have v2 := s1.c2
            obtain ⟨p0, p1, p2, p3⟩ := s2
            obtain ⟨z0, z1, z2, z3, z4⟩ : w'.cell? ⟨w.heap.size + 1, 0, none⟩ = some (.int .i64 7) ∧ w'.cell? ⟨w.heap.size + 1, 1, none⟩ = some (.int .i64 (aa : Int)) ∧ w'.cell? ⟨w.heap.size + 1, 2, none⟩ = some (.int .i64 (bb : Int)) ∧ w'.cell? ⟨w.heap.size + 1, 3, none⟩ = some (.int .i64 0) ∧ w'.cell? ⟨w.heap.size + 1, 4, none⟩ = some (.int .i64 0) := OpAtB.cs s3
            go_simp
          simp only [Act.put, List.setIfInBounds_toArray, List.set_cons_zero, List.set_cons_succ]
          refine wpAnyT_take (i := 1) (d := 26) (v := .slice A' cnt c') rfl rfl (by kernel_rfl) (by kernel_rfl) (by kernel_rfl) (by kernel_rfl) (by kernel_rfl) (fun _ _ _ h => h) HS0.out (Or.inl ⟨by rfl, fun w' hS' => ?_⟩) ?_
          · obtain ⟨s0, s1, s2, s3⟩ := hS'
            have t2 := s0.c2
            have v0 := s1.c0
            have v1 := s1.c1
            have v2 := s1.c2
            obtain ⟨p0, p1, p2, p3⟩ := s2
            obtain ⟨z0, z1, z2, z3, z4⟩ : w'.cell? ⟨w.heap.size + 1, 0, none⟩ = some (.int .i64 7) ∧ w'.cell? ⟨w.heap.size + 1, 1, none⟩ = some (.int .i64 (aa : Int)) ∧ w'.cell? ⟨w.heap.size + 1, 2, none⟩ = some (.int .i64 (bb : Int)) ∧ w'.cell? ⟨w.heap.size + 1, 3, none⟩ = some (.int .i64 0) ∧ w'.cell? ⟨w.heap.size + 1, 4, none⟩ = some (.int .i64 0) := OpAtB.cs s3
            go_simp
          simp only [Act.put, List.setIfInBounds_toArray, List.set_cons_zero, List.set_cons_succ]
          refine wpAnyT_take (i := 2) (d := 27) (v := .pointer (some ⟨w.heap.size, 2, none⟩)) rfl rfl (by kernel_rfl) (by kernel_rfl) (by kernel_rfl) (by kernel_rfl) (by kernel_rfl) (fun _ _ _ h => h) HS0.out (Or.inl ⟨by rfl, fun w' hS' => ?_⟩) ?_
          · obtain ⟨s0, s1, s2, s3⟩ := hS'
            have t2 := s0.c2
            have v0 := s1.c0
            have v1 := s1.c1
            have v2 := s1.c2
            obtain ⟨p0, p1, p2, p3⟩ := s2
            obtain ⟨z0, z1, z2, z3, z4⟩ : w'.cell? ⟨w.heap.size + 1, 0, none⟩ = some (.int .i64 7) ∧ w'.cell? ⟨w.heap.size + 1, 1, none⟩ = some (.int .i64 (aa : Int)) ∧ w'.cell? ⟨w.heap.size + 1, 2, none⟩ = some (.int .i64 (bb : Int)) ∧ w'.cell? ⟨w.heap.size + 1, 3, none⟩ = some (.int .i64 0) ∧ w'.cell? ⟨w.heap.size + 1, 4, none⟩ = some (.int .i64 0) := OpAtB.cs s3
            go_simp
          simp only [Act.put, List.setIfInBounds_toArray, List.set_cons_zero, List.set_cons_succ]
          refine wpAnyT_take (i := 3) (d := 28) (v := .slice (some ⟨b, o, none⟩) n c) rfl rfl (by kernel_rfl) (by kernel_rfl) (by kernel_rfl) (by kernel_rfl) (by kernel_rfl) (fun _ _ _ h => h) HS0.out (Or.inl ⟨by rfl, fun w' hS' => ?_⟩) ?_
          · obtain ⟨s0, s1, s2, s3⟩ := hS'
            have t2 := s0.c2
            have v0 := s1.c0
            have v1 := s1.c1
            have v2 := s1.c2
            obtain ⟨p0, p1, p2, p3⟩ := s2
            obtain ⟨z0, z1, z2, z3, z4⟩ : w'.cell? ⟨w.heap.size + 1, 0, none⟩ = some (.int .i64 7) ∧ w'.cell? ⟨w.heap.size + 1, 1, none⟩ = some (.int .i64 (aa : Int)) ∧ w'.cell? ⟨w.heap.size + 1, 2, none⟩ = some (.int .i64 (bb : Int)) ∧ w'.cell? ⟨w.heap.size + 1, 3, none⟩ = some (.int .i64 0) ∧ w'.cell? ⟨w.heap.size + 1, 4, none⟩ = some (.int .i64 0) := OpAtB.cs s3
            go_simp
          simp only [Act.put, List.setIfInBounds_toArray, List.set_cons_zero, List.set_cons_succ]
          refine wpAnyT_take (i := 4) (d := 29) (v := .int .i64 (k : Int)) rfl rfl (by kernel_rfl) (by kernel_rfl) (by kernel_rfl) (by kernel_rfl) (by kernel_rfl) (fun _ _ _ h => h) HS0.out (Or.inl ⟨by rfl, fun w' hS' => ?_⟩) ?_
          · obtain ⟨s0, s1, s2, s3⟩ := hS'
            have t2 := s0.c2
            have v0 := s1.c0
            have v1 := s1.c1
            have v2 := s1.c2
            obtain ⟨p0, p1, p2, p3⟩ := s2
            obtain ⟨z0, z1, z2, z3, z4⟩ : w'.cell? ⟨w.heap.size + 1, 0, none⟩ = some (.int .i64 7) ∧ w'.cell? ⟨w.heap.size + 1, 1, none⟩ = some (.int .i64 (aa : Int)) ∧ w'.cell? ⟨w.heap.size + 1, 2, none⟩ = some (.int .i64 (bb : Int)) ∧ w'.cell? ⟨w.heap.size + 1, 3, none⟩ = some (.int .i64 0) ∧ w'.cell? ⟨w.heap.size + 1, 4, none⟩ = some (.int .i64 0) := OpAtB.cs s3
            go_simp
          simp only [Act.put, List.setIfInBounds_toArray, List.set_cons_zero, List.set_cons_succ]
          refine wpAnyT_take (i := 5) (d := 30) (v := .int .i64 (K2 : Int)) rfl rfl (by kernel_rfl) (by kernel_rfl) (by kernel_rfl) (by kernel_rfl) (by kernel_rfl) (fun _ _ _ h => h) HS0.out (Or.inl ⟨by rfl, fun w' hS' => ?_⟩) ?_
          · obtain ⟨s0, s1, s2, s3⟩ := hS'
            have t2 := s0.c2
            have v0 := s1.c0
            have v1 := s1.c1
            have v2 := s1.c2
            obtain ⟨p0, p1, p2, p3⟩ := s2
            obtain ⟨z0, z1, z2, z3, z4⟩ : w'.cell? ⟨w.heap.size + 1, 0, none⟩ = some (.int .i64 7) ∧ w'.cell? ⟨w.heap.size + 1, 1, none⟩ = some (.int .i64 (aa : Int)) ∧ w'.cell? ⟨w.heap.size + 1, 2, none⟩ = some (.int .i64 (bb : Int)) ∧ w'.cell? ⟨w.heap.size + 1, 3, none⟩ = some (.int .i64 0) ∧ w'.cell? ⟨w.heap.size + 1, 4, none⟩ = some (.int .i64 0) := OpAtB.cs s3
            go_simp
          simp only [Act.put, List.setIfInBounds_toArray, List.set_cons_zero, List.set_cons_succ]
          refine wpAnyT_take (i := 6) (d := 31) (v := .int .i64 (K3 : Int)) rfl rfl (by kernel_rfl) (by kernel_rfl) (by kernel_rfl) (by kernel_rfl) (by kernel_rfl) (fun _ _ _ h => h) HS0.out (Or.inl ⟨by rfl, fun w' hS' => ?_⟩) ?_
          · obtain ⟨s0, s1, s2, s3⟩ := hS'
            have t2 := s0.c2
            have v0 := s1.c0
            have v1 := s1.c1
            have v2 := s1.c2
            obtain ⟨p0, p1, p2, p3⟩ := s2
            obtain ⟨z0, z1, z2, z3, z4⟩ : w'.cell? ⟨w.heap.size + 1, 0, none⟩ = some (.int .i64 7) ∧ w'.cell? ⟨w.heap.size + 1, 1, none⟩ = some (.int .i64 (aa : Int)) ∧ w'.cell? ⟨w.heap.size + 1, 2, none⟩ = some (.int .i64 (bb : Int)) ∧ w'.cell? ⟨w.heap.size + 1, 3, none⟩ = some (.int .i64 0) ∧ w'.cell? ⟨w.heap.size + 1, 4, none⟩ = some (.int .i64 0) := OpAtB.cs s3
            go_simp
          simp only [Act.put, List.setIfInBounds_toArray, List.set_cons_zero, List.set_cons_succ]
          refine wpAnyT_take (i := 7) (d := 32) (v := .pointer (some ⟨w.heap.size, 1, none⟩)) rfl rfl (by kernel_rfl) (by kernel_rfl) (by kernel_rfl) (by kernel_rfl) (by kernel_rfl) (fun _ _ _ h => h) HS0.out (Or.inl ⟨by rfl, fun w' hS' => ?_⟩) ?_
          · obtain ⟨s0, s1, s2, s3⟩ := hS'
            have t2 := s0.c2
            have v0 := s1.c0
            have v1 := s1.c1
            have v2 := s1.c2
            obtain ⟨p0, p1, p2, p3⟩ := s2
            obtain ⟨z0, z1, z2, z3, z4⟩ : w'.cell? ⟨w.heap.size + 1, 0, none⟩ = some (.int .i64 7) ∧ w'.cell? ⟨w.heap.size + 1, 1, none⟩ = some (.int .i64 (aa : Int)) ∧ w'.cell? ⟨w.heap.size + 1, 2, none⟩ = some (.int .i64 (bb : Int)) ∧ w'.cell? ⟨w.heap.size + 1, 3, none⟩ = some (.int .i64 0) ∧ w'.cell? ⟨w.heap.size + 1, 4, none⟩ = some (.int .i64 0) := OpAtB.cs s3
            go_simp
          simp only [Act.put, List.setIfInBounds_toArray, List.set_cons_zero, List.set_cons_succ]
          refine wpAnyT_take (i := 8) (d := 33) (v := .int .i64 (H : Int)) rfl rfl (by kernel_rfl) (by kernel_rfl) (by kernel_rfl) (by kernel_rfl) (by kernel_rfl) (fun _ _ _ h => h) HS0.out (Or.inl ⟨by rfl, fun w' hS' => ?_⟩) ?_
          · obtain ⟨s0, s1, s2, s3⟩ := hS'
            have t2 := s0.c2
            have v0 := s1.c0
            have v1 := s1.c1
            have v2 := s1.c2
            obtain ⟨p0, p1, p2, p3⟩ := s2
            obtain ⟨z0, z1, z2, z3, z4⟩ : w'.cell? ⟨w.heap.size + 1, 0, none⟩ = some (.int .i64 7) ∧ w'.cell? ⟨w.heap.size + 1, 1, none⟩ = some (.int .i64 (aa : Int)) ∧ w'.cell? ⟨w.heap.size + 1, 2, none⟩ = some (.int .i64 (bb : Int)) ∧ w'.cell? ⟨w.heap.size + 1, 3, none⟩ = some (.int .i64 0) ∧ w'.cell? ⟨w.heap.size + 1, 4, none⟩ = some (.int .i64 0) := OpAtB.cs s3
            go_simp
          simp only [Act.put, List.setIfInBounds_toArray, List.set_cons_zero, List.set_cons_succ]
          refine wpAnyT_take (i := 9) (d := 34) (v := .int .i64 (K4 : Int)) rfl rfl (by kernel_rfl) (by kernel_rfl) (by kernel_rfl) (by kernel_rfl) (by kernel_rfl) (fun _ _ _ h => h) HS0.out (Or.inl ⟨by rfl, fun w' hS' => ?_⟩) ?_
          · obtain ⟨s0, s1, s2, s3⟩ := hS'
            have t2 := s0.c2
            have v0 := s1.c0
            have v1 := s1.c1
            have v2 := s1.c2
            obtain ⟨p0, p1, p2, p3⟩ := s2
            obtain ⟨z0, z1, z2, z3, z4⟩ : w'.cell? ⟨w.heap.size + 1, 0, none⟩ = some (.int .i64 7) ∧ w'.cell? ⟨w.heap.size + 1, 1, none⟩ = some (.int .i64 (aa : Int)) ∧ w'.cell? ⟨w.heap.size + 1, 2, none⟩ = some (.int .i64 (bb : Int)) ∧ w'.cell? ⟨w.heap.size + 1, 3, none⟩ = some (.int .i64 0) ∧ w'.cell? ⟨w.heap.size + 1, 4, none⟩ = some (.int .i64 0) := OpAtB.cs s3
            go_simp
          simp only [Act.put, List.setIfInBounds_toArray, List.set_cons_zero, List.set_cons_succ]
          refine wpAnyT_take (i := 10) (d := 35) (v := .pointer (some ⟨w.heap.size + 1, 2, none⟩)) rfl rfl (by kernel_rfl) (by kernel_rfl) (by kernel_rfl) (by kernel_rfl) (by kernel_rfl) (fun _ _ _ h => h) HS0.out (Or.inl ⟨by rfl, fun w' hS' => ?_⟩) ?_
          · obtain ⟨s0, s1, s2, s3⟩ := hS'
            have t2 := s0.c2
            have v0 := s1.c0
            have v1 := s1.c1
            have v2 := s1.c2
            obtain ⟨p0, p1, p2, p3⟩ := s2
            obtain ⟨z0, z1, z2, z3, z4⟩ : w'.cell? ⟨w.heap.size + 1, 0, none⟩ = some (.int .i64 7) ∧ w'.cell? ⟨w.heap.size + 1, 1, none⟩ = some (.int .i64 (aa : Int)) ∧ w'.cell? ⟨w.heap.size + 1, 2, none⟩ = some (.int .i64 (bb : Int)) ∧ w'.cell? ⟨w.heap.size + 1, 3, none⟩ = some (.int .i64 0) ∧ w'.cell? ⟨w.heap.size + 1, 4, none⟩ = some (.int .i64 0) := OpAtB.cs s3
            go_simp
          simp only [Act.put, List.setIfInBounds_toArray, List.set_cons_zero, List.set_cons_succ]
          refine wpAnyT_take (i := 11) (d := 36) (v := .int .i64 (bb : Int)) rfl rfl (by kernel_rfl) (by kernel_rfl) (by kernel_rfl) (by kernel_rfl) (by kernel_rfl) (fun _ _ _ h => h) HS0.out (Or.inl ⟨by rfl, fun w' hS' => ?_⟩) ?_
          · obtain ⟨s0, s1, s2, s3⟩ := hS'
            have t2 := s0.c2
            have v0 := s1.c0
            have v1 := s1.c1
            have v2 := s1.c2
            obtain ⟨p0, p1, p2, p3⟩ := s2
            obtain ⟨z0, z1, z2, z3, z4⟩ : w'.cell? ⟨w.heap.size + 1, 0, none⟩ = some (.int .i64 7) ∧ w'.cell? ⟨w.heap.size + 1, 1, none⟩ = some (.int .i64 (aa : Int)) ∧ w'.cell? ⟨w.heap.size + 1, 2, none⟩ = some (.int .i64 (bb : Int)) ∧ w'.cell? ⟨w.heap.size + 1, 3, none⟩ = some (.int .i64 0) ∧ w'.cell? ⟨w.heap.size + 1, 4, none⟩ = some (.int .i64 0) := OpAtB.cs s3
            go_simp
          simp only [Act.put, List.setIfInBounds_toArray, List.set_cons_zero, List.set_cons_succ]
          refine wpAnyT_take (i := 12) (d := 37) (v := .int .i64 (B2 : Int)) rfl rfl (by kernel_rfl) (by kernel_rfl) (by kernel_rfl) (by kernel_rfl) (by kernel_rfl) (fun _ _ _ h => h) HS0.out (Or.inl ⟨by rfl, fun w' hS' => ?_⟩) ?_
          · obtain ⟨s0, s1, s2, s3⟩ := hS'
            have t2 := s0.c2
            have v0 := s1.c0
            have v1 := s1.c1
            have v2 := s1.c2
            obtain ⟨p0, p1, p2, p3⟩ := s2
            obtain ⟨z0, z1, z2, z3, z4⟩ : w'.cell? ⟨w.heap.size + 1, 0, none⟩ = some (.int .i64 7) ∧ w'.cell? ⟨w.heap.size + 1, 1, none⟩ = some (.int .i64 (aa : Int)) ∧ w'.cell? ⟨w.heap.size + 1, 2, none⟩ = some (.int .i64 (bb : Int)) ∧ w'.cell? ⟨w.heap.size + 1, 3, none⟩ = some (.int .i64 0) ∧ w'.cell? ⟨w.heap.size + 1, 4, none⟩ = some (.int .i64 0) := OpAtB.cs s3
            go_simp
          simp only [Act.put, List.setIfInBounds_toArray, List.set_cons_zero, List.set_cons_succ]
          refine wpAnyT_take (i := 13) (d := 38) (v := .int .i64 (Q : Int)) rfl rfl (by kernel_rfl) (by kernel_rfl) (by kernel_rfl) (by kernel_rfl) (by kernel_rfl) (fun _ _ _ h => h) HS0.out (Or.inl ⟨by rfl, fun w' hS' => ?_⟩) ?_
          · obtain ⟨s0, s1, s2, s3⟩ := hS'
            have t2 := s0.c2
            have v0 := s1.c0
            have v1 := s1.c1
            have v2 := s1.c2
            obtain ⟨p0, p1, p2, p3⟩ := s2
            obtain ⟨z0, z1, z2, z3, z4⟩ : w'.cell? ⟨w.heap.size + 1, 0, none⟩ = some (.int .i64 7) ∧ w'.cell? ⟨w.heap.size + 1, 1, none⟩ = some (.int .i64 (aa : Int)) ∧ w'.cell? ⟨w.heap.size + 1, 2, none⟩ = some (.int .i64 (bb : Int)) ∧ w'.cell? ⟨w.heap.size + 1, 3, none⟩ = some (.int .i64 0) ∧ w'.cell? ⟨w.heap.size + 1, 4, none⟩ = some (.int .i64 0) := OpAtB.cs s3
            go_simp
          simp only [Act.put, List.setIfInBounds_toArray, List.set_cons_zero, List.set_cons_succ]
          refine wpAnyT_take (i := 14) (d := 39) (v := .pointer (some ⟨w.heap.size, 0, none⟩)) rfl rfl (by kernel_rfl) (by kernel_rfl) (by kernel_rfl) (by kernel_rfl) (by kernel_rfl) (fun _ _ _ h => h) HS0.out (Or.inl ⟨by rfl, fun w' hS' => ?_⟩) ?_
          · obtain ⟨s0, s1, s2, s3⟩ := hS'
            have t2 := s0.c2
            have v0 := s1.c0
            have v1 := s1.c1
            have v2 := s1.c2
            obtain ⟨p0, p1, p2, p3⟩ := s2
            obtain ⟨z0, z1, z2, z3, z4⟩ : w'.cell? ⟨w.heap.size + 1, 0, none⟩ = some (.int .i64 7) ∧ w'.cell? ⟨w.heap.size + 1, 1, none⟩ = some (.int .i64 (aa : Int)) ∧ w'.cell? ⟨w.heap.size + 1, 2, none⟩ = some (.int .i64 (bb : Int)) ∧ w'.cell? ⟨w.heap.size + 1, 3, none⟩ = some (.int .i64 0) ∧ w'.cell? ⟨w.heap.size + 1, 4, none⟩ = some (.int .i64 0) := OpAtB.cs s3
            go_simp
          simp only [Act.put, List.setIfInBounds_toArray, List.set_cons_zero, List.set_cons_succ]
          refine wpAnyT_take (i := 15) (d := 40) (v := .int .i64 (W : Int)) rfl rfl (by kernel_rfl) (by kernel_rfl) (by kernel_rfl) (by kernel_rfl) (by kernel_rfl) (fun _ _ _ h => h) HS0.out (Or.inl ⟨by rfl, fun w' hS' => ?_⟩) ?_
          · obtain ⟨s0, s1, s2, s3⟩ := hS'
            have t2 := s0.c2
            have v0 := s1.c0
            have v1 := s1.c1
            have v2 := s1.c2
            obtain ⟨p0, p1, p2, p3⟩ := s2
            obtain ⟨z0, z1, z2, z3, z4⟩ : w'.cell? ⟨w.heap.size + 1, 0, none⟩ = some (.int .i64 7) ∧ w'.cell? ⟨w.heap.size + 1, 1, none⟩ = some (.int .i64 (aa : Int)) ∧ w'.cell? ⟨w.heap.size + 1, 2, none⟩ = some (.int .i64 (bb : Int)) ∧ w'.cell? ⟨w.heap.size + 1, 3, none⟩ = some (.int .i64 0) ∧ w'.cell? ⟨w.heap.size + 1, 4, none⟩ = some (.int .i64 0) := OpAtB.cs s3
            go_simp
          simp only [Act.put, List.setIfInBounds_toArray, List.set_cons_zero, List.set_cons_succ]
          refine wpAnyT_take (i := 16) (d := 41) (v := .int .i64 (P : Int)) rfl rfl (by kernel_rfl) (by kernel_rfl) (by kernel_rfl) (by kernel_rfl) (by kernel_rfl) (fun _ _ _ h => h) HS0.out (Or.inl ⟨by rfl, fun w' hS' => ?_⟩) ?_
          · obtain ⟨s0, s1, s2, s3⟩ := hS'
            have t2 := s0.c2
            have v0 := s1.c0
            have v1 := s1.c1
            have v2 := s1.c2
            obtain ⟨p0, p1, p2, p3⟩ := s2
            obtain ⟨z0, z1, z2, z3, z4⟩ : w'.cell? ⟨w.heap.size + 1, 0, none⟩ = some (.int .i64 7) ∧ w'.cell? ⟨w.heap.size + 1, 1, none⟩ = some (.int .i64 (aa : Int)) ∧ w'.cell? ⟨w.heap.size + 1, 2, none⟩ = some (.int .i64 (bb : Int)) ∧ w'.cell? ⟨w.heap.size + 1, 3, none⟩ = some (.int .i64 0) ∧ w'.cell? ⟨w.heap.size + 1, 4, none⟩ = some (.int .i64 0) := OpAtB.cs s3
            go_simp
          simp only [Act.put, List.setIfInBounds_toArray, List.set_cons_zero, List.set_cons_succ]
          refine wpAnyT_take (i := 17) (d := 42) (v := .int .i64 (j : Int)) rfl rfl (by kernel_rfl) (by kernel_rfl) (by kernel_rfl) (by kernel_rfl) (by kernel_rfl) (fun _ _ _ h => h) HS0.out (Or.inl ⟨by rfl, fun w' hS' => ?_⟩) ?_
          · obtain ⟨s0, s1, s2, s3⟩ := hS'
            have t2 := s0.c2
            have v0 := s1.c0
            have v1 := s1.c1
            have v2 := s1.c2
            obtain ⟨p0, p1, p2, p3⟩ := s2
            obtain ⟨z0, z1, z2, z3, z4⟩ : w'.cell? ⟨w.heap.size + 1, 0, none⟩ = some (.int .i64 7) ∧ w'.cell? ⟨w.heap.size + 1, 1, none⟩ = some (.int .i64 (aa : Int)) ∧ w'.cell? ⟨w.heap.size + 1, 2, none⟩ = some (.int .i64 (bb : Int)) ∧ w'.cell? ⟨w.heap.size + 1, 3, none⟩ = some (.int .i64 0) ∧ w'.cell? ⟨w.heap.size + 1, 4, none⟩ = some (.int .i64 0) := OpAtB.cs s3
            go_simp
          simp only [Act.put, List.setIfInBounds_toArray, List.set_cons_zero, List.set_cons_succ]
          refine wpAnyT_take (i := 18) (d := 43) (v := .int .i64 (J2 : Int)) rfl rfl (by kernel_rfl) (by kernel_rfl) (by kernel_rfl) (by kernel_rfl) (by kernel_rfl) (fun _ _ _ h => h) HS0.out (Or.inl ⟨by rfl, fun w' hS' => ?_⟩) ?_
          · obtain ⟨s0, s1, s2, s3⟩ := hS'
            have t2 := s0.c2
            have v0 := s1.c0
            have v1 := s1.c1
            have v2 := s1.c2
            obtain ⟨p0, p1, p2, p3⟩ := s2
            obtain ⟨z0, z1, z2, z3, z4⟩ : w'.cell? ⟨w.heap.size + 1, 0, none⟩ = some (.int .i64 7) ∧ w'.cell? ⟨w.heap.size + 1, 1, none⟩ = some (.int .i64 (aa : Int)) ∧ w'.cell? ⟨w.heap.size + 1, 2, none⟩ = some (.int .i64 (bb : Int)) ∧ w'.cell? ⟨w.heap.size + 1, 3, none⟩ = some (.int .i64 0) ∧ w'.cell? ⟨w.heap.size + 1, 4, none⟩ = some (.int .i64 0) := OpAtB.cs s3
            go_simp
          simp only [Act.put, List.setIfInBounds_toArray, List.set_cons_zero, List.set_cons_succ]
          refine wpAnyT_take (i := 19) (d := 44) (v := .int .i64 (J3 : Int)) rfl rfl (by kernel_rfl) (by kernel_rfl) (by kernel_rfl) (by kernel_rfl) (by kernel_rfl) (fun _ _ _ h => h) HS0.out (Or.inl ⟨by rfl, fun w' hS' => ?_⟩) ?_
          · obtain ⟨s0, s1, s2, s3⟩ := hS'
            have t2 := s0.c2
            have v0 := s1.c0
            have v1 := s1.c1
            have v2 := s1.c2
            obtain ⟨p0, p1, p2, p3⟩ := s2
            obtain ⟨z0, z1, z2, z3, z4⟩ : w'.cell? ⟨w.heap.size + 1, 0, none⟩ = some (.int .i64 7) ∧ w'.cell? ⟨w.heap.size + 1, 1, none⟩ = some (.int .i64 (aa : Int)) ∧ w'.cell? ⟨w.heap.size + 1, 2, none⟩ = some (.int .i64 (bb : Int)) ∧ w'.cell? ⟨w.heap.size + 1, 3, none⟩ = some (.int .i64 0) ∧ w'.cell? ⟨w.heap.size + 1, 4, none⟩ = some (.int .i64 0) := OpAtB.cs s3
            go_simp
          simp only [Act.put, List.setIfInBounds_toArray, List.set_cons_zero, List.set_cons_succ]
          refine wpAnyT_take (i := 20) (d := 45) (v := .pointer (some ⟨w.heap.size, 0, none⟩)) rfl rfl (by kernel_rfl) (by kernel_rfl) (by kernel_rfl) (by kernel_rfl) (by kernel_rfl) (fun _ _ _ h => h) HS0.out (Or.inl ⟨by rfl, fun w' hS' => ?_⟩) ?_
          · obtain ⟨s0, s1, s2, s3⟩ := hS'
            have t2 := s0.c2
            have v0 := s1.c0
            have v1 := s1.c1
            have v2 := s1.c2
            obtain ⟨p0, p1, p2, p3⟩ := s2
            obtain ⟨z0, z1, z2, z3, z4⟩ : w'.cell? ⟨w.heap.size + 1, 0, none⟩ = some (.int .i64 7) ∧ w'.cell? ⟨w.heap.size + 1, 1, none⟩ = some (.int .i64 (aa : Int)) ∧ w'.cell? ⟨w.heap.size + 1, 2, none⟩ = some (.int .i64 (bb : Int)) ∧ w'.cell? ⟨w.heap.size + 1, 3, none⟩ = some (.int .i64 0) ∧ w'.cell? ⟨w.heap.size + 1, 4, none⟩ = some (.int .i64 0) := OpAtB.cs s3
            go_simp
          simp only [Act.put, List.setIfInBounds_toArray, List.set_cons_zero, List.set_cons_succ]
          refine wpAnyT_take (i := 21) (d := 46) (v := .int .i64 (W : Int)) rfl rfl (by kernel_rfl) (by kernel_rfl) (by kernel_rfl) (by kernel_rfl) (by kernel_rfl) (fun _ _ _ h => h) HS0.out (Or.inl ⟨by rfl, fun w' hS' => ?_⟩) ?_
          · obtain ⟨s0, s1, s2, s3⟩ := hS'
            have t2 := s0.c2
            have v0 := s1.c0
            have v1 := s1.c1
            have v2 := s1.c2
            obtain ⟨p0, p1, p2, p3⟩ := s2
            obtain ⟨z0, z1, z2, z3, z4⟩ : w'.cell? ⟨w.heap.size + 1, 0, none⟩ = some (.int .i64 7) ∧ w'.cell? ⟨w.heap.size + 1, 1, none⟩ = some (.int .i64 (aa : Int)) ∧ w'.cell? ⟨w.heap.size + 1, 2, none⟩ = some (.int .i64 (bb : Int)) ∧ w'.cell? ⟨w.heap.size + 1, 3, none⟩ = some (.int .i64 0) ∧ w'.cell? ⟨w.heap.size + 1, 4, none⟩ = some (.int .i64 0) := OpAtB.cs s3
            go_simp
          simp only [Act.put, List.setIfInBounds_toArray, List.set_cons_zero, List.set_cons_succ]
          refine wpAnyT_take (i := 22) (d := 47) (v := .int .i64 (J4 : Int)) rfl rfl (by kernel_rfl) (by kernel_rfl) (by kernel_rfl) (by kernel_rfl) (by kernel_rfl) (fun _ _ _ h => h) HS0.out (Or.inl ⟨by rfl, fun w' hS' => ?_⟩) ?_
          · obtain ⟨s0, s1, s2, s3⟩ := hS'
            have t2 := s0.c2
            have v0 := s1.c0
            have v1 := s1.c1
            have v2 := s1.c2
            obtain ⟨p0, p1, p2, p3⟩ := s2
            obtain ⟨z0, z1, z2, z3, z4⟩ : w'.cell? ⟨w.heap.size + 1, 0, none⟩ = some (.int .i64 7) ∧ w'.cell? ⟨w.heap.size + 1, 1, none⟩ = some (.int .i64 (aa : Int)) ∧ w'.cell? ⟨w.heap.size + 1, 2, none⟩ = some (.int .i64 (bb : Int)) ∧ w'.cell? ⟨w.heap.size + 1, 3, none⟩ = some (.int .i64 0) ∧ w'.cell? ⟨w.heap.size + 1, 4, none⟩ = some (.int .i64 0) := OpAtB.cs s3
            go_simp
          simp only [Act.put, List.setIfInBounds_toArray, List.set_cons_zero, List.set_cons_succ]
          refine wpAnyT_take (i := 23) (d := 48) (v := .pointer (some ⟨w.heap.size + 1, 1, none⟩)) rfl rfl (by kernel_rfl) (by kernel_rfl) (by kernel_rfl) (by kernel_rfl) (by kernel_rfl) (fun _ _ _ h => h) HS0.out (Or.inl ⟨by rfl, fun w' hS' => ?_⟩) ?_
          · obtain ⟨s0, s1, s2, s3⟩ := hS'
            have t2 := s0.c2
            have v0 := s1.c0
            have v1 := s1.c1
            have v2 := s1.c2
            obtain ⟨p0, p1, p2, p3⟩ := s2
            obtain ⟨z0, z1, z2, z3, z4⟩ : w'.cell? ⟨w.heap.size + 1, 0, none⟩ = some (.int .i64 7) ∧ w'.cell? ⟨w.heap.size + 1, 1, none⟩ = some (.int .i64 (aa : Int)) ∧ w'.cell? ⟨w.heap.size + 1, 2, none⟩ = some (.int .i64 (bb : Int)) ∧ w'.cell? ⟨w.heap.size + 1, 3, none⟩ = some (.int .i64 0) ∧ w'.cell? ⟨w.heap.size + 1, 4, none⟩ = some (.int .i64 0) := OpAtB.cs s3
            go_simp
          simp only [Act.put, List.setIfInBounds_toArray, List.set_cons_zero, List.set_cons_succ]
          refine wpAnyT_take (i := 24) (d := 49) (v := .int .i64 (aa : Int)) rfl rfl (by kernel_rfl) (by kernel_rfl) (by kernel_rfl) (by kernel_rfl) (by kernel_rfl) (fun _ _ _ h => h) HS0.out (Or.inl ⟨by rfl, fun w' hS' => ?_⟩) ?_
          · obtain ⟨s0, s1, s2, s3⟩ := hS'
            have t2 := s0.c2
            have v0 := s1.c0
            have v1 := s1.c1
            have v2 := s1.c2
            obtain ⟨p0, p1, p2, p3⟩ := s2
            obtain ⟨z0, z1, z2, z3, z4⟩ : w'.cell? ⟨w.heap.size + 1, 0, none⟩ = some (.int .i64 7) ∧ w'.cell? ⟨w.heap.size + 1, 1, none⟩ = some (.int .i64 (aa : Int)) ∧ w'.cell? ⟨w.heap.size + 1, 2, none⟩ = some (.int .i64 (bb : Int)) ∧ w'.cell? ⟨w.heap.size + 1, 3, none⟩ = some (.int .i64 0) ∧ w'.cell? ⟨w.heap.size + 1, 4, none⟩ = some (.int .i64 0) := OpAtB.cs s3
            go_simp
          simp only [Act.put, List.setIfInBounds_toArray, List.set_cons_zero, List.set_cons_succ]
          refine wpAnyT_take (i := 25) (d := 50) (v := .int .i64 (A2 : Int)) rfl rfl (by kernel_rfl) (by kernel_rfl) (by kernel_rfl) (by kernel_rfl) (by kernel_rfl) (fun _ _ _ h => h) HS0.out (Or.inl ⟨by rfl, fun w' hS' => ?_⟩) ?_
          · obtain ⟨s0, s1, s2, s3⟩ := hS'
            have t2 := s0.c2
            have v0 := s1.c0
            have v1 := s1.c1
            have v2 := s1.c2
            obtain ⟨p0, p1, p2, p3⟩ := s2
            obtain ⟨z0, z1, z2, z3, z4⟩ : w'.cell? ⟨w.heap.size + 1, 0, none⟩ = some (.int .i64 7) ∧ w'.cell? ⟨w.heap.size + 1, 1, none⟩ = some (.int .i64 (aa : Int)) ∧ w'.cell? ⟨w.heap.size + 1, 2, none⟩ = some (.int .i64 (bb : Int)) ∧ w'.cell? ⟨w.heap.size + 1, 3, none⟩ = some (.int .i64 0) ∧ w'.cell? ⟨w.heap.size + 1, 4, none⟩ = some (.int .i64 0) := OpAtB.cs s3
            go_simp
          simp only [Act.put, List.setIfInBounds_toArray, List.set_cons_zero, List.set_cons_succ]
          refine wpAnyT_take (i := 26) (d := 51) (v := .int .i64 (R : Int)) rfl rfl (by kernel_rfl) (by kernel_rfl) (by kernel_rfl) (by kernel_rfl) (by kernel_rfl) (fun _ _ _ h => h) HS0.out (Or.inl ⟨by rfl, fun w' hS' => ?_⟩) ?_
          · obtain ⟨s0, s1, s2, s3⟩ := hS'
            have t2 := s0.c2
            have v0 := s1.c0
            have v1 := s1.c1
            have v2 := s1.c2
            obtain ⟨p0, p1, p2, p3⟩ := s2
            obtain ⟨z0, z1, z2, z3, z4⟩ : w'.cell? ⟨w.heap.size + 1, 0, none⟩ = some (.int .i64 7) ∧ w'.cell? ⟨w.heap.size + 1, 1, none⟩ = some (.int .i64 (aa : Int)) ∧ w'.cell? ⟨w.heap.size + 1, 2, none⟩ = some (.int .i64 (bb : Int)) ∧ w'.cell? ⟨w.heap.size + 1, 3, none⟩ = some (.int .i64 0) ∧ w'.cell? ⟨w.heap.size + 1, 4, none⟩ = some (.int .i64 0) := OpAtB.cs s3
            go_simp
          simp only [Act.put, List.setIfInBounds_toArray, List.set_cons_zero, List.set_cons_succ]
          refine wpAnyT_take (i := 27) (d := 52) (v := .int .i64 (I : Int)) rfl rfl (by kernel_rfl) (by kernel_rfl) (by kernel_rfl) (by kernel_rfl) (by kernel_rfl) (fun _ _ _ h => h) HS0.out (Or.inl ⟨by rfl, fun w' hS' => ?_⟩) ?_
          · obtain ⟨s0, s1, s2, s3⟩ := hS'
            have t2 := s0.c2
            have v0 := s1.c0
            have v1 := s1.c1
            have v2 := s1.c2
            obtain ⟨p0, p1, p2, p3⟩ := s2
            obtain ⟨z0, z1, z2, z3, z4⟩ : w'.cell? ⟨w.heap.size + 1, 0, none⟩ = some (.int .i64 7) ∧ w'.cell? ⟨w.heap.size + 1, 1, none⟩ = some (.int .i64 (aa : Int)) ∧ w'.cell? ⟨w.heap.size + 1, 2, none⟩ = some (.int .i64 (bb : Int)) ∧ w'.cell? ⟨w.heap.size + 1, 3, none⟩ = some (.int .i64 0) ∧ w'.cell? ⟨w.heap.size + 1, 4, none⟩ = some (.int .i64 0) := OpAtB.cs s3
            go_simp
          simp only [Act.put, List.setIfInBounds_toArray, List.set_cons_zero, List.set_cons_succ]
          refine wpAnyT_take (i := 28) (d := 53) (v := .pointer (some ⟨b, o + I * 4, none⟩)) rfl rfl (by kernel_rfl) (by kernel_rfl) (by kernel_rfl) (by kernel_rfl) (by kernel_rfl) (fun _ _ _ h => h) HS0.out (Or.inl ⟨by rfl, fun w' hS' => ?_⟩) ?_
          · obtain ⟨s0, s1, s2, s3⟩ := hS'
            have t2 := s0.c2
            have v0 := s1.c0
            have v1 := s1.c1
            have v2 := s1.c2
            obtain ⟨p0, p1, p2, p3⟩ := s2
            obtain ⟨z0, z1, z2, z3, z4⟩ : w'.cell? ⟨w.heap.size + 1, 0, none⟩ = some (.int .i64 7) ∧ w'.cell? ⟨w.heap.size + 1, 1, none⟩ = some (.int .i64 (aa : Int)) ∧ w'.cell? ⟨w.heap.size + 1, 2, none⟩ = some (.int .i64 (bb : Int)) ∧ w'.cell? ⟨w.heap.size + 1, 3, none⟩ = some (.int .i64 0) ∧ w'.cell? ⟨w.heap.size + 1, 4, none⟩ = some (.int .i64 0) := OpAtB.cs s3
            go_simp
          simp only [Act.put, List.setIfInBounds_toArray, List.set_cons_zero, List.set_cons_succ]
          refine wpAnyT_take (i := 29) (d := 54) (v := .agg #[.int .i64 p.r, .int .i64 p.g, .int .i64 p.b, .int .i64 p.a]) rfl rfl (by kernel_rfl) (by kernel_rfl) (by kernel_rfl) (by kernel_rfl) (by kernel_rfl) (fun _ _ _ h => h) HS0.out (Or.inl ⟨by rfl, fun w' hS' => ?_⟩) ?_
          · obtain ⟨s0, s1, s2, s3⟩ := hS'
            have t2 := s0.c2
            have v0 := s1.c0
            have v1 := s1.c1
            have v2 := s1.c2
            obtain ⟨p0, p1, p2, p3⟩ := s2
            obtain ⟨z0, z1, z2, z3, z4⟩ : w'.cell? ⟨w.heap.size + 1, 0, none⟩ = some (.int .i64 7) ∧ w'.cell? ⟨w.heap.size + 1, 1, none⟩ = some (.int .i64 (aa : Int)) ∧ w'.cell? ⟨w.heap.size + 1, 2, none⟩ = some (.int .i64 (bb : Int)) ∧ w'.cell? ⟨w.heap.size + 1, 3, none⟩ = some (.int .i64 0) ∧ w'.cell? ⟨w.heap.size + 1, 4, none⟩ = some (.int .i64 0) := OpAtB.cs s3
            go_simp
          simp only [Act.put, List.setIfInBounds_toArray, List.set_cons_zero, List.set_cons_succ]
          refine wpAnyT_one (i := 30) (by kernel_rfl) rfl (fun K hK => ?_)
          go_simp
          refine hK.out _ _ (fun _ => HSb.out _ BA) ?_
          clear hK
          try simp only [Act.put, List.setIfInBounds_toArray]
          refine wpAnyT_one (i := 31) (by kernel_rfl) rfl (fun K hK => ?_)
          refine El.step_append (E := pxE) 28 Tryd.underlying28 rfl (.tmp 26) (.tmp 55) rfl (w.heap.size + 1 + 1 + 1 + 1) (.slice A' cnt c') (tab aa (k * aa + j) f) rfl HOA.out ⟨G, 0, none⟩ 1 1 [p] rfl rfl (Box.news (E := pxE) (x := p) HBX.out) (by decide) (by omega) (by simp; omega) (G + 1) (by simp [hG]) ?_
          intro g cap w5 hown5 hgr5 hg5 hcap5
          have b5 : Below (w.heap.size + 1 + 1 + 1 + 1) wr.drew w5 := BA3.grown hgr5 (by simp; omega) (fun q e => (World.ownsRow.lt HOd.out q e).1)
          refine hK.out _ _ (fun _ => HS3.out _ b5) ?_
          clear hK
          try simp only [Act.put, List.setIfInBounds_toArray]
          refine wpAnyT_one (i := 32) (by kernel_rfl) rfl (fun K hK => ?_)
          go_simp
          refine hK.out _ _ (fun _ => HS3.out _ b5) ?_
          clear hK
          try simp only [Act.put, List.setIfInBounds_toArray, List.set_cons_zero, List.set_cons_succ]
          refine wpAnyT_one (i := 33) (by kernel_rfl) rfl (fun K hK => ?_)
          have hx5 : RasAtB w5 (w.heap.size + 1 + 1 + 1) (aa : Int) (bb : Int) A' cnt c' 30 := (HS3.out _ b5).1
          have q2 := hx5.c2
          have f2 := hx5.free 2
          go_simp
          refine hK.out _ _ last_out ?_
          clear hK
          refine wpAnyT_done (by kernel_rfl) ?_ _
          have hl1 : (tab aa (k * aa + j) f).length + 1 = k * aa + (j + 1) := by rw [tab_length]; omega
          have hx6 : RasAtB (w5.setCell ⟨w.heap.size + 1 + 1 + 1, 2, none⟩ (.slice (some ⟨g, 0, none⟩) ((tab aa (k * aa + j) f).length + 1) cap)) (w.heap.size + 1 + 1 + 1) (aa : Int) (bb : Int) (some ⟨g, 0, none⟩) ((tab aa (k * aa + j) f).length + 1) cap 30 := hx5.set2 _ _ _
          have hr6 : RasAtB (w5.setCell ⟨w.heap.size + 1 + 1 + 1, 2, none⟩ (.slice (some ⟨g, 0, none⟩) ((tab aa (k * aa + j) f).length + 1) cap)) w.heap.size (W : Int) (H : Int) (some ⟨b, o, none⟩) n c 30 := (HS3.out _ b5).2.1.set_other (by omega) 2 _
          have hz6 : RasAtB (w5.setCell ⟨w.heap.size + 1 + 1 + 1, 2, none⟩ (.slice (some ⟨g, 0, none⟩) ((tab aa (k * aa + j) f).length + 1) cap)) (w.heap.size + 1 + 1) 0 0 none 0 0 30 := (Box.below HZd.out b5 (by omega)).set_other (by omega) 2 _
          have hq6 : OpAtB (w5.setCell ⟨w.heap.size + 1 + 1 + 1, 2, none⟩ (.slice (some ⟨g, 0, none⟩) ((tab aa (k * aa + j) f).length + 1) cap)) (w.heap.size + 1) (sO (aa : Int) (bb : Int)) := Box.set_other (b := w.heap.size + 1 + 1 + 1) (HS3.out _ b5).2.2.2 (by omega) 2 _
          have ho6 : OwnP (w5.setCell ⟨w.heap.size + 1 + 1 + 1, 2, none⟩ (.slice (some ⟨g, 0, none⟩) ((tab aa (k * aa + j) f).length + 1) cap)) (w.heap.size + 1 + 1 + 1 + 1) (.slice (some ⟨g, 0, none⟩) ((tab aa (k * aa + j) f).length + 1) cap) (tab aa (k * aa + (j + 1)) f) := by
            rw [HTS.out]
            exact OwnP.set_low (own_px.1 hown5) (by omega) 2 _
          have hb6 : Below w.heap.size w (w5.setCell ⟨w.heap.size + 1 + 1 + 1, 2, none⟩ (.slice (some ⟨g, 0, none⟩) ((tab aa (k * aa + j) f).length + 1) cap)) := (HBd.out.trans (b5.mono (by omega))).setCell (p := ⟨w.heap.size + 1 + 1 + 1, 2, none⟩) (by simp; omega) _
          have hs6 : w.heap.size + 1 + 1 + 1 + 1 ≤ (w5.setCell ⟨w.heap.size + 1 + 1 + 1, 2, none⟩ (.slice (some ⟨g, 0, none⟩) ((tab aa (k * aa + j) f).length + 1) cap)).heap.size := by
            have := b5.size
            simp
            omega
          have HE := Lib.hid (And.intro hl1 (And.intro ho6 (And.intro hx6 (And.intro hz6 (And.intro hr6 (And.intro hb6 (And.intro hs6 hq6)))))))
          clear hl1 hx6 hr6 hz6 ho6 hb6 hs6 hown5 hgr5 hg5 hcap5 b5 hx5 q2 f2 hq6 u1 u2 u3 u4 u5 u6 u7 u8 u9 u10 u11 u12 e1 e2 e3 e4 e5 e5' e6 e7 e8 e9 e10 e11 e11' e12 n1 n2 n3 n4 b1 b2 b3 b4 b5q b6 b7
          go_wp2_with fail
          go_roundw
          case rel => exact ⟨j + 1, by omega, by go_num, _, _, _, HE.out.1, HE.out.2.1, HE.out.2.2.1, HE.out.2.2.2.1, HE.out.2.2.2.2.1, HE.out.2.2.2.2.2.1, HE.out.2.2.2.2.2.2.1, HE.out.2.2.2.2.2.2.2⟩
          case measure => simp [intOf]; omega
        · obtain rfl : j = aa := by omega
          have HO : Hid (OwnP wr (w.heap.size + 1 + 1 + 1 + 1) (.slice A' cnt c') (tab j ((k + 1) * j) f)) := Lib.hid (by rw [Nat.add_mul, Nat.one_mul]; exact hown)
          have HCN : Hid (cnt = (k + 1) * j) := Lib.hid (by rw [Nat.add_mul, Nat.one_mul]; exact hcnt)
          have HX := Lib.hid hX
          have HZ := Lib.hid hZ
          have HR := Lib.hid hR
          have HB := Lib.hid hbel
          have HOP := Lib.hid hO
          clear hown hcnt hX hZ hR hbel hO
          go_wp2_with fail
          go_roundw
          case rel => exact ⟨k + 1, by omega, by go_num, A', c', cnt, HCN.out, HO.out, HX.out, HZ.out, HR.out, HB.out, hsz, HOP.out⟩
          case measure => simp [intOf]; omega
    · obtain rfl : k = bb := by omega
      have hT : tab aa (k * aa) f = tp := by rw [HTP.out, Nat.mul_comm]
      have hcl : cnt = tp.length := by rw [hcnt, ← hT, tab_length]
      rw [hT] at hown
      rw [hcl] at hown hX
      have hc' : tp.length ≤ c' := (El.Own.len (E := pxE) hown).2
      have HZ := Lib.hid hZ
      have HE := Lib.hid (HG.out A' c' _ hc' (OwnP.lower (((OwnP.set_low hown (b := w.heap.size + 1 + 1) (by omega) 0 (.int .i64 (aa : Int))).set_low (b := w.heap.size + 1 + 1) (by omega) 1 (.int .i64 (k : Int))).set_low (b := w.heap.size + 1 + 1) (by omega) 2 (.slice A' tp.length c')) (by omega)) (((hbel.setCell (p := ⟨w.heap.size + 1 + 1, 0, none⟩) (by simp; omega) (.int .i64 (aa : Int))).setCell (p := ⟨w.heap.size + 1 + 1, 1, none⟩) (by simp; omega) (.int .i64 (k : Int))).setCell (p := ⟨w.heap.size + 1 + 1, 2, none⟩) (by simp; omega) (.slice A' tp.length c')))
      have x0 := hX.c0
      have x2 := hX.c2
      have z0 := hZ.c0
      have z1 := hZ.c1
      have z2 := hZ.c2
      have f0 := hZ.free 0
      have f1 := hZ.free 1
      have f2 := hZ.free 2
      clear hown hcnt hcl hT hX hZ hR hbel hc'
      go_wp2_with fail
      (try simp only [Exit.inBlock, Exit.then])
      refine bodyPost_ret (results_cell_row rfl _ _ (w.heap.size + 1 + 1) 30 #[.int .i64 (aa : Int), .int .i64 (k : Int), .slice A' tp.length c'] (0, 0) _ rfl (fin_ras HZ.out _ _ _) Tryd.underlying30 rfl (by kernel_rfl)) rfl ?_
      exact HE.out
end Go.Proofs.YtiemlakjallphabDoor
namespace Go.Proofs.YtiemlakjallphabDoor
set_option maxRecDepth 4000
open Go.RowKit

set_option maxHeartbeats 4000000 in
theorem l6Mean_any (r : Ra) (A : Option Addr) (c x y : Nat) (w : World) (hr : r.ok) (hx : x < r.w) (hy : y < r.h) (_ : r.p.length ≤ c) (h : HasP w w.heap.size A r.p) :
    Calls Tryd.prog 86 #[raV r A c, .int .i64 (x : Int), .int .i64 (y : Int)] w fun e w' => e = .returned (meanP r x y).v ∧ Below w.heap.size w w' := by
  obtain ⟨bA, oA, -, rfl, hbA, -, -⟩ := h.spot (k := 0) (by have := ra_len hr; omega)
  have hw6 := hr.parts.1
  have hh6 := hr.parts.2.1
  obtain ⟨x1, x2, x3, x4⟩ := lo_in hx
  obtain ⟨y1, y2, y3, y4⟩ := lo_in hy
  obtain ⟨j, hj⟩ : ∃ j, lo1 x = j := ⟨_, rfl⟩
  obtain ⟨k, hk⟩ : ∃ k, lo1 y = k := ⟨_, rfl⟩
  obtain ⟨n, hn⟩ : ∃ n, cnt1 r.w x = n := ⟨_, rfl⟩
  obtain ⟨M, hM⟩ : ∃ M, cnt1 r.h y = M := ⟨_, rfl⟩
  have ex : max 0 ((x : Int) - 1) = (j : Int) := by unfold lo1 at hj; omega
  have ey : max 0 ((y : Int) - 1) = (k : Int) := by unfold lo1 at hk; omega
  have fx : min ((r.w : Int) - 1) ((x : Int) + 1) = (j : Int) + (n : Int) - 1 := by unfold lo1 at hj; unfold cnt1 lo1 at hn; omega
  have fy : min ((r.h : Int) - 1) ((y : Int) + 1) = (k : Int) + (M : Int) - 1 := by unfold lo1 at hk; unfold cnt1 lo1 at hM; omega
  have hG : Hid (∀ q : Px, q = sumBox r.at j n k M → (meanP r x y) = ⟨q.r / ((M * n : Nat) : Int), q.g / ((M * n : Nat) : Int), q.b / ((M * n : Nat) : Int), q.a / ((M * n : Nat) : Int)⟩) := Lib.hid fun q hq => by subst hq hj hk hn hM; rfl
  rw [hj, hn] at x1
  rw [hk, hM] at y1
  rw [hn] at x2
  rw [hM] at y2
  clear hj hk hn hM x3 x4 y3 y4
  have HPL : Hid (∀ a b, a < r.w → b < r.h → r.p[b * r.w + a]? = some (r.at a b)) := Lib.hid fun a b ha hb => (hr.at ha hb).1
  have hl36 := (ra_len hr).2
  have HPX : Hid (∀ a b, a < r.w → b < r.h → pixB (r.at a b) = true) := Lib.hid fun a b ha hb => (hr.at ha hb).2
  generalize meanP r x y = me at *
  unfold raV rasV Px.v
  obtain ⟨W, hW⟩ : ∃ W, r.w = W := ⟨_, rfl⟩
  obtain ⟨H, hH⟩ : ∃ H, r.h = H := ⟨_, rfl⟩
  obtain ⟨nl, hl⟩ : ∃ nl, r.p.length = nl := ⟨_, rfl⟩
  obtain ⟨fat, hfat⟩ : ∃ fat, r.at = fat := ⟨_, rfl⟩
  obtain ⟨pl, hpl⟩ : ∃ pl, r.p = pl := ⟨_, rfl⟩
  rw [hpl] at h
  rw [hW, hH, hfat, hpl] at HPL
  rw [hl] at hl36
  have HNL : Hid (pl.length = nl) := Lib.hid (by rw [← hpl]; exact hl)
  rw [hW, hH, hfat] at HPX
  rw [hfat] at hG
  rw [hW] at hw6 fx x1 hx
  rw [hH] at hh6 fy y1 hy
  rw [hW, hH, hl]
  clear hW hH hl hfat hpl hr
  have hb0 : Below w.heap.size w (((w.alloc (.cells #[.int .i64 (W : Int), .int .i64 (H : Int), .slice (some ⟨bA, oA, none⟩) nl c] 30)).alloc (.cells #[.int .i64 0, .int .i64 0, .int .i64 0, .int .i64 0] 62)).alloc (.cells #[.int .i64 0, .int .i64 0, .int .i64 0, .int .i64 0] 62)) := (((Below.refl _ w).alloc (Nat.le_refl _) _).alloc (by simp) _).alloc (by simp; omega) _
  have hR0 : RasAtB (((w.alloc (.cells #[.int .i64 (W : Int), .int .i64 (H : Int), .slice (some ⟨bA, oA, none⟩) nl c] 30)).alloc (.cells #[.int .i64 0, .int .i64 0, .int .i64 0, .int .i64 0] 62)).alloc (.cells #[.int .i64 0, .int .i64 0, .int .i64 0, .int .i64 0] 62)) w.heap.size (W : Int) (H : Int) (some ⟨bA, oA, none⟩) nl c 30 := Box.alloc (Box.alloc (Box.new w _ _) _) _
  have hX0 : SumB (((w.alloc (.cells #[.int .i64 (W : Int), .int .i64 (H : Int), .slice (some ⟨bA, oA, none⟩) nl c] 30)).alloc (.cells #[.int .i64 0, .int .i64 0, .int .i64 0, .int .i64 0] 62)).alloc (.cells #[.int .i64 0, .int .i64 0, .int .i64 0, .int .i64 0] 62)) (w.heap.size + 1) px0 := by
    refine Box.alloc ?_ _
    have := Box.new (w.alloc (.cells #[.int .i64 (W : Int), .int .i64 (H : Int), .slice (some ⟨bA, oA, none⟩) nl c] 30)) #[.int .i64 0, .int .i64 0, .int .i64 0, .int .i64 0] 62
    rw [show (w.alloc (.cells #[.int .i64 (W : Int), .int .i64 (H : Int), .slice (some ⟨bA, oA, none⟩) nl c] 30)).heap.size = w.heap.size + 1 from by simp] at this
    exact this
  have hS0 : SumB (((w.alloc (.cells #[.int .i64 (W : Int), .int .i64 (H : Int), .slice (some ⟨bA, oA, none⟩) nl c] 30)).alloc (.cells #[.int .i64 0, .int .i64 0, .int .i64 0, .int .i64 0] 62)).alloc (.cells #[.int .i64 0, .int .i64 0, .int .i64 0, .int .i64 0] 62)) (w.heap.size + 1 + 1) px0 := by
    have := Box.new ((w.alloc (.cells #[.int .i64 (W : Int), .int .i64 (H : Int), .slice (some ⟨bA, oA, none⟩) nl c] 30)).alloc (.cells #[.int .i64 0, .int .i64 0, .int .i64 0, .int .i64 0] 62)) #[.int .i64 0, .int .i64 0, .int .i64 0, .int .i64 0] 62
    rw [show ((w.alloc (.cells #[.int .i64 (W : Int), .int .i64 (H : Int), .slice (some ⟨bA, oA, none⟩) nl c] 30)).alloc (.cells #[.int .i64 0, .int .i64 0, .int .i64 0, .int .i64 0] 62)).heap.size = w.heap.size + 1 + 1 from by simp] at this
    exact this
  have HB0 := Lib.hid hb0
  have HR0 := Lib.hid hR0
  have HX0 := Lib.hid hX0
  have HS0 := Lib.hid hS0
  have HH := Lib.hid h
  clear hb0 hR0 hX0 hS0 h
  go_enter Tryd.func86, Tryd.ntmps86
  go_wp2_with fail
  generalize ((w.alloc (.cells #[.int .i64 (W : Int), .int .i64 (H : Int), .slice (some ⟨bA, oA, none⟩) nl c] 30)).alloc (.cells #[.int .i64 0, .int .i64 0, .int .i64 0, .int .i64 0] 62)).alloc (.cells #[.int .i64 0, .int .i64 0, .int .i64 0, .int .i64 0] 62) = w0 at *
  go_loopw [7, 9] (fun v i wr => ∃ m Y : Nat, m ≤ M ∧ Y = k + m ∧ i = .int .i64 (Y : Int) ∧ v = .int .i64 ((m * n : Nat) : Int) ∧ ∃ q : Px, q = sumBox fat j n k m ∧ Sums q (m * n) ∧ SumB wr (w.heap.size + 1 + 1) q ∧ SumB wr (w.heap.size + 1) px0 ∧ RasAtB wr w.heap.size (W : Int) (H : Int) (some ⟨bA, oA, none⟩) nl c 30 ∧ Below w.heap.size w wr) (fun _ i _ => ((k : Int) + (M : Int) - intOf i).toNat)
  case atStart => exact ⟨0, k, Nat.zero_le _, rfl, rfl, by simp, px0, rfl, by unfold Sums px0; simp, HS0.out, HX0.out, HR0.out, HB0.out⟩
  case round =>
    obtain ⟨m, Y, hm, hY, rfl, rfl, q, hq, hsum, hS, hX, hR, hbel⟩ := hrel
    by_cases hlt : m < M
    · have HQ := Lib.hid hq
      have HS := Lib.hid hS
      have HX := Lib.hid hX
      have HR := Lib.hid hR
      have HB := Lib.hid hbel
      have HSM := Lib.hid hsum
      have HY := Lib.hid hY
      have r0 := hR.c0
      have r1 := hR.c1
      have hkm : (Y : Int) ≤ (k : Int) + (M : Int) - 1 := by omega
      have hkm2 : (0 : Int) ≤ (Y : Int) ∧ (Y : Int) < 6 := by omega
      have hYH : Y < H := by omega
      obtain ⟨C, hC⟩ : ∃ C, m * n = C := ⟨_, rfl⟩
      have hC36 : C + n ≤ 36 := by
        have h1 : (m + 1) * n ≤ 6 * n := Nat.mul_le_mul_right n (by omega)
        rw [Nat.add_mul, hC] at h1
        omega
      have HCC := Lib.hid hC
      rw [hC] at HSM ⊢
      clear hq hS hX hR hbel hsum hY hC
      go_wp2_with fail
      go_loopw [7, 10] (fun v i wq => ∃ a X : Nat, a ≤ n ∧ X = j + a ∧ i = .int .i64 (X : Int) ∧ v = .int .i64 ((C + a : Nat) : Int) ∧ ∃ q' : Px, q' = sumRow (fun x => fat x Y) q j a ∧ Sums q' (C + a) ∧ SumB wq (w.heap.size + 1 + 1) q' ∧ SumB wq (w.heap.size + 1) px0 ∧ RasAtB wq w.heap.size (W : Int) (H : Int) (some ⟨bA, oA, none⟩) nl c 30 ∧ Below w.heap.size w wq) (fun _ i _ => ((j : Int) + (n : Int) - intOf i).toNat)
      case atStart => exact ⟨0, j, Nat.zero_le _, rfl, rfl, rfl, q, rfl, HSM.out, HS.out, HX.out, HR.out, HB.out⟩
      case round =>
        clear HSM HS HX HR HB r0 r1
        obtain ⟨a, X, ha, hXe, rfl, rfl, q', hq, hsum, hS, hX, hR, hbel⟩ := hrel
        by_cases hlta : a < n
        · have HQ' := Lib.hid hq
          have HS := Lib.hid hS
          have HX := Lib.hid hX
          have HR := Lib.hid hR
          have HB := Lib.hid hbel
          have HSM := Lib.hid hsum
          have r0 := hR.c0
          have r1 := hR.c1
          have r2 := hR.c2
          have hja : (X : Int) ≤ (j : Int) + (n : Int) - 1 := by omega
          have hja2 : (0 : Int) ≤ (X : Int) ∧ (X : Int) < 6 := by omega
          have hXW : X < W := by omega
          have hpl9 := HPL.out X Y hXW hYH
          have hpx := HPX.out X Y hXW hYH
          have HPE : Hid (sumRow (fun x => fat x Y) q j (a + 1) = addP q' (fat X Y)) := Lib.hid (by rw [hq, hXe]; rfl)
          obtain ⟨p, hp⟩ : ∃ p, fat X Y = p := ⟨_, rfl⟩
          rw [hp] at hpl9 hpx HPE
          have HSA := Lib.hid (hsum.add hpx)
          obtain ⟨p1, p2, p3, p4⟩ := pixB_parts hpx
          obtain ⟨s1, s2, s3, s4⟩ := hsum
          have hCa : C + a ≤ 36 := by omega
          have HXE := Lib.hid hXe
          obtain ⟨P, hP⟩ : ∃ P, Y * W = P := ⟨_, rfl⟩
          obtain ⟨I, hI⟩ : ∃ I, P + X = I := ⟨_, rfl⟩
          rw [hP, hI] at hpl9
          have hPe : (Y : Int) * (W : Int) = (P : Int) := by rw [← hP, Int.natCast_mul]
          have hIe : (P : Int) + (X : Int) = (I : Int) := by omega
          have hP36 : P ≤ 36 := by
            have h1 : Y ≤ 6 := by omega
            have := Nat.mul_le_mul h1 hw6.2
            omega
          have hIn : (0 : Int) ≤ (I : Int) ∧ (I : Int) < (nl : Int) := by
            have := (List.getElem?_eq_some_iff.1 hpl9).1
            rw [HNL.out] at this
            omega
          have u3 := IntWalk.i64_in (P : Int) (by omega)
          have u4 := IntWalk.i64_in (I : Int) (by omega)
          obtain ⟨v0, v1, v2, v3⟩ : PxAt wr bA (oA + I * 4) p := by
            rcases HH.out.below hbel with h0 | ⟨b', o', e, _, hc'⟩
            · rw [h0] at hpl9; simp at hpl9
            · injection e with e
              injection e with e1 e2 _
              subst e1 e2
              exact hc' _ p hpl9
          have q0 := Box.cell hS (i := 0) rfl
          have q1 := Box.cell hS (i := 1) rfl
          have q2 := Box.cell hS (i := 2) rfl
          have q3 := Box.cell hS (i := 3) rfl
          have f0 := Box.free hS 0
          have f1 := Box.free hS 1
          have f2 := Box.free hS 2
          have f3 := Box.free hS 3
          have hlt2 := Box.lt hS
          have hnn : ¬ wr.heap.size = w.heap.size + 1 + 1 := by omega
          have hnn2 : ¬ w.heap.size + 1 + 1 = wr.heap.size := by omega
          have HS2 := HS
          have HX2 := HX
          have HR2 := HR
          have HB2 := HB
          clear hq hS hX hR hbel hp hXe hpx HSM hpl9 hP hI
          go_wp2_with fail
          have k4 : Box ((((wr.setCell ⟨w.heap.size + 1 + 1, 0, none⟩ (.int .i64 (q'.r + p.r))).setCell ⟨w.heap.size + 1 + 1, 1, none⟩ (.int .i64 (q'.g + p.g))).setCell ⟨w.heap.size + 1 + 1, 2, none⟩ (.int .i64 (q'.b + p.b))).setCell ⟨w.heap.size + 1 + 1, 3, none⟩ (.int .i64 (q'.a + p.a))) (w.heap.size + 1 + 1) #[.int .i64 (q'.r + p.r), .int .i64 (q'.g + p.g), .int .i64 (q'.b + p.b), .int .i64 (q'.a + p.a)] 62 := fin4 HS2.out _ _ _ _
          have kx : Box ((((wr.setCell ⟨w.heap.size + 1 + 1, 0, none⟩ (.int .i64 (q'.r + p.r))).setCell ⟨w.heap.size + 1 + 1, 1, none⟩ (.int .i64 (q'.g + p.g))).setCell ⟨w.heap.size + 1 + 1, 2, none⟩ (.int .i64 (q'.b + p.b))).setCell ⟨w.heap.size + 1 + 1, 3, none⟩ (.int .i64 (q'.a + p.a))) (w.heap.size + 1) #[.int .i64 px0.r, .int .i64 px0.g, .int .i64 px0.b, .int .i64 px0.a] 62 := (Box.set_other (b := w.heap.size + 1 + 1) (Box.set_other (b := w.heap.size + 1 + 1) (Box.set_other (b := w.heap.size + 1 + 1) (Box.set_other (b := w.heap.size + 1 + 1) HX2.out (by omega) 0 _) (by omega) 1 _) (by omega) 2 _) (by omega) 3 _)
          have kr : Box ((((wr.setCell ⟨w.heap.size + 1 + 1, 0, none⟩ (.int .i64 (q'.r + p.r))).setCell ⟨w.heap.size + 1 + 1, 1, none⟩ (.int .i64 (q'.g + p.g))).setCell ⟨w.heap.size + 1 + 1, 2, none⟩ (.int .i64 (q'.b + p.b))).setCell ⟨w.heap.size + 1 + 1, 3, none⟩ (.int .i64 (q'.a + p.a))) w.heap.size #[.int .i64 (W : Int), .int .i64 (H : Int), .slice (some ⟨bA, oA, none⟩) nl c] 30 := (Box.set_other (b := w.heap.size + 1 + 1) (Box.set_other (b := w.heap.size + 1 + 1) (Box.set_other (b := w.heap.size + 1 + 1) (Box.set_other (b := w.heap.size + 1 + 1) HR2.out (by omega) 0 _) (by omega) 1 _) (by omega) 2 _) (by omega) 3 _)
          have kb : Below w.heap.size w ((((wr.setCell ⟨w.heap.size + 1 + 1, 0, none⟩ (.int .i64 (q'.r + p.r))).setCell ⟨w.heap.size + 1 + 1, 1, none⟩ (.int .i64 (q'.g + p.g))).setCell ⟨w.heap.size + 1 + 1, 2, none⟩ (.int .i64 (q'.b + p.b))).setCell ⟨w.heap.size + 1 + 1, 3, none⟩ (.int .i64 (q'.a + p.a))) := ((((HB2.out.setCell (p := ⟨w.heap.size + 1 + 1, 0, none⟩) (by simp; omega) _).setCell (p := ⟨w.heap.size + 1 + 1, 1, none⟩) (by simp; omega) _).setCell (p := ⟨w.heap.size + 1 + 1, 2, none⟩) (by simp; omega) _).setCell (p := ⟨w.heap.size + 1 + 1, 3, none⟩) (by simp; omega) _)
          have HE := Lib.hid (And.intro k4 (And.intro kx (And.intro kr kb)))
          clear k4 kx kr kb
          go_roundw
          case rel => exact ⟨a + 1, X + 1, by omega, by rw [HXE.out]; omega, by go_num, by go_num, addP q' p, by rw [HPE.out], HSA.out, Box.alloc HE.out.1 _, Box.alloc HE.out.2.1 _, Box.alloc HE.out.2.2.1 _, HE.out.2.2.2.alloc HE.out.2.2.2.size _⟩
          case measure => simp [intOf]; omega
        · obtain rfl : a = n := by omega
          have HS := Lib.hid hS
          have HX := Lib.hid hX
          have HR := Lib.hid hR
          have HB := Lib.hid hbel
          have HSM := Lib.hid hsum
          have HXE := Lib.hid hXe
          have r0 := hR.c0
          have hja : ¬ ((X : Int) ≤ (j : Int) + (a : Int) - 1) := by omega
          have hX6 : (0 : Int) ≤ (X : Int) ∧ (X : Int) ≤ 6 := by omega
          have HE : Hid (q' = sumBox fat j a k (m + 1)) := Lib.hid (by rw [hq, HQ.out, HY.out]; rfl)
          have HCE : Hid (C + a = (m + 1) * a) := Lib.hid (by rw [Nat.add_mul, Nat.one_mul, HCC.out])
          clear hq hS hX hR hbel hsum hXe
          go_wp2_with fail
          go_roundw
          case rel => exact ⟨m + 1, Y + 1, by omega, by rw [HY.out]; omega, by go_num, by rw [HCE.out], q', HE.out, by rw [← HCE.out]; exact HSM.out, HS.out, HX.out, HR.out, HB.out⟩
          case measure => simp [intOf]; omega
    · obtain rfl : m = M := by omega
      obtain ⟨N, hN⟩ : ∃ N, m * n = N := ⟨_, rfl⟩
      have hN1 : 1 ≤ N := by
        rw [← hN]
        exact Nat.mul_pos (by omega) (by omega)
      have hN36 : N ≤ 36 := by
        have h1 : m * n ≤ 6 * n := Nat.mul_le_mul_right n (by omega)
        rw [hN] at h1
        omega
      have hme := hG.out q hq
      rw [hN] at hsum hme ⊢
      obtain ⟨s1, s2, s3, s4⟩ := hsum
      have hNz : ¬ ((N : Int) = 0) := by omega
      have hNz2 : ¬ N = 0 := by omega
      obtain ⟨R, hRq⟩ : ∃ R, q.r / (N : Int) = R := ⟨_, rfl⟩
      have uR : q.r.tdiv (N : Int) = R := by rw [Int.tdiv_eq_ediv_of_nonneg s1.1]; exact hRq
      have bR : 0 ≤ R ∧ R ≤ 255 * (N : Int) := by
        rw [← hRq]
        exact ⟨Int.ediv_nonneg s1.1 (by omega), Int.le_trans (Int.ediv_le_self _ s1.1) s1.2⟩
      have wR := IntWalk.i64_in R (by omega)
      obtain ⟨G, hGq⟩ : ∃ G, q.g / (N : Int) = G := ⟨_, rfl⟩
      have uG : q.g.tdiv (N : Int) = G := by rw [Int.tdiv_eq_ediv_of_nonneg s2.1]; exact hGq
      have bG : 0 ≤ G ∧ G ≤ 255 * (N : Int) := by
        rw [← hGq]
        exact ⟨Int.ediv_nonneg s2.1 (by omega), Int.le_trans (Int.ediv_le_self _ s2.1) s2.2⟩
      have wG := IntWalk.i64_in G (by omega)
      obtain ⟨B, hBq⟩ : ∃ B, q.b / (N : Int) = B := ⟨_, rfl⟩
      have uB : q.b.tdiv (N : Int) = B := by rw [Int.tdiv_eq_ediv_of_nonneg s3.1]; exact hBq
      have bB : 0 ≤ B ∧ B ≤ 255 * (N : Int) := by
        rw [← hBq]
        exact ⟨Int.ediv_nonneg s3.1 (by omega), Int.le_trans (Int.ediv_le_self _ s3.1) s3.2⟩
      have wB := IntWalk.i64_in B (by omega)
      obtain ⟨E, hEq⟩ : ∃ E, q.a / (N : Int) = E := ⟨_, rfl⟩
      have uE : q.a.tdiv (N : Int) = E := by rw [Int.tdiv_eq_ediv_of_nonneg s4.1]; exact hEq
      have bE : 0 ≤ E ∧ E ≤ 255 * (N : Int) := by
        rw [← hEq]
        exact ⟨Int.ediv_nonneg s4.1 (by omega), Int.le_trans (Int.ediv_le_self _ s4.1) s4.2⟩
      have wE := IntWalk.i64_in E (by omega)
      rw [hRq, hGq, hBq, hEq] at hme
      subst hme
      have HSd : SumB wr.drew (w.heap.size + 1 + 1) q := Box.drew hS
      have HS := Lib.hid (⟨Box.cell HSd (i := 0) rfl, Box.cell HSd (i := 1) rfl, Box.cell HSd (i := 2) rfl, Box.cell HSd (i := 3) rfl⟩ : wr.drew.cell? ⟨w.heap.size + 1 + 1, 0, none⟩ = some (.int .i64 q.r) ∧ wr.drew.cell? ⟨w.heap.size + 1 + 1, 1, none⟩ = some (.int .i64 q.g) ∧ wr.drew.cell? ⟨w.heap.size + 1 + 1, 2, none⟩ = some (.int .i64 q.b) ∧ wr.drew.cell? ⟨w.heap.size + 1 + 1, 3, none⟩ = some (.int .i64 q.a))
      have HXd : Hid (SumB wr.drew (w.heap.size + 1) px0) := Lib.hid (Box.drew hX)
      have HBd := Lib.hid (below_draws hbel 1)
      have hxd : SumB wr (w.heap.size + 1) px0 := hX
      have q0 := Box.cell hxd (i := 0) rfl
      have q1 := Box.cell hxd (i := 1) rfl
      have q2 := Box.cell hxd (i := 2) rfl
      have q3 := Box.cell hxd (i := 3) rfl
      have f0 := Box.free hxd 0
      have f1 := Box.free hxd 1
      have f2 := Box.free hxd 2
      have f3 := Box.free hxd 3
      have r1 := hR.c1
      have hkm : ¬ ((Y : Int) ≤ (k : Int) + (m : Int) - 1) := by omega
      have hk6 : (0 : Int) ≤ (Y : Int) ∧ (Y : Int) ≤ 6 := by omega
      clear hq hN hS hX hR hbel HSd hY hxd hRq hGq hBq hEq s1 s2 s3 s4 bR bG bB bE
      go_wp2_with fail
      refine wp_region_T (fun w' => w'.cell? ⟨w.heap.size + 1 + 1, 0, none⟩ = some (.int .i64 q.r) ∧ w'.cell? ⟨w.heap.size + 1 + 1, 1, none⟩ = some (.int .i64 q.g) ∧ w'.cell? ⟨w.heap.size + 1 + 1, 2, none⟩ = some (.int .i64 q.b) ∧ w'.cell? ⟨w.heap.size + 1 + 1, 3, none⟩ = some (.int .i64 q.a)) 17 (by kernel_rfl) ?_
      refine wpAnyT_take (i := 0) (d := 72) (v := .pointer (some ⟨w.heap.size + 1 + 1, 0, none⟩)) rfl rfl (by kernel_rfl) (by kernel_rfl) (by kernel_rfl) (by kernel_rfl) (by kernel_rfl) (fun _ _ _ h => h) HS.out (Or.inl ⟨by rfl, fun w' hS' => ?_⟩) ?_
      · obtain ⟨s0, s1, s2, s3⟩ := hS'
        go_simp
      simp only [Act.put, List.setIfInBounds_toArray, List.set_cons_zero, List.set_cons_succ]
      refine wpAnyT_take (i := 1) (d := 73) (v := .int .i64 q.r) rfl rfl (by kernel_rfl) (by kernel_rfl) (by kernel_rfl) (by kernel_rfl) (by kernel_rfl) (fun _ _ _ h => h) HS.out (Or.inl ⟨by rfl, fun w' hS' => ?_⟩) ?_
      · obtain ⟨s0, s1, s2, s3⟩ := hS'
        go_simp
      simp only [Act.put, List.setIfInBounds_toArray, List.set_cons_zero, List.set_cons_succ]
      refine wpAnyT_take (i := 2) (d := 74) (v := .int .i64 (N : Int)) rfl rfl (by kernel_rfl) (by kernel_rfl) (by kernel_rfl) (by kernel_rfl) (by kernel_rfl) (fun _ _ _ h => h) HS.out (Or.inl ⟨by rfl, fun w' hS' => ?_⟩) ?_
      · obtain ⟨s0, s1, s2, s3⟩ := hS'
        go_simp
      simp only [Act.put, List.setIfInBounds_toArray, List.set_cons_zero, List.set_cons_succ]
      refine wpAnyT_take (i := 3) (d := 75) (v := .int .i64 R) rfl rfl (by kernel_rfl) (by kernel_rfl) (by kernel_rfl) (by kernel_rfl) (by kernel_rfl) (fun _ _ _ h => h) HS.out (Or.inl ⟨by rfl, fun w' hS' => ?_⟩) ?_
      · obtain ⟨s0, s1, s2, s3⟩ := hS'
        go_simp
      simp only [Act.put, List.setIfInBounds_toArray, List.set_cons_zero, List.set_cons_succ]
      refine wpAnyT_take (i := 4) (d := 76) (v := .pointer (some ⟨w.heap.size + 1 + 1, 1, none⟩)) rfl rfl (by kernel_rfl) (by kernel_rfl) (by kernel_rfl) (by kernel_rfl) (by kernel_rfl) (fun _ _ _ h => h) HS.out (Or.inl ⟨by rfl, fun w' hS' => ?_⟩) ?_
      · obtain ⟨s0, s1, s2, s3⟩ := hS'
        go_simp
      simp only [Act.put, List.setIfInBounds_toArray, List.set_cons_zero, List.set_cons_succ]
      refine wpAnyT_take (i := 5) (d := 77) (v := .int .i64 q.g) rfl rfl (by kernel_rfl) (by kernel_rfl) (by kernel_rfl) (by kernel_rfl) (by kernel_rfl) (fun _ _ _ h => h) HS.out (Or.inl ⟨by rfl, fun w' hS' => ?_⟩) ?_
      · obtain ⟨s0, s1, s2, s3⟩ := hS'
        go_simp
      simp only [Act.put, List.setIfInBounds_toArray, List.set_cons_zero, List.set_cons_succ]
      refine wpAnyT_take (i := 6) (d := 78) (v := .int .i64 (N : Int)) rfl rfl (by kernel_rfl) (by kernel_rfl) (by kernel_rfl) (by kernel_rfl) (by kernel_rfl) (fun _ _ _ h => h) HS.out (Or.inl ⟨by rfl, fun w' hS' => ?_⟩) ?_
      · obtain ⟨s0, s1, s2, s3⟩ := hS'
        go_simp
      simp only [Act.put, List.setIfInBounds_toArray, List.set_cons_zero, List.set_cons_succ]
      refine wpAnyT_take (i := 7) (d := 79) (v := .int .i64 G) rfl rfl (by kernel_rfl) (by kernel_rfl) (by kernel_rfl) (by kernel_rfl) (by kernel_rfl) (fun _ _ _ h => h) HS.out (Or.inl ⟨by rfl, fun w' hS' => ?_⟩) ?_
      · obtain ⟨s0, s1, s2, s3⟩ := hS'
        go_simp
      simp only [Act.put, List.setIfInBounds_toArray, List.set_cons_zero, List.set_cons_succ]
      refine wpAnyT_take (i := 8) (d := 80) (v := .pointer (some ⟨w.heap.size + 1 + 1, 2, none⟩)) rfl rfl (by kernel_rfl) (by kernel_rfl) (by kernel_rfl) (by kernel_rfl) (by kernel_rfl) (fun _ _ _ h => h) HS.out (Or.inl ⟨by rfl, fun w' hS' => ?_⟩) ?_
      · obtain ⟨s0, s1, s2, s3⟩ := hS'
        go_simp
      simp only [Act.put, List.setIfInBounds_toArray, List.set_cons_zero, List.set_cons_succ]
      refine wpAnyT_take (i := 9) (d := 81) (v := .int .i64 q.b) rfl rfl (by kernel_rfl) (by kernel_rfl) (by kernel_rfl) (by kernel_rfl) (by kernel_rfl) (fun _ _ _ h => h) HS.out (Or.inl ⟨by rfl, fun w' hS' => ?_⟩) ?_
      · obtain ⟨s0, s1, s2, s3⟩ := hS'
        go_simp
      simp only [Act.put, List.setIfInBounds_toArray, List.set_cons_zero, List.set_cons_succ]
      refine wpAnyT_take (i := 10) (d := 82) (v := .int .i64 (N : Int)) rfl rfl (by kernel_rfl) (by kernel_rfl) (by kernel_rfl) (by kernel_rfl) (by kernel_rfl) (fun _ _ _ h => h) HS.out (Or.inl ⟨by rfl, fun w' hS' => ?_⟩) ?_
      · obtain ⟨s0, s1, s2, s3⟩ := hS'
        go_simp
      simp only [Act.put, List.setIfInBounds_toArray, List.set_cons_zero, List.set_cons_succ]
      refine wpAnyT_take (i := 11) (d := 83) (v := .int .i64 B) rfl rfl (by kernel_rfl) (by kernel_rfl) (by kernel_rfl) (by kernel_rfl) (by kernel_rfl) (fun _ _ _ h => h) HS.out (Or.inl ⟨by rfl, fun w' hS' => ?_⟩) ?_
      · obtain ⟨s0, s1, s2, s3⟩ := hS'
        go_simp
      simp only [Act.put, List.setIfInBounds_toArray, List.set_cons_zero, List.set_cons_succ]
      refine wpAnyT_take (i := 12) (d := 84) (v := .pointer (some ⟨w.heap.size + 1 + 1, 3, none⟩)) rfl rfl (by kernel_rfl) (by kernel_rfl) (by kernel_rfl) (by kernel_rfl) (by kernel_rfl) (fun _ _ _ h => h) HS.out (Or.inl ⟨by rfl, fun w' hS' => ?_⟩) ?_
      · obtain ⟨s0, s1, s2, s3⟩ := hS'
        go_simp
      simp only [Act.put, List.setIfInBounds_toArray, List.set_cons_zero, List.set_cons_succ]
      refine wpAnyT_take (i := 13) (d := 85) (v := .int .i64 q.a) rfl rfl (by kernel_rfl) (by kernel_rfl) (by kernel_rfl) (by kernel_rfl) (by kernel_rfl) (fun _ _ _ h => h) HS.out (Or.inl ⟨by rfl, fun w' hS' => ?_⟩) ?_
      · obtain ⟨s0, s1, s2, s3⟩ := hS'
        go_simp
      simp only [Act.put, List.setIfInBounds_toArray, List.set_cons_zero, List.set_cons_succ]
      refine wpAnyT_take (i := 14) (d := 86) (v := .int .i64 (N : Int)) rfl rfl (by kernel_rfl) (by kernel_rfl) (by kernel_rfl) (by kernel_rfl) (by kernel_rfl) (fun _ _ _ h => h) HS.out (Or.inl ⟨by rfl, fun w' hS' => ?_⟩) ?_
      · obtain ⟨s0, s1, s2, s3⟩ := hS'
        go_simp
      simp only [Act.put, List.setIfInBounds_toArray, List.set_cons_zero, List.set_cons_succ]
      refine wpAnyT_take (i := 15) (d := 87) (v := .int .i64 E) rfl rfl (by kernel_rfl) (by kernel_rfl) (by kernel_rfl) (by kernel_rfl) (by kernel_rfl) (fun _ _ _ h => h) HS.out (Or.inl ⟨by rfl, fun w' hS' => ?_⟩) ?_
      · obtain ⟨s0, s1, s2, s3⟩ := hS'
        go_simp
      simp only [Act.put, List.setIfInBounds_toArray, List.set_cons_zero, List.set_cons_succ]
      refine wpAnyT_take (i := 16) (d := 88) (v := .agg #[.int .i64 R, .int .i64 G, .int .i64 B, .int .i64 E]) rfl rfl (by kernel_rfl) (by kernel_rfl) (by kernel_rfl) (by kernel_rfl) (by kernel_rfl) (fun _ _ _ h => h) HS.out (Or.inl ⟨by rfl, fun w' hS' => ?_⟩) ?_
      · obtain ⟨s0, s1, s2, s3⟩ := hS'
        go_simp
      simp only [Act.put, List.setIfInBounds_toArray, List.set_cons_zero, List.set_cons_succ]
      refine wpAnyT_one (i := 17) (by kernel_rfl) rfl (fun K hK => ?_)
      go_simp
      refine hK.out _ _ last_out ?_
      clear hK
      refine wpAnyT_done (by kernel_rfl) ?_ _
      go_wp2_with fail
      (try simp only [Exit.inBlock, Exit.then])
      refine bodyPost_ret (results_cell_row rfl _ _ (w.heap.size + 1) 62 #[.int .i64 R, .int .i64 G, .int .i64 B, .int .i64 E] (0, 0) _ rfl (fin4 HXd.out _ _ _ _) Tryd.underlying62 rfl (by kernel_rfl)) rfl ?_
      exact ⟨rfl, below_px HBd.out (by omega) _ _ _ _⟩
end Go.Proofs.YtiemlakjallphabDoor
namespace Go.Proofs.YtiemlakjallphabDoor
set_option maxRecDepth 4000
open Go.RowKit

set_option maxHeartbeats 1000000 in
theorem l6Gray_any (p : Px) (w : World) (hp : pixB p = true) : Calls Tryd.prog 85 #[p.v] w fun e w' => e = .returned (grayP p).v ∧ Below w.heap.size w w' := by
  obtain ⟨h1, h2, h3, h4⟩ := pixB_parts hp
  obtain ⟨r, g, b, a⟩ := p
  simp only at h1 h2 h3 h4
  obtain ⟨N, hN⟩ : ∃ N, (77 * r + 150 * g + 29 * b) / 256 = N := ⟨_, rfl⟩
  have hT : (77 * r + 150 * g + 29 * b).tdiv 256 = N := by rw [Int.tdiv_eq_ediv_of_nonneg (by omega)]; exact hN
  have hG : grayP ⟨r, g, b, a⟩ = ⟨N, N, N, a⟩ := by unfold grayP; simp only [hN]
  rw [hG]
  clear hG
  unfold Px.v
  simp only
  have box2 : ∀ (x y z t : Value) (s : Array Value), Box ((w.alloc (.cells s 62)).alloc (.cells #[x, y, z, t] 62)) (w.heap.size + 1) #[x, y, z, t] 62 := fun x y z t s => by
    have := Box.new (w.alloc (.cells s 62)) #[x, y, z, t] 62
    rw [show (w.alloc (.cells s 62)).heap.size = w.heap.size + 1 from by simp] at this
    exact this
  have HX0 := Lib.hid (box2 (.int .i64 N) (.int .i64 N) (.int .i64 N) (.int .i64 a) #[.int .i64 r, .int .i64 g, .int .i64 b, .int .i64 a])
  have HB0 : Hid (Below w.heap.size w ((w.alloc (.cells #[.int .i64 r, .int .i64 g, .int .i64 b, .int .i64 a] 62)).alloc (.cells #[.int .i64 N, .int .i64 N, .int .i64 N, .int .i64 a] 62))) := Lib.hid (((Below.refl _ w).alloc (Nat.le_refl _) _).alloc (by simp) _)
  clear box2 hp
  go_enter Tryd.func85, Tryd.ntmps85
  go_wp2_with fail
  generalize (w.alloc (.cells #[.int .i64 r, .int .i64 g, .int .i64 b, .int .i64 a] 62)).alloc (.cells #[.int .i64 N, .int .i64 N, .int .i64 N, .int .i64 a] 62) = w0 at *
  (try simp only [Exit.inBlock, Exit.then])
  refine bodyPost_ret (results_cell_row rfl _ _ (w.heap.size + 1) 62 #[.int .i64 N, .int .i64 N, .int .i64 N, .int .i64 a] (0, 0) _ rfl HX0.out Tryd.underlying62 rfl (by kernel_rfl)) rfl ?_
  exact ⟨rfl, HB0.out⟩
set_option maxHeartbeats 2000000 in
theorem l6Flat_any (p : Px) (o : Op) (w : World) (hp : pixB p = true) (ha : 0 ≤ o.a ∧ o.a ≤ 255) (hb : 0 ≤ o.b ∧ o.b ≤ 255) (hc : 0 ≤ o.c ∧ o.c ≤ 255) :
    Calls Tryd.prog 87 #[p.v, o.v] w fun e w' => e = .returned (flatP1 o p).v ∧ Below w.heap.size w w' := by
  obtain ⟨h1, h2, h3, h4⟩ := pixB_parts hp
  obtain ⟨r, g, b, a⟩ := p
  obtain ⟨k, x, y, z, d⟩ := o
  simp only at h1 h2 h3 h4 ha hb hc
  obtain ⟨q, hq⟩ : ∃ q, 255 - a = q := ⟨_, rfl⟩
  have hq255 : 0 ≤ q ∧ q ≤ 255 := by omega
  have M : ∀ m n : Int, (0 ≤ m ∧ m ≤ 255) → (0 ≤ n ∧ n ≤ 255) → 0 ≤ m * n ∧ m * n ≤ 255 * 255 := fun m n hm hn => ⟨Int.mul_nonneg hm.1 hn.1, Int.mul_le_mul hm.2 hn.2 hn.1 (by decide)⟩
  have m1 := M r a h1 h4
  have m2 := M x q ha hq255
  have m3 := M g a h2 h4
  have m4 := M y q hb hq255
  have m5 := M b a h3 h4
  have m6 := M z q hc hq255
  have HF : Hid (flatP1 ⟨k, x, y, z, d⟩ ⟨r, g, b, a⟩ = ⟨(r * a + x * q) / 255, (g * a + y * q) / 255, (b * a + z * q) / 255, 255⟩) := Lib.hid (by unfold flatP1; simp only [hq])
  obtain ⟨s1, e1⟩ : ∃ s, r * a = s := ⟨_, rfl⟩
  obtain ⟨s2, e2⟩ : ∃ s, x * q = s := ⟨_, rfl⟩
  obtain ⟨s3, e3⟩ : ∃ s, g * a = s := ⟨_, rfl⟩
  obtain ⟨s4, e4⟩ : ∃ s, y * q = s := ⟨_, rfl⟩
  obtain ⟨s5, e5⟩ : ∃ s, b * a = s := ⟨_, rfl⟩
  obtain ⟨s6, e6⟩ : ∃ s, z * q = s := ⟨_, rfl⟩
  rw [e1] at m1
  rw [e2] at m2
  rw [e3] at m3
  rw [e4] at m4
  rw [e5] at m5
  rw [e6] at m6
  rw [HF.out, e1, e2, e3, e4, e5, e6]
  obtain ⟨N1, hN1⟩ : ∃ N, (s1 + s2) / 255 = N := ⟨_, rfl⟩
  obtain ⟨N2, hN2⟩ : ∃ N, (s3 + s4) / 255 = N := ⟨_, rfl⟩
  obtain ⟨N3, hN3⟩ : ∃ N, (s5 + s6) / 255 = N := ⟨_, rfl⟩
  have t1 : (s1 + s2).tdiv 255 = N1 := by rw [Int.tdiv_eq_ediv_of_nonneg (by omega)]; exact hN1
  have t2 : (s3 + s4).tdiv 255 = N2 := by rw [Int.tdiv_eq_ediv_of_nonneg (by omega)]; exact hN2
  have t3 : (s5 + s6).tdiv 255 = N3 := by rw [Int.tdiv_eq_ediv_of_nonneg (by omega)]; exact hN3
  rw [hN1, hN2, hN3]
  clear HF M hp
  unfold Px.v Op.v
  simp only
  have HX0 : Hid (Box (((w.alloc (.cells #[.int .i64 r, .int .i64 g, .int .i64 b, .int .i64 a] 62)).alloc (.cells #[.int .i64 k, .int .i64 x, .int .i64 y, .int .i64 z, .int .i64 d] 49)).alloc (.cells #[.int .i64 N1, .int .i64 N2, .int .i64 N3, .int .i64 255] 62)) (w.heap.size + 1 + 1) #[.int .i64 N1, .int .i64 N2, .int .i64 N3, .int .i64 255] 62) := Lib.hid (by
    have := Box.new ((w.alloc (.cells #[.int .i64 r, .int .i64 g, .int .i64 b, .int .i64 a] 62)).alloc (.cells #[.int .i64 k, .int .i64 x, .int .i64 y, .int .i64 z, .int .i64 d] 49)) #[.int .i64 N1, .int .i64 N2, .int .i64 N3, .int .i64 255] 62
    rw [show ((w.alloc (.cells #[.int .i64 r, .int .i64 g, .int .i64 b, .int .i64 a] 62)).alloc (.cells #[.int .i64 k, .int .i64 x, .int .i64 y, .int .i64 z, .int .i64 d] 49)).heap.size = w.heap.size + 1 + 1 from by simp] at this
    exact this)
  have HB0 : Hid (Below w.heap.size w (((w.alloc (.cells #[.int .i64 r, .int .i64 g, .int .i64 b, .int .i64 a] 62)).alloc (.cells #[.int .i64 k, .int .i64 x, .int .i64 y, .int .i64 z, .int .i64 d] 49)).alloc (.cells #[.int .i64 N1, .int .i64 N2, .int .i64 N3, .int .i64 255] 62))) := Lib.hid ((((Below.refl _ w).alloc (Nat.le_refl _) _).alloc (by simp) _).alloc (by simp; omega) _)
  go_enter Tryd.func87, Tryd.ntmps87
  go_wp2_with fail
  generalize (((w.alloc (.cells #[.int .i64 r, .int .i64 g, .int .i64 b, .int .i64 a] 62)).alloc (.cells #[.int .i64 k, .int .i64 x, .int .i64 y, .int .i64 z, .int .i64 d] 49)).alloc (.cells #[.int .i64 N1, .int .i64 N2, .int .i64 N3, .int .i64 255] 62)) = w0 at *
  (try simp only [Exit.inBlock, Exit.then])
  refine bodyPost_ret (results_cell_row rfl _ _ (w.heap.size + 1 + 1) 62 #[.int .i64 N1, .int .i64 N2, .int .i64 N3, .int .i64 255] (0, 0) _ rfl HX0.out Tryd.underlying62 rfl (by kernel_rfl)) rfl ?_
  exact ⟨rfl, HB0.out⟩
end Go.Proofs.YtiemlakjallphabDoor
