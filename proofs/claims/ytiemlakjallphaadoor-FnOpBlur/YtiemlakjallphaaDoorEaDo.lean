/-
  eaDo of the laws: operations on a raster one behind the other, each of which can be done. Conditions: the raster's pixels and the operations are read from memory that was there; the table of ranges reads as the program's text lays it.
-/
import Derived.Test.YtiemlakjallphaaDoorRegN
import Derived.Test.YtiemlakjallphaaDoorOpDoI
import Derived.Test.YtiemlakjallphaaDoorDrawRasC
namespace Go.Proofs.YtiemlakjallphaaDoor
set_option maxRecDepth 4000
open Go.RowKit

/-- All operations can be done, one behind the other. -/
def canAll : Ra → List Op → Prop
  | _, [] => True
  | r, o :: l => opB o = true ∧ ∃ s, doR r o = some s ∧ canAll s l
theorem canAll_step {r : Ra} {o : Op} {l : List Op} (h : r.ok) (hc : canAll r (o :: l)) : opB o = true ∧ ∃ s, doR r o = some s ∧ s.ok ∧ canAll s l ∧ eaR r (o :: l) = eaR s l := by
  obtain ⟨ho, s, hs, hl⟩ := hc
  exact ⟨ho, s, hs, doR_ok h ho hs, hl, by rw [eaR_cons, opDo_ok h ho, hs]; rfl⟩
/-- What eaDo answers. -/
def EaDid (s : Ra) (w : World) (e : Ending) (w' : World) : Prop := ∃ v, e = .returned v ∧ IsRa s w' v ∧ Below w.heap.size w w'
/-- Five cells from a place on hold an operation. -/
def OpCs (w : World) (b o : Nat) (x : Op) : Prop := w.cell? ⟨b, o, none⟩ = some (.int .i64 x.k) ∧ w.cell? ⟨b, o + 1, none⟩ = some (.int .i64 x.a) ∧ w.cell? ⟨b, o + 2, none⟩ = some (.int .i64 x.b) ∧ w.cell? ⟨b, o + 3, none⟩ = some (.int .i64 x.c) ∧ w.cell? ⟨b, o + 4, none⟩ = some (.int .i64 x.d)
theorem OpCs.kept {w w' : World} {b o : Nat} {x : Op} (h : OpCs w b o x) (hk : ∀ q : Addr, q.block = b → w'.cell? q = w.cell? q) : OpCs w' b o x :=
  ⟨(hk _ rfl).trans h.1, (hk _ rfl).trans h.2.1, (hk _ rfl).trans h.2.2.1, (hk _ rfl).trans h.2.2.2.1, (hk _ rfl).trans h.2.2.2.2⟩
/-- The state of eaDo after k operations. -/
def EaSt (w : World) (fin : Ra) (os : List Op) (k : Nat) (wr : World) : Prop :=
  ∃ x A1 c1, x.ok ∧ canAll x (os.drop k) ∧ eaR x (os.drop k) = fin ∧ x.p.length ≤ c1 ∧ HasP wr wr.heap.size A1 x.p ∧ (∀ b o, A1 = some ⟨b, o, none⟩ → b ≠ w.heap.size ∧ b ≠ w.heap.size + 1) ∧ RasAtB wr (w.heap.size) (x.w : Int) (x.h : Int) A1 x.p.length c1 25 ∧ RasAtB wr (w.heap.size + 1) 0 0 none 0 0 25 ∧ Below w.heap.size w wr
set_option maxHeartbeats 4000000 in
theorem eaDo_any (r : Ra) (A : Option Addr) (c : Nat) (L : Option Addr) (lc : Nat) (os : List Op) (w : World) (hr : r.ok) (hcan : canAll r os) (hR : RangesIn w) (hc : r.p.length ≤ c) (h : HasP w w.heap.size A r.p) (hl : opE.Has w w.heap.size L os) (hn : os.length ≤ 1000) :
    Calls Tryd.prog 20 #[raV r A c, .slice L os.length lc] w (EaDid (eaR r os) w) := by
  obtain ⟨fin, hfin⟩ : ∃ fin, eaR r os = fin := ⟨_, rfl⟩
  rw [hfin]
  have hA : ∀ b o, A = some ⟨b, o, none⟩ → b ≠ w.heap.size ∧ b ≠ w.heap.size + 1 := by
    intro b o e
    have hlen := ra_len hr
    obtain ⟨b', o', p, e', hb', _⟩ := h.spot (k := 0) (by omega)
    rw [e] at e'
    injection e' with e'
    injection e' with e1 _ _
    subst e1
    omega
  obtain ⟨n0, hn0⟩ : ∃ n0, r.p.length = n0 := ⟨_, rfl⟩
  have hb0 : Below w.heap.size w ((w.alloc (.cells #[.int .i64 (r.w : Int), .int .i64 (r.h : Int), .slice A n0 c] 25)).alloc (.cells #[.int .i64 0, .int .i64 0, .slice none 0 0] 25)) := ((Below.refl _ w).alloc (Nat.le_refl _) _).alloc (by simp) _
  have hP0 : RasAtB ((w.alloc (.cells #[.int .i64 (r.w : Int), .int .i64 (r.h : Int), .slice A n0 c] 25)).alloc (.cells #[.int .i64 0, .int .i64 0, .slice none 0 0] 25)) (w.heap.size) (r.w : Int) (r.h : Int) A n0 c 25 := Box.alloc (Box.new w _ _) _
  have hZ0 : RasAtB ((w.alloc (.cells #[.int .i64 (r.w : Int), .int .i64 (r.h : Int), .slice A n0 c] 25)).alloc (.cells #[.int .i64 0, .int .i64 0, .slice none 0 0] 25)) (w.heap.size + 1) 0 0 none 0 0 25 := by
    have := Box.new (w.alloc (.cells #[.int .i64 (r.w : Int), .int .i64 (r.h : Int), .slice A n0 c] 25)) #[.int .i64 0, .int .i64 0, .slice none 0 0] 25
    rw [show (w.alloc (.cells #[.int .i64 (r.w : Int), .int .i64 (r.h : Int), .slice A n0 c] 25)).heap.size = w.heap.size + 1 from by simp] at this
    exact this
  have HST : Hid (EaSt w fin os 0 ((w.alloc (.cells #[.int .i64 (r.w : Int), .int .i64 (r.h : Int), .slice A n0 c] 25)).alloc (.cells #[.int .i64 0, .int .i64 0, .slice none 0 0] 25))) := Lib.hid ⟨r, A, c, hr, by simpa using hcan, by simpa using hfin, hc, h.carry hb0 (Nat.le_refl _) hb0.size, hA, by rw [hn0]; exact hP0, hZ0, hb0⟩
  have HL := Lib.hid hl
  have HR := Lib.hid hR
  have HG : Hid (∀ w' A' c', fin.p.length ≤ c' → HasP w' w'.heap.size A' fin.p → Below w.heap.size w w' → EaDid fin w (.returned (.agg #[.int .i64 (fin.w : Int), .int .i64 (fin.h : Int), .slice A' fin.p.length c'])) w') := Lib.hid fun w' A' c' k1 k2 k3 => ⟨_, rfl, ⟨A', c', rfl, k1, k2⟩, k3⟩
  obtain ⟨N, hN⟩ : ∃ N, os.length = N := ⟨_, rfl⟩
  have HN := Lib.hid hN
  rw [hN] at hn ⊢
  unfold raV rasV
  rw [hn0]
  clear hb0 hP0 hZ0 hr hcan hfin hc h hA hn0 hl hR hN
  go_enter Tryd.func20, Tryd.ntmps20
  go_wp2_with fail
  generalize ((w.alloc (.cells #[.int .i64 (r.w : Int), .int .i64 (r.h : Int), .slice A n0 c] 25)).alloc (.cells #[.int .i64 0, .int .i64 0, .slice none 0 0] 25)) = w0 at *
  go_loopw [5] (fun v wr => ∃ k : Nat, k ≤ N ∧ v = .int .i64 (k : Int) ∧ EaSt w fin os k wr) (fun v _ => N - (intOf v).toNat)
  case atStart => exact ⟨0, Nat.zero_le _, rfl, HST.out⟩
  case round =>
    obtain ⟨k, hk, rfl, x, A1, c1, hok, hcan, hfin, hc1, hh, hne, hP, hZ, hbel⟩ := hrel
    by_cases hlt : k < N
    · obtain ⟨q, hq⟩ : ∃ q, os[k]? = some q := ⟨_, List.getElem?_eq_getElem (by rw [HN.out]; exact hlt)⟩
      have hdrop : os.drop k = q :: os.drop (k + 1) := by
        rw [List.drop_eq_getElem_cons (by rw [HN.out]; exact hlt)]
        rw [List.getElem?_eq_getElem (by rw [HN.out]; exact hlt)] at hq
        injection hq with hq
        rw [hq]
      rw [hdrop] at hcan hfin
      obtain ⟨hqo, s, hs, hsok, hscan, hse⟩ := canAll_step hok hcan
      have HOK : Hid (s.ok ∧ canAll s (os.drop (k + 1)) ∧ eaR s (os.drop (k + 1)) = fin) := Lib.hid ⟨hsok, hscan, hse.symm.trans hfin⟩
      obtain ⟨b, o, rfl, hbw, hqc⟩ : ∃ b o, L = some ⟨b, o, none⟩ ∧ b < w.heap.size ∧ OpCs wr b (o + k * 5) q := by
        obtain ⟨b, o, y, e, hb, hy, hc⟩ := HL.out.spot (k := k) (by rw [HN.out]; exact hlt)
        rw [hq] at hy
        injection hy with hy
        subst hy
        refine ⟨b, o, e, hb, OpCs.kept (w := w) ⟨hc 0 _ rfl, hc 1 _ rfl, hc 2 _ rfl, hc 3 _ rfl, hc 4 _ rfl⟩ fun p hp => hbel.cell (by omega)⟩
      obtain ⟨n1, hn1⟩ : ∃ n1, x.p.length = n1 := ⟨_, rfl⟩
      obtain ⟨m2, hm2⟩ : ∃ m2, s.p.length = m2 := ⟨_, rfl⟩
      have hk2 := HR.out.below hbel HR.out.1
      have CO : Hid (∀ u, Below wr.drew.heap.size wr.drew u → Calls Tryd.prog 12 #[.agg #[.int .i64 (x.w : Int), .int .i64 (x.h : Int), .slice A1 n1 c1], .agg #[.int .i64 q.k, .int .i64 q.a, .int .i64 q.b, .int .i64 q.c, .int .i64 q.d]] u fun e w' => ∃ A2 c2, e = .returned (.tuple #[.agg #[.int .i64 (s.w : Int), .int .i64 (s.h : Int), .slice A2 m2 c2], .bool true]) ∧ m2 ≤ c2 ∧ OwnP w' u.heap.size (.slice A2 m2 c2) s.p ∧ Below u.heap.size u w') := Lib.hid fun u hu => by
        have h1 := opDo_good x A1 c1 q u hok hqo (hk2.below (B := wr.heap.size) (show Below wr.heap.size wr u from ⟨hu.os, hu.tape, hu.output, hu.size, hu.block⟩) hk2.1) hc1 ((hh.drewN 1).carry hu (Nat.le_refl _) hu.size)
        rw [hs] at h1
        unfold Did raV rasV at h1
        rw [hn1] at h1
        simp only [Option.getD_some, Option.isSome_some, hm2] at h1
        exact h1
      rw [hn1] at hP
      have HM := Lib.hid hm2
      have hpz := hP.lt
      have hzz := hZ.lt
      have hbp : b ≠ w.heap.size := by omega
      have HBd := Lib.hid (below_draws hbel 1)
      have HZd := Lib.hid hZ.drew1
      have HSb : Hid (∀ w', Below wr.drew.heap.size wr.drew w' → RasAtB w' w.heap.size (x.w : Int) (x.h : Int) A1 n1 c1 25 ∧ OpCs w' b (o + k * 5) q) := Lib.hid fun w' hb => ⟨Box.below hP.drew1 hb hP.drew1.lt, OpCs.kept (w := wr.drew) hqc fun p hp => hb.cell (by have := hbel.size; show p.block < wr.heap.size; omega)⟩
      have HS0 := Lib.hid (HSb.out _ (Below.refl _ _))
      have HSG : Hid (∀ w' y0 y1 y2, Below wr.drew.heap.size wr.drew w' → ∀ g, wr.heap.size ≤ g → (RasAtB (((w'.setCell ⟨g, 0, none⟩ y0).setCell ⟨g, 1, none⟩ y1).setCell ⟨g, 2, none⟩ y2) (w.heap.size) (x.w : Int) (x.h : Int) A1 n1 c1 25 ∧ OpCs (((w'.setCell ⟨g, 0, none⟩ y0).setCell ⟨g, 1, none⟩ y1).setCell ⟨g, 2, none⟩ y2) b (o + k * 5) q)) := Lib.hid fun w' y0 y1 y2 hb g hg =>
        ⟨Box.set_other (b := g) (Box.set_other (b := g) (Box.set_other (b := g) (HSb.out _ hb).1 (by omega) 0 y0) (by omega) 1 y1) (by omega) 2 y2, (HSb.out _ hb).2.kept fun p hp => by
          have hpg : p.block ≠ g := by have := hbel.size; omega
          rw [World.cell?_of_block (Below.heap_setCell _ _ _ _ hpg), World.cell?_of_block (Below.heap_setCell _ _ _ _ hpg), World.cell?_of_block (Below.heap_setCell _ _ _ _ hpg)]⟩
      have hgz : wr.drew.heap.size = wr.heap.size := rfl
      have hkN : (0 : Int) ≤ (k : Int) ∧ (k : Int) < (N : Int) := by omega
      clear hok hcan hfin hqo hs hsok hscan hse hc1 hh hne hZ hbel hn1 hm2 hq hdrop hk2 hP hqc HST
      go_wp2_with fail
      refine wp_region_T (fun w' => RasAtB w' w.heap.size (x.w : Int) (x.h : Int) A1 n1 c1 25 ∧ OpCs w' b (o + k * 5) q) 11 (by kernel_rfl) ?_
      refine wpAnyT_take (i := 0) (d := 15) (v := .agg #[.int .i64 (x.w : Int), .int .i64 (x.h : Int), .slice A1 n1 c1]) rfl rfl (by kernel_rfl) (by kernel_rfl) (by kernel_rfl) (by kernel_rfl) (by kernel_rfl) (fun _ _ _ h => h) (HS0.out) (Or.inl ⟨by rfl, fun w' hS' => ?_⟩) ?_
      · obtain ⟨s0, s1⟩ := hS'
        have t0 := s0.c0
        have t1 := s0.c1
        have t2 := s0.c2
        obtain ⟨u0, u1, u2, u3, u4⟩ := s1
        go_simp
      try simp only [Act.put, List.setIfInBounds_toArray, List.set_cons_zero, List.set_cons_succ]
      refine wpAnyT_take (i := 1) (d := 16) (v := .slice (some ⟨b, o, none⟩) N lc) rfl rfl (by kernel_rfl) (by kernel_rfl) (by kernel_rfl) (by kernel_rfl) (by kernel_rfl) (fun _ _ _ h => h) (HS0.out) (Or.inl ⟨by rfl, fun w' hS' => ?_⟩) ?_
      · obtain ⟨s0, s1⟩ := hS'
        have t0 := s0.c0
        have t1 := s0.c1
        have t2 := s0.c2
        obtain ⟨u0, u1, u2, u3, u4⟩ := s1
        go_simp
      try simp only [Act.put, List.setIfInBounds_toArray, List.set_cons_zero, List.set_cons_succ]
      refine wpAnyT_take (i := 2) (d := 17) (v := .int .i64 (k : Int)) rfl rfl (by kernel_rfl) (by kernel_rfl) (by kernel_rfl) (by kernel_rfl) (by kernel_rfl) (fun _ _ _ h => h) (HS0.out) (Or.inl ⟨by rfl, fun w' hS' => ?_⟩) ?_
      · obtain ⟨s0, s1⟩ := hS'
        have t0 := s0.c0
        have t1 := s0.c1
        have t2 := s0.c2
        obtain ⟨u0, u1, u2, u3, u4⟩ := s1
        go_simp
      try simp only [Act.put, List.setIfInBounds_toArray, List.set_cons_zero, List.set_cons_succ]
      refine wpAnyT_take (i := 3) (d := 18) (v := .pointer (some ⟨b, o + k * 5, none⟩)) rfl rfl (by kernel_rfl) (by kernel_rfl) (by kernel_rfl) (by kernel_rfl) (by kernel_rfl) (fun _ _ _ h => h) (HS0.out) (Or.inl ⟨by rfl, fun w' hS' => ?_⟩) ?_
      · obtain ⟨s0, s1⟩ := hS'
        have t0 := s0.c0
        have t1 := s0.c1
        have t2 := s0.c2
        obtain ⟨u0, u1, u2, u3, u4⟩ := s1
        go_simp
      try simp only [Act.put, List.setIfInBounds_toArray, List.set_cons_zero, List.set_cons_succ]
      refine wpAnyT_take (i := 4) (d := 19) (v := .agg #[.int .i64 q.k, .int .i64 q.a, .int .i64 q.b, .int .i64 q.c, .int .i64 q.d]) rfl rfl (by kernel_rfl) (by kernel_rfl) (by kernel_rfl) (by kernel_rfl) (by kernel_rfl) (fun _ _ _ h => h) (HS0.out) (Or.inl ⟨by rfl, fun w' hS' => ?_⟩) ?_
      · obtain ⟨s0, s1⟩ := hS'
        have t0 := s0.c0
        have t1 := s0.c1
        have t2 := s0.c2
        obtain ⟨u0, u1, u2, u3, u4⟩ := s1
        go_simp
      try simp only [Act.put, List.setIfInBounds_toArray, List.set_cons_zero, List.set_cons_succ]
      refine wpAnyT_two (i := 5) (j := 9) (by kernel_rfl) rfl rfl (fun K hK => ?_) (fun K hK => ?_)
      · go_simp
        refine (CO.out _ (Below.refl _ _)).mono ?_
        rintro e w4 ⟨A2, c2, rfl, hc2, ho2, b4⟩
        have HS4 := Lib.hid (HSb.out _ b4)
        refine hK.out _ _ (fun _ => HS4.out) ?_
        clear hK
        try simp only [Act.put, List.setIfInBounds_toArray, List.set_cons_zero, List.set_cons_succ]
        refine wpAnyT_take (i := 6) (d := 14) (v := .tuple #[.agg #[.int .i64 (s.w : Int), .int .i64 (s.h : Int), .slice A2 m2 c2], .bool true]) rfl rfl (by kernel_rfl) (by kernel_rfl) (by kernel_rfl) (by kernel_rfl) (by kernel_rfl) (fun _ _ _ h => h) (HS4.out) (Or.inl ⟨by rfl, fun w' hS' => ?_⟩) ?_
        · obtain ⟨s0, s1⟩ := hS'
          have t0 := s0.c0
          have t1 := s0.c1
          have t2 := s0.c2
          obtain ⟨u0, u1, u2, u3, u4⟩ := s1
          go_simp
        try simp only [Act.put, List.setIfInBounds_toArray, List.set_cons_zero, List.set_cons_succ]
        refine wpAnyT_take (i := 7) (d := 21) (v := .agg #[.int .i64 (s.w : Int), .int .i64 (s.h : Int), .slice A2 m2 c2]) rfl rfl (by kernel_rfl) (by kernel_rfl) (by kernel_rfl) (by kernel_rfl) (by kernel_rfl) (fun _ _ _ h => h) (HS4.out) (Or.inl ⟨by rfl, fun w' hS' => ?_⟩) ?_
        · obtain ⟨s0, s1⟩ := hS'
          have t0 := s0.c0
          have t1 := s0.c1
          have t2 := s0.c2
          obtain ⟨u0, u1, u2, u3, u4⟩ := s1
          go_simp
        try simp only [Act.put, List.setIfInBounds_toArray, List.set_cons_zero, List.set_cons_succ]
        refine wpAnyT_take (i := 8) (d := 22) (v := .bool true) rfl rfl (by kernel_rfl) (by kernel_rfl) (by kernel_rfl) (by kernel_rfl) (by kernel_rfl) (fun _ _ _ h => h) (HS4.out) (Or.inl ⟨by rfl, fun w' hS' => ?_⟩) ?_
        · obtain ⟨s0, s1⟩ := hS'
          have t0 := s0.c0
          have t1 := s0.c1
          have t2 := s0.c2
          obtain ⟨u0, u1, u2, u3, u4⟩ := s1
          go_simp
        try simp only [Act.put, List.setIfInBounds_toArray, List.set_cons_zero, List.set_cons_succ]
        refine wpAnyT_one (i := 9) (by kernel_rfl) rfl (fun K hK => ?_)
        go_simp
        have b6 : Below wr.drew.heap.size wr.drew (w4.alloc (.cells #[.int .i64 0, .int .i64 0, .slice none 0 0] 25)) := b4.alloc b4.size _
        have HX6 : Hid (RasAtB (w4.alloc (.cells #[.int .i64 0, .int .i64 0, .slice none 0 0] 25)) w4.heap.size 0 0 none 0 0 25) := Lib.hid (Box.new w4 _ _)
        have hg4 : wr.heap.size ≤ w4.heap.size := b4.size
        have HNG : Hid (∀ b o, A2 = some ⟨b, o, none⟩ → b ≠ w4.heap.size) := Lib.hid fun b o e => by
          rcases ho2.2 with ⟨e2, _⟩ | ⟨g', cap, cur, e2, hg', hh', _⟩
          · rw [e] at e2; cases e2
          · rw [e] at e2
            injection e2 with e2 _ _
            injection e2 with e2
            injection e2 with e2 _ _
            have := (Array.getElem?_eq_some_iff.1 hh').1
            omega
        have HNP : Hid (∀ b o, A2 = some ⟨b, o, none⟩ → b ≠ w.heap.size ∧ b ≠ w.heap.size + 1) := Lib.hid fun b o e => by
          rcases ho2.2 with ⟨e2, _⟩ | ⟨g', cap, cur, e2, hg', hh', _⟩
          · rw [e] at e2; cases e2
          · rw [e] at e2
            injection e2 with e2 _ _
            injection e2 with e2
            injection e2 with e2 _ _
            subst e2
            omega
        have HH6 : Hid (HasP (w4.alloc (.cells #[.int .i64 0, .int .i64 0, .slice none 0 0] 25)) (w4.alloc (.cells #[.int .i64 0, .int .i64 0, .slice none 0 0] 25)).heap.size A2 s.p) := Lib.hid ((OwnP.reads (n := m2) ho2).carry ((Below.refl _ w4).alloc (Nat.le_refl _) _) (Nat.le_refl _) (by simp))
        have HB6 := Lib.hid b6
        refine hK.out _ _ (fun _ => HSb.out _ HB6.out) ?_
        clear hK b6 b4 ho2 HS4
        try simp only [Act.put, List.setIfInBounds_toArray, List.set_cons_zero, List.set_cons_succ]
        obtain ⟨G, hG⟩ : ∃ G, w4.heap.size = G := ⟨_, rfl⟩
        rw [hG] at HX6 HNG hg4
        rw [hG]
        generalize (w4.alloc (.cells #[.int .i64 0, .int .i64 0, .slice none 0 0] 25)) = w6 at *
        clear hG
        have HS6 := Lib.hid (HSb.out _ HB6.out)
        refine wpAnyT_one (i := 10) (by kernel_rfl) rfl (fun K hK => ?_)
        have g0 := HX6.out.c0
        have g1 := HX6.out.c1
        have g2 := HX6.out.c2
        have gf0 := HX6.out.free 0
        have gf1 := HX6.out.free 1
        have gf2 := HX6.out.free 2
        go_simp
        refine hK.out _ _ (fun _ => HSG.out _ _ _ _ HB6.out _ hg4) ?_
        clear hK
        try simp only [Act.put, List.setIfInBounds_toArray, List.set_cons_zero, List.set_cons_succ]
        refine wpAnyT_one (i := 11) (by kernel_rfl) rfl (fun K hK => ?_)
        go_simp
        refine hK.out _ _ last_out ?_
        clear hK
        try simp only [Act.put, List.setIfInBounds_toArray, List.set_cons_zero, List.set_cons_succ]
        refine wpAnyT_done (by kernel_rfl) ?_ _
        have HX7 : Hid (RasAtB (((w6.setCell ⟨G, 0, none⟩ (.int .i64 (s.w : Int))).setCell ⟨G, 1, none⟩ (.int .i64 (s.h : Int))).setCell ⟨G, 2, none⟩ (.slice A2 m2 c2)) G (s.w : Int) (s.h : Int) A2 m2 c2 25) := Lib.hid (fin_ras HX6.out _ _ _)
        have hb7 : Below w.heap.size w (((w6.setCell ⟨G, 0, none⟩ (.int .i64 (s.w : Int))).setCell ⟨G, 1, none⟩ (.int .i64 (s.h : Int))).setCell ⟨G, 2, none⟩ (.slice A2 m2 c2)) := ((((HBd.out.trans (HB6.out.mono HBd.out.size))).setCell (p := ⟨G, 0, none⟩) (by simp; omega) _).setCell (p := ⟨G, 1, none⟩) (by simp; omega) _).setCell (p := ⟨G, 2, none⟩) (by simp; omega) _
        have hp7 := Box.set_other (b := G) (Box.set_other (b := G) (Box.set_other (b := G) (HSb.out _ HB6.out).1 (by omega) 0 (.int .i64 (s.w : Int))) (by omega) 1 (.int .i64 (s.h : Int))) (by omega) 2 (.slice A2 m2 c2)
        have hz7 := Box.set_other (b := G) (Box.set_other (b := G) (Box.set_other (b := G) (Box.below HZd.out HB6.out (by omega)) (by omega) 0 (.int .i64 (s.w : Int))) (by omega) 1 (.int .i64 (s.h : Int))) (by omega) 2 (.slice A2 m2 c2)
        have hh7 : HasP (((w6.setCell ⟨G, 0, none⟩ (.int .i64 (s.w : Int))).setCell ⟨G, 1, none⟩ (.int .i64 (s.h : Int))).setCell ⟨G, 2, none⟩ (.slice A2 m2 c2)) w6.heap.size A2 s.p := ((HH6.out.set_ne (R := G) HNG.out 0 (.int .i64 (s.w : Int))).set_ne (R := G) HNG.out 1 (.int .i64 (s.h : Int))).set_ne (R := G) HNG.out 2 (.slice A2 m2 c2)
        have hzz : (((w6.setCell ⟨G, 0, none⟩ (.int .i64 (s.w : Int))).setCell ⟨G, 1, none⟩ (.int .i64 (s.h : Int))).setCell ⟨G, 2, none⟩ (.slice A2 m2 c2)).heap.size = w6.heap.size := by simp
        have HBZ := Lib.hid hb7
        have HP7 := Lib.hid hp7
        have HZ7 := Lib.hid hz7
        have HH7 := Lib.hid hh7
        have HZZ := Lib.hid hzz
        clear hb7 hp7 hz7 hh7 hzz g0 g1 g2 gf0 gf1 gf2
        generalize (((w6.setCell ⟨G, 0, none⟩ (.int .i64 (s.w : Int))).setCell ⟨G, 1, none⟩ (.int .i64 (s.h : Int))).setCell ⟨G, 2, none⟩ (.slice A2 m2 c2)) = w7 at *
        have x0 := HX7.out.c0
        have x1 := HX7.out.c1
        have x2 := HX7.out.c2
        have p0 := RasAtB.c0 HP7.out
        have p1 := RasAtB.c1 HP7.out
        have p2 := RasAtB.c2 HP7.out
        have pf0 := RasAtB.free HP7.out 0
        have pf1 := RasAtB.free HP7.out 1
        have pf2 := RasAtB.free HP7.out 2
        have HE : Hid (EaSt w fin os (k + 1) (((w7.setCell ⟨w.heap.size, 0, none⟩ (.int .i64 (s.w : Int))).setCell ⟨w.heap.size, 1, none⟩ (.int .i64 (s.h : Int))).setCell ⟨w.heap.size, 2, none⟩ (.slice A2 m2 c2))) := Lib.hid
          ⟨s, A2, c2, HOK.out.1, HOK.out.2.1, HOK.out.2.2, by rw [HM.out]; exact hc2, by
            have := ((HH7.out.set_ne (R := w.heap.size) (fun b o e => (HNP.out b o e).1) 0 (.int .i64 (s.w : Int))).set_ne (R := w.heap.size) (fun b o e => (HNP.out b o e).1) 1 (.int .i64 (s.h : Int))).set_ne (R := w.heap.size) (fun b o e => (HNP.out b o e).1) 2 (.slice A2 m2 c2)
            rw [← HZZ.out] at this
            simpa using this, HNP.out, by rw [HM.out]; exact fin_ras HP7.out _ _ _,
            Box.set_other (b := w.heap.size) (Box.set_other (b := w.heap.size) (Box.set_other (b := w.heap.size) HZ7.out (by omega) 0 (.int .i64 (s.w : Int))) (by omega) 1 (.int .i64 (s.h : Int))) (by omega) 2 (.slice A2 m2 c2),
            ((HBZ.out.setCell (p := ⟨w.heap.size, 0, none⟩) (by simp) _).setCell (p := ⟨w.heap.size, 1, none⟩) (by simp) _).setCell (p := ⟨w.heap.size, 2, none⟩) (by simp) _⟩
        clear HX7 HP7 HZ7 HH7 HBZ HZZ HX6 HB6 HH6 HS6
        go_wp2_with fail
        go_roundw
        case rel => exact ⟨k + 1, by omega, by go_num, HE.out⟩
        case measure => simp [intOf]; omega
      · go_simp
        have bA : Below wr.drew.heap.size wr.drew (wr.drew.alloc (.cells #[.int .i64 0, .int .i64 0, .slice none 0 0] 25)) := (Below.refl _ _).alloc (Nat.le_refl _) _
        have hXA : RasAtB (wr.drew.alloc (.cells #[.int .i64 0, .int .i64 0, .slice none 0 0] 25)) wr.heap.size 0 0 none 0 0 25 := Box.new wr.drew _ _
        refine hK.out _ _ (fun _ => HSb.out _ bA) ?_
        clear hK
        try simp only [Act.put, List.setIfInBounds_toArray, List.set_cons_zero, List.set_cons_succ]
        refine wpAnyT_one (i := 5) (by kernel_rfl) rfl (fun K hK => ?_)
        go_simp
        refine (CO.out _ bA).mono ?_
        rintro e w6 ⟨A2, c2, rfl, hc2, ho2, b4⟩
        have hXz := hXA.lt
        have HX6 : Hid (RasAtB w6 wr.heap.size 0 0 none 0 0 25) := Lib.hid (Box.next hXA b4)
        have HB6 := Lib.hid (bA.trans (b4.mono bA.size))
        have HS4 := Lib.hid (HSb.out _ HB6.out)
        refine hK.out _ _ (fun _ => HS4.out) ?_
        clear hK
        try simp only [Act.put, List.setIfInBounds_toArray, List.set_cons_zero, List.set_cons_succ]
        refine wpAnyT_take (i := 6) (d := 14) (v := .tuple #[.agg #[.int .i64 (s.w : Int), .int .i64 (s.h : Int), .slice A2 m2 c2], .bool true]) rfl rfl (by kernel_rfl) (by kernel_rfl) (by kernel_rfl) (by kernel_rfl) (by kernel_rfl) (fun _ _ _ h => h) (HS4.out) (Or.inl ⟨by rfl, fun w' hS' => ?_⟩) ?_
        · obtain ⟨s0, s1⟩ := hS'
          have t0 := s0.c0
          have t1 := s0.c1
          have t2 := s0.c2
          obtain ⟨u0, u1, u2, u3, u4⟩ := s1
          go_simp
        try simp only [Act.put, List.setIfInBounds_toArray, List.set_cons_zero, List.set_cons_succ]
        refine wpAnyT_take (i := 7) (d := 21) (v := .agg #[.int .i64 (s.w : Int), .int .i64 (s.h : Int), .slice A2 m2 c2]) rfl rfl (by kernel_rfl) (by kernel_rfl) (by kernel_rfl) (by kernel_rfl) (by kernel_rfl) (fun _ _ _ h => h) (HS4.out) (Or.inl ⟨by rfl, fun w' hS' => ?_⟩) ?_
        · obtain ⟨s0, s1⟩ := hS'
          have t0 := s0.c0
          have t1 := s0.c1
          have t2 := s0.c2
          obtain ⟨u0, u1, u2, u3, u4⟩ := s1
          go_simp
        try simp only [Act.put, List.setIfInBounds_toArray, List.set_cons_zero, List.set_cons_succ]
        refine wpAnyT_take (i := 8) (d := 22) (v := .bool true) rfl rfl (by kernel_rfl) (by kernel_rfl) (by kernel_rfl) (by kernel_rfl) (by kernel_rfl) (fun _ _ _ h => h) (HS4.out) (Or.inl ⟨by rfl, fun w' hS' => ?_⟩) ?_
        · obtain ⟨s0, s1⟩ := hS'
          have t0 := s0.c0
          have t1 := s0.c1
          have t2 := s0.c2
          obtain ⟨u0, u1, u2, u3, u4⟩ := s1
          go_simp
        try simp only [Act.put, List.setIfInBounds_toArray, List.set_cons_zero, List.set_cons_succ]
        have HNG : Hid (∀ b o, A2 = some ⟨b, o, none⟩ → b ≠ wr.heap.size) := Lib.hid fun b o e => by
          rcases ho2.2 with ⟨e2, _⟩ | ⟨g', cap, cur, e2, hg', hh', _⟩
          · rw [e] at e2; cases e2
          · rw [e] at e2
            injection e2 with e2 _ _
            injection e2 with e2
            injection e2 with e2 _ _
            omega
        have HNP : Hid (∀ b o, A2 = some ⟨b, o, none⟩ → b ≠ w.heap.size ∧ b ≠ w.heap.size + 1) := Lib.hid fun b o e => by
          rcases ho2.2 with ⟨e2, _⟩ | ⟨g', cap, cur, e2, hg', hh', _⟩
          · rw [e] at e2; cases e2
          · rw [e] at e2
            injection e2 with e2 _ _
            injection e2 with e2
            injection e2 with e2 _ _
            subst e2
            omega
        have HH6 : Hid (HasP w6 w6.heap.size A2 s.p) := Lib.hid (OwnP.reads (n := m2) ho2)
        have hg4 : wr.heap.size ≤ wr.heap.size := Nat.le_refl _
        clear bA hXA b4 ho2 HS4 hXz
        obtain ⟨G, hG⟩ : ∃ G, wr.heap.size = G := ⟨_, rfl⟩
        rw [hG] at HX6 HNG
        have hg4 : wr.heap.size ≤ G := by omega
        rw [hG]
        have HS6 := Lib.hid (HSb.out _ HB6.out)
        refine wpAnyT_one (i := 10) (by kernel_rfl) rfl (fun K hK => ?_)
        have g0 := HX6.out.c0
        have g1 := HX6.out.c1
        have g2 := HX6.out.c2
        have gf0 := HX6.out.free 0
        have gf1 := HX6.out.free 1
        have gf2 := HX6.out.free 2
        go_simp
        refine hK.out _ _ (fun _ => HSG.out _ _ _ _ HB6.out _ hg4) ?_
        clear hK
        try simp only [Act.put, List.setIfInBounds_toArray, List.set_cons_zero, List.set_cons_succ]
        refine wpAnyT_one (i := 11) (by kernel_rfl) rfl (fun K hK => ?_)
        go_simp
        refine hK.out _ _ last_out ?_
        clear hK
        try simp only [Act.put, List.setIfInBounds_toArray, List.set_cons_zero, List.set_cons_succ]
        refine wpAnyT_done (by kernel_rfl) ?_ _
        have HX7 : Hid (RasAtB (((w6.setCell ⟨G, 0, none⟩ (.int .i64 (s.w : Int))).setCell ⟨G, 1, none⟩ (.int .i64 (s.h : Int))).setCell ⟨G, 2, none⟩ (.slice A2 m2 c2)) G (s.w : Int) (s.h : Int) A2 m2 c2 25) := Lib.hid (fin_ras HX6.out _ _ _)
        have hb7 : Below w.heap.size w (((w6.setCell ⟨G, 0, none⟩ (.int .i64 (s.w : Int))).setCell ⟨G, 1, none⟩ (.int .i64 (s.h : Int))).setCell ⟨G, 2, none⟩ (.slice A2 m2 c2)) := ((((HBd.out.trans (HB6.out.mono HBd.out.size))).setCell (p := ⟨G, 0, none⟩) (by simp; omega) _).setCell (p := ⟨G, 1, none⟩) (by simp; omega) _).setCell (p := ⟨G, 2, none⟩) (by simp; omega) _
        have hp7 := Box.set_other (b := G) (Box.set_other (b := G) (Box.set_other (b := G) (HSb.out _ HB6.out).1 (by omega) 0 (.int .i64 (s.w : Int))) (by omega) 1 (.int .i64 (s.h : Int))) (by omega) 2 (.slice A2 m2 c2)
        have hz7 := Box.set_other (b := G) (Box.set_other (b := G) (Box.set_other (b := G) (Box.below HZd.out HB6.out (by omega)) (by omega) 0 (.int .i64 (s.w : Int))) (by omega) 1 (.int .i64 (s.h : Int))) (by omega) 2 (.slice A2 m2 c2)
        have hh7 : HasP (((w6.setCell ⟨G, 0, none⟩ (.int .i64 (s.w : Int))).setCell ⟨G, 1, none⟩ (.int .i64 (s.h : Int))).setCell ⟨G, 2, none⟩ (.slice A2 m2 c2)) w6.heap.size A2 s.p := ((HH6.out.set_ne (R := G) HNG.out 0 (.int .i64 (s.w : Int))).set_ne (R := G) HNG.out 1 (.int .i64 (s.h : Int))).set_ne (R := G) HNG.out 2 (.slice A2 m2 c2)
        have hzz : (((w6.setCell ⟨G, 0, none⟩ (.int .i64 (s.w : Int))).setCell ⟨G, 1, none⟩ (.int .i64 (s.h : Int))).setCell ⟨G, 2, none⟩ (.slice A2 m2 c2)).heap.size = w6.heap.size := by simp
        have HBZ := Lib.hid hb7
        have HP7 := Lib.hid hp7
        have HZ7 := Lib.hid hz7
        have HH7 := Lib.hid hh7
        have HZZ := Lib.hid hzz
        clear hb7 hp7 hz7 hh7 hzz g0 g1 g2 gf0 gf1 gf2
        generalize (((w6.setCell ⟨G, 0, none⟩ (.int .i64 (s.w : Int))).setCell ⟨G, 1, none⟩ (.int .i64 (s.h : Int))).setCell ⟨G, 2, none⟩ (.slice A2 m2 c2)) = w7 at *
        have x0 := HX7.out.c0
        have x1 := HX7.out.c1
        have x2 := HX7.out.c2
        have p0 := RasAtB.c0 HP7.out
        have p1 := RasAtB.c1 HP7.out
        have p2 := RasAtB.c2 HP7.out
        have pf0 := RasAtB.free HP7.out 0
        have pf1 := RasAtB.free HP7.out 1
        have pf2 := RasAtB.free HP7.out 2
        have HE : Hid (EaSt w fin os (k + 1) (((w7.setCell ⟨w.heap.size, 0, none⟩ (.int .i64 (s.w : Int))).setCell ⟨w.heap.size, 1, none⟩ (.int .i64 (s.h : Int))).setCell ⟨w.heap.size, 2, none⟩ (.slice A2 m2 c2))) := Lib.hid
          ⟨s, A2, c2, HOK.out.1, HOK.out.2.1, HOK.out.2.2, by rw [HM.out]; exact hc2, by
            have := ((HH7.out.set_ne (R := w.heap.size) (fun b o e => (HNP.out b o e).1) 0 (.int .i64 (s.w : Int))).set_ne (R := w.heap.size) (fun b o e => (HNP.out b o e).1) 1 (.int .i64 (s.h : Int))).set_ne (R := w.heap.size) (fun b o e => (HNP.out b o e).1) 2 (.slice A2 m2 c2)
            rw [← HZZ.out] at this
            simpa using this, HNP.out, by rw [HM.out]; exact fin_ras HP7.out _ _ _,
            Box.set_other (b := w.heap.size) (Box.set_other (b := w.heap.size) (Box.set_other (b := w.heap.size) HZ7.out (by omega) 0 (.int .i64 (s.w : Int))) (by omega) 1 (.int .i64 (s.h : Int))) (by omega) 2 (.slice A2 m2 c2),
            ((HBZ.out.setCell (p := ⟨w.heap.size, 0, none⟩) (by simp) _).setCell (p := ⟨w.heap.size, 1, none⟩) (by simp) _).setCell (p := ⟨w.heap.size, 2, none⟩) (by simp) _⟩
        clear HX7 HP7 HZ7 HH7 HBZ HZZ HX6 HB6 HH6 HS6
        go_wp2_with fail
        go_roundw
        case rel => exact ⟨k + 1, by omega, by go_num, HE.out⟩
        case measure => simp [intOf]; omega
    · obtain rfl : k = N := by omega
      have hd0 : os.drop k = [] := List.drop_eq_nil_of_le (by rw [HN.out]; exact Nat.le_refl _)
      rw [hd0] at hfin
      obtain rfl : x = fin := hfin
      obtain ⟨n1, hn1⟩ : ∃ n1, x.p.length = n1 := ⟨_, rfl⟩
      have hp := hP
      rw [hn1] at hp
      have x0 := hp.c0
      have x1 := hp.c1
      have x2 := hp.c2
      have z0 := hZ.c0
      have z1 := hZ.c1
      have z2 := hZ.c2
      have f0 := hZ.free 0
      have f1 := hZ.free 1
      have f2 := hZ.free 2
      have HF := Lib.hid (fin_ras hZ (.int .i64 (x.w : Int)) (.int .i64 (x.h : Int)) (.slice A1 n1 c1))
      have HE : Hid (EaDid x w (.returned (.agg #[.int .i64 (x.w : Int), .int .i64 (x.h : Int), .slice A1 n1 c1])) (((wr.setCell ⟨w.heap.size + 1, 0, none⟩ (.int .i64 (x.w : Int))).setCell ⟨w.heap.size + 1, 1, none⟩ (.int .i64 (x.h : Int))).setCell ⟨w.heap.size + 1, 2, none⟩ (.slice A1 n1 c1))) := Lib.hid (by
        have := HG.out (((wr.setCell ⟨w.heap.size + 1, 0, none⟩ (.int .i64 (x.w : Int))).setCell ⟨w.heap.size + 1, 1, none⟩ (.int .i64 (x.h : Int))).setCell ⟨w.heap.size + 1, 2, none⟩ (.slice A1 n1 c1)) A1 c1 hc1 (by simpa using ((hh.set_ne (R := w.heap.size + 1) (fun b o e => (hne b o e).2) 0 (.int .i64 (x.w : Int))).set_ne (R := w.heap.size + 1) (fun b o e => (hne b o e).2) 1 (.int .i64 (x.h : Int))).set_ne (R := w.heap.size + 1) (fun b o e => (hne b o e).2) 2 (.slice A1 n1 c1)) (((hbel.setCell (p := ⟨w.heap.size + 1, 0, none⟩) (by simp) _).setCell (p := ⟨w.heap.size + 1, 1, none⟩) (by simp) _).setCell (p := ⟨w.heap.size + 1, 2, none⟩) (by simp) _)
        rw [hn1] at this
        exact this)
      clear hok hcan hc1 hh hne hP hp hZ hbel hn1 hd0 HST HG HL HR
      go_wp2_with fail
      (try simp only [Exit.inBlock, Exit.then])
      refine bodyPost_ret (results_cell_row rfl _ _ (w.heap.size + 1) 25 #[.int .i64 (x.w : Int), .int .i64 (x.h : Int), .slice A1 n1 c1] (0, 0) _ rfl HF.out Tryd.underlying25 rfl (by kernel_rfl)) rfl ?_
      exact HE.out
end Go.Proofs.YtiemlakjallphaaDoor
