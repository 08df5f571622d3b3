/-
  markPixPixS writes counted marks into a slice of pixels of the call's own, heldPixPixS finds them there; the same for a raster. Condition: at most 2^30 pixels.
-/
import Derived.Test.YtiemlakjallphabDoorPixQ
namespace Go.Proofs.YtiemlakjallphabDoor
set_option maxRecDepth 4000
open Go.RowKit

/-- The marks of pixel i. -/
def pmark (i : Nat) : Px := ⟨1 + 4 * (i : Int), 1 + 4 * (i : Int) + 1, 1 + 4 * (i : Int) + 1 + 1, 1 + 4 * (i : Int) + 1 + 1 + 1⟩
/-- The marks of n pixels. -/
def pmarks (n : Nat) : List Px := (List.range n).map pmark
theorem pmarks_length (n : Nat) : (pmarks n).length = n := by simp [pmarks]
theorem pmarks_at (n k : Nat) (hk : k < n) : (pmarks n)[k]? = some (pmark k) := by simp [pmarks, hk]
/-- Pixels of which the first k are marks. -/
def pmarked (l : List Px) (k : Nat) : List Px := pmarks k ++ l.drop k
theorem pmarked_zero (l : List Px) : pmarked l 0 = l := by simp [pmarked, pmarks]
theorem pmarked_all (l : List Px) : pmarked l l.length = pmarks l.length := by simp [pmarked]
theorem pmarked_length (l : List Px) (k : Nat) (hk : k ≤ l.length) : (pmarked l k).length = l.length := by simp [pmarked, pmarks]; omega
theorem pmarked_set (l : List Px) (k : Nat) (hk : k < l.length) : (pmarked l k).set k (pmark k) = pmarked l (k + 1) := by
  unfold pmarked pmarks
  rw [List.set_append_right _ _ (by simp), List.length_map, List.length_range, Nat.sub_self, List.drop_eq_getElem_cons hk, List.set_cons_zero, List.range_succ, List.map_append]
  simp
theorem flatP_set (l : List Px) (k : Nat) (p : Px) (hk : k < l.length) : ((((flatP l).set (k * 4) (.int .i64 p.r)).set (k * 4 + 1) (.int .i64 p.g)).set (k * 4 + 2) (.int .i64 p.b)).set (k * 4 + 3) (.int .i64 p.a) = flatP (l.set k p) := by
  induction l generalizing k with
  | nil => simp at hk
  | cons q l ih =>
    cases k with
    | zero => simp [flatP_cons]
    | succ k =>
      have := ih k (by simpa using hk)
      rw [show (k + 1) * 4 = k * 4 + 1 + 1 + 1 + 1 from by omega]
      simp only [flatP_cons, List.set_cons_succ, show k * 4 + 1 + 1 + 1 + 1 + 1 = (k * 4 + 1) + 1 + 1 + 1 + 1 from rfl, show k * 4 + 1 + 1 + 1 + 1 + 2 = (k * 4 + 2) + 1 + 1 + 1 + 1 from rfl, show k * 4 + 1 + 1 + 1 + 1 + 3 = (k * 4 + 3) + 1 + 1 + 1 + 1 from rfl]
      rw [this]
theorem OwnP.nonnil {w : World} {base : Nat} {A : Option Addr} {n c : Nat} {l : List Px} (h : OwnP w base (.slice A n c) l) (hl : 0 < l.length) : ∃ g, A = some ⟨g, 0, none⟩ ∧ base ≤ g ∧ g < w.heap.size := by
  rcases h.2 with ⟨e, hn⟩ | ⟨g, cap, cur, e, hb, hg, _⟩
  · omega
  · injection e with e _ _
    exact ⟨g, e, hb, (Array.getElem?_eq_some_iff.1 hg).1⟩
set_option maxHeartbeats 1000000 in
theorem markPixPixS_any (A : Option Addr) (c : Nat) (l : List Px) (base : Nat) (w : World) (hs : l.length ≤ 1073741824) (h : OwnP w base (.slice A l.length c) l) :
    Calls Tryd.prog 45 #[.slice A l.length c, .int .i64 1] w fun e w' => e = .returned (.int .i64 (1 + 4 * (l.length : Int))) ∧
      OwnP w' base (.slice A l.length c) (pmarks l.length) ∧ w.grownBy w' (Value.slice A l.length c).ownBlock := by
  go_enter Tryd.func45, Tryd.ntmps45
  go_wp2
  go_loopw [1, 5] (fun t i wr => ∃ k : Nat, k ≤ l.length ∧ i = .int .i64 k ∧ t = .int .i64 (1 + 4 * (k : Int)) ∧ OwnP wr base (.slice A l.length c) (pmarked l k) ∧ w.grownBy wr (Value.slice A l.length c).ownBlock)
    (fun _ i _ => l.length - (intOf i).toNat)
  case atStart => exact ⟨0, Nat.zero_le _, rfl, by go_num, by rw [pmarked_zero]; exact h, World.grownBy.refl _ _⟩
  case round =>
    obtain ⟨k, hk, rfl, rfl, hown, hgr⟩ := hrel
    by_cases hlt : k < l.length
    · obtain ⟨g, rfl, hg1, hg2⟩ := hown.nonnil (by rw [pmarked_length l k hk]; omega)
      have hl := pmarked_length l k hk
      have ho : wr.ownsRow base 62 4 (.slice (some ⟨g, 0, none⟩) l.length c) l.length (flatP (pmarked l k)) := by
        have := hown
        unfold OwnP at this
        rw [hl] at this
        exact this
      have hfl := flatP_length (pmarked l k)
      rw [hl] at hfl
      have f0 := ho.frozenAt (k * 4)
      have f1 := ho.frozenAt (k * 4 + 1)
      have f2 := ho.frozenAt (k * 4 + 2)
      have f3 := ho.frozenAt (k * 4 + 3)
      obtain ⟨y0, hy0⟩ : ∃ y, wr.cell? ⟨g, k * 4, none⟩ = some y := by
        rw [ho.cellAt (k * 4) (by omega)]
        exact ⟨_, List.getElem?_eq_getElem (by omega)⟩
      obtain ⟨y1, hy1⟩ : ∃ y, wr.cell? ⟨g, k * 4 + 1, none⟩ = some y := by
        rw [ho.cellAt (k * 4 + 1) (by omega)]
        exact ⟨_, List.getElem?_eq_getElem (by omega)⟩
      obtain ⟨y2, hy2⟩ : ∃ y, wr.cell? ⟨g, k * 4 + 2, none⟩ = some y := by
        rw [ho.cellAt (k * 4 + 2) (by omega)]
        exact ⟨_, List.getElem?_eq_getElem (by omega)⟩
      obtain ⟨y3, hy3⟩ : ∃ y, wr.cell? ⟨g, k * 4 + 3, none⟩ = some y := by
        rw [ho.cellAt (k * 4 + 3) (by omega)]
        exact ⟨_, List.getElem?_eq_getElem (by omega)⟩
      have s0 := ho.stored (k * 4) (.int .i64 (pmark k).r)
      have s1 := s0.1.stored (k * 4 + 1) (.int .i64 (pmark k).g)
      have s2 := s1.1.stored (k * 4 + 2) (.int .i64 (pmark k).b)
      have s3 := s2.1.stored (k * 4 + 3) (.int .i64 (pmark k).a)
      have HG := Lib.hid (grown_trans hgr (grown_trans s0.2 (grown_trans s1.2 (grown_trans s2.2 s3.2))))
      have HS : Hid (OwnP _ base (.slice (some ⟨g, 0, none⟩) l.length c) (pmarked l (k + 1))) := Lib.hid (by
        have e := s3.1
        rw [flatP_set _ k (pmark k) (by omega), pmarked_set l k hlt] at e
        unfold OwnP
        rw [pmarked_length l (k + 1) hlt]
        exact e)
      clear s0 s1 s2 s3 ho hown hl hfl hgr
      go_wp2
      go_roundw
      case rel => exact ⟨k + 1, by omega, by go_num, by go_num, HS.out, HG.out⟩
      case measure => simp [intOf]; omega
    · obtain rfl : k = l.length := by omega
      rw [pmarked_all] at hown
      have HO := Lib.hid hown
      clear hown
      go_wp2
      go_ret
      exact ⟨rfl, HO.out, hgr⟩
set_option maxHeartbeats 1000000 in
theorem heldPixPixS_any (A : Option Addr) (c n B : Nat) (w : World) (hs : n ≤ 1073741824) (h : HasP w B A (pmarks n)) :
    Calls Tryd.prog 46 #[.slice A n c, .int .i64 1] w fun e w' => e = .returned (.int .i64 (1 + 4 * (n : Int))) ∧ w = w' := by
  go_enter Tryd.func46, Tryd.ntmps46
  go_wp2
  go_loop [1, 5] (fun t i => ∃ k : Nat, k ≤ n ∧ i = .int .i64 k ∧ t = .int .i64 (1 + 4 * (k : Int))) (fun _ i => n - (intOf i).toNat)
  case atStart => exact ⟨0, Nat.zero_le _, rfl, by go_num⟩
  case round =>
    obtain ⟨k, hk, rfl, rfl⟩ := hrel
    by_cases hlt : k < n
    · obtain ⟨b, o, p, rfl, hbB, hp, d0, d1, d2, d3⟩ := h.spot (k := k) (by rw [pmarks_length]; exact hlt)
      rw [pmarks_at n k hlt] at hp
      injection hp with hp
      subst hp
      unfold pmark at d0 d1 d2 d3
      clear h
      go_wp2
      go_round
      case rel => exact ⟨k + 1, by omega, by go_num, by go_num⟩
      case measure => simp [intOf]; omega
    · obtain rfl : k = n := by omega
      go_wp2
      go_ret
      exact ⟨rfl, rfl⟩
set_option maxHeartbeats 1000000 in
theorem markRasRaster_any (W H : Int) (A : Option Addr) (c : Nat) (l : List Px) (base : Nat) (w : World) (hs : l.length ≤ 1073741824) (h : OwnP w base (.slice A l.length c) l) :
    Calls Tryd.prog 18 #[rasV W H A l.length c, .int .i64 1] w fun e w' => e = .returned (.int .i64 (1 + 4 * (l.length : Int))) ∧
      OwnP w' base (.slice A l.length c) (pmarks l.length) ∧ w.grownBy w' (Value.slice A l.length c).ownBlock := by
  have C := Lib.hid (markPixPixS_any A c l base _ hs (h.alloc (.cells #[.int .i64 W, .int .i64 H, .slice A l.length c] 30)))
  have HG := Lib.hid (World.grownBy_alloc w (.cells #[.int .i64 W, .int .i64 H, .slice A l.length c] 30) (Value.slice A l.length c).ownBlock)
  clear h hs
  unfold rasV
  go_enter Tryd.func18, Tryd.ntmps18
  go_wp2_with fail
  refine C.out.mono ?_
  rintro e w1 ⟨rfl, ho, hg⟩
  have HO := Lib.hid ho
  have HG1 := Lib.hid (grown_trans HG.out hg)
  clear ho hg C HG
  go_wp2_with fail
  go_ret
  exact ⟨rfl, HO.out, HG1.out⟩
set_option maxHeartbeats 1000000 in
theorem heldRasRaster_any (W H : Int) (A : Option Addr) (c n : Nat) (w : World) (hs : n ≤ 1073741824) (h : HasP w w.heap.size A (pmarks n)) :
    Calls Tryd.prog 20 #[rasV W H A n c, .int .i64 1] w fun e w' => e = .returned (.int .i64 (1 + 4 * (n : Int))) ∧ Below w.heap.size w w' := by
  have hb0 : Below w.heap.size w (w.alloc (.cells #[.int .i64 W, .int .i64 H, .slice A n c] 30)) := (Below.refl _ w).alloc (Nat.le_refl _) _
  have C := Lib.hid (heldPixPixS_any A c n w.heap.size _ hs (h.below hb0))
  have HB := Lib.hid hb0
  have hn : ¬ (1 + 4 * (n : Int) < 0) := by omega
  clear h hs hb0
  unfold rasV
  go_enter Tryd.func20, Tryd.ntmps20
  go_wp2_with fail
  refine C.out.mono ?_
  rintro e w1 ⟨rfl, rfl⟩
  go_wp2_with fail
  go_ret
  exact ⟨rfl, HB.out⟩
end Go.Proofs.YtiemlakjallphabDoor
