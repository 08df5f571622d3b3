/-
  The law FnExactFormWrite returns true for every kind, note and raster. No condition.
-/
import Derived.Test.YtnnpjcbdcjdojaaPixM
import Derived.Test.YtnnpjcbdcjdojaaFormI
import Derived.Test.YtnnpjcbdcjdojaaPixIn
import Derived.Test.YtnnpjcbdcjdojaaCopy
import Derived.Test.YtnnpjcbdcjdojaaMark
import Derived.Test.YtnnpjcbdcjdojaaRegT
import Derived.Deep.RegionWith
import Derived.Deep.CutRange
namespace Go.Proofs.Ytnnpjcbdcjdojaa
set_option maxRecDepth 4000
open Go.RowKit

/-- The marks of pixel i. -/
def qmark (m i : Nat) : Px := ⟨(m : Int) + 4 * (i : Int), (m : Int) + 4 * (i : Int) + 1, (m : Int) + 4 * (i : Int) + 1 + 1, (m : Int) + 4 * (i : Int) + 1 + 1 + 1⟩
/-- The marks of n pixels. -/
def qmarks (m n : Nat) : List Px := (List.range n).map (qmark m)
theorem qmarks_length (m n : Nat) : (qmarks m n).length = n := by simp [qmarks]
theorem qmarks_at (m n k : Nat) (hk : k < n) : (qmarks m n)[k]? = some (qmark m k) := by simp [qmarks, hk]
/-- Pixels of which the first k are marks. -/
def qmarked (m : Nat) (l : List Px) (k : Nat) : List Px := qmarks m k ++ l.drop k
theorem qmarked_zero (m : Nat) (l : List Px) : qmarked m l 0 = l := by simp [qmarked, qmarks]
theorem qmarked_all (m : Nat) (l : List Px) : qmarked m l l.length = qmarks m l.length := by simp [qmarked]
theorem qmarked_length (m : Nat) (l : List Px) (k : Nat) (hk : k ≤ l.length) : (qmarked m l k).length = l.length := by simp [qmarked, qmarks]; omega
theorem qmarked_set (m : Nat) (l : List Px) (k : Nat) (hk : k < l.length) : (qmarked m l k).set k (qmark m k) = qmarked m l (k + 1) := by
  unfold qmarked qmarks
  rw [List.set_append_right _ _ (by simp), List.length_map, List.length_range, Nat.sub_self, List.drop_eq_getElem_cons hk, List.set_cons_zero, List.range_succ, List.map_append]
  simp
set_option maxHeartbeats 1000000 in
theorem markPixPixS_from (A : Option Addr) (c : Nat) (l : List Px) (base m : Nat) (w : World) (hm : (m : Int) ≤ 1073741824) (hs : l.length ≤ 1073741824) (h : OwnP w base (.slice A l.length c) l) :
    Calls Try.prog 62 #[.slice A l.length c, .int .i64 (m : Int)] w fun e w' => e = .returned (.int .i64 ((m : Int) + 4 * (l.length : Int))) ∧
      OwnP w' base (.slice A l.length c) (qmarks m l.length) ∧ w.grownBy w' (Value.slice A l.length c).ownBlock := by
  go_enter Try.func62, Try.ntmps62
  go_wp2
  go_loopw [1, 5] (fun t i wr => ∃ k : Nat, k ≤ l.length ∧ i = .int .i64 k ∧ t = .int .i64 ((m : Int) + 4 * (k : Int)) ∧ OwnP wr base (.slice A l.length c) (qmarked m l k) ∧ w.grownBy wr (Value.slice A l.length c).ownBlock)
    (fun _ i _ => l.length - (intOf i).toNat)
  case atStart => exact ⟨0, Nat.zero_le _, rfl, by go_num, by rw [qmarked_zero]; exact h, World.grownBy.refl _ _⟩
  case round =>
    obtain ⟨k, hk, rfl, rfl, hown, hgr⟩ := hrel
    by_cases hlt : k < l.length
    · obtain ⟨g, rfl, hg1, hg2⟩ := hown.nonnil (by rw [qmarked_length m l k hk]; omega)
      have hl := qmarked_length m l k hk
      have ho : wr.ownsRow base 40 4 (.slice (some ⟨g, 0, none⟩) l.length c) l.length (flatP (qmarked m l k)) := by
        have := hown
        unfold OwnP at this
        rw [hl] at this
        exact this
      have hfl := flatP_length (qmarked m l k)
      rw [hl] at hfl
      have f0 := ho.frozenAt (k * 4)
      have f1 := ho.frozenAt (k * 4 + 1)
      have f2 := ho.frozenAt (k * 4 + 2)
      have f3 := ho.frozenAt (k * 4 + 3)
      obtain ⟨y0, hy0⟩ : ∃ y, wr.cell? ⟨g, k * 4, none⟩ = some y := by
        rw [ho.cellAt (k * 4) (by omega)]
        exact ⟨_, List.getElem?_eq_getElem (by omega)⟩
      obtain ⟨y1, hy1⟩ : ∃ y, wr.cell? ⟨g, k * 4 + 1, none⟩ = some y := by
        rw [ho.cellAt (k * 4 + 1) (by omega)]
        exact ⟨_, List.getElem?_eq_getElem (by omega)⟩
      obtain ⟨y2, hy2⟩ : ∃ y, wr.cell? ⟨g, k * 4 + 2, none⟩ = some y := by
        rw [ho.cellAt (k * 4 + 2) (by omega)]
        exact ⟨_, List.getElem?_eq_getElem (by omega)⟩
      obtain ⟨y3, hy3⟩ : ∃ y, wr.cell? ⟨g, k * 4 + 3, none⟩ = some y := by
        rw [ho.cellAt (k * 4 + 3) (by omega)]
        exact ⟨_, List.getElem?_eq_getElem (by omega)⟩
      have s0 := ho.stored (k * 4) (.int .i64 (qmark m k).r)
      have s1 := s0.1.stored (k * 4 + 1) (.int .i64 (qmark m k).g)
      have s2 := s1.1.stored (k * 4 + 2) (.int .i64 (qmark m k).b)
      have s3 := s2.1.stored (k * 4 + 3) (.int .i64 (qmark m k).a)
      have HG := Lib.hid (grown_trans hgr (grown_trans s0.2 (grown_trans s1.2 (grown_trans s2.2 s3.2))))
      have HS : Hid (OwnP _ base (.slice (some ⟨g, 0, none⟩) l.length c) (qmarked m l (k + 1))) := Lib.hid (by
        have e := s3.1
        rw [flatP_set _ k (qmark m k) (by omega), qmarked_set m l k hlt] at e
        unfold OwnP
        rw [qmarked_length m l (k + 1) hlt]
        exact e)
      clear s0 s1 s2 s3 ho hown hl hfl hgr
      go_wp2
      go_roundw
      case rel => exact ⟨k + 1, by omega, by go_num, by go_num, HS.out, HG.out⟩
      case measure => simp [intOf]; omega
    · obtain rfl : k = l.length := by omega
      rw [qmarked_all] at hown
      have HO := Lib.hid hown
      clear hown
      go_wp2
      go_ret
      exact ⟨rfl, HO.out, hgr⟩
set_option maxHeartbeats 1000000 in
theorem markRasRaster_from (W H : Int) (A : Option Addr) (c : Nat) (l : List Px) (base m : Nat) (w : World) (hm : (m : Int) ≤ 1073741824) (hs : l.length ≤ 1073741824) (h : OwnP w base (.slice A l.length c) l) :
    Calls Try.prog 35 #[rasV W H A l.length c, .int .i64 (m : Int)] w fun e w' => e = .returned (.int .i64 ((m : Int) + 4 * (l.length : Int))) ∧
      OwnP w' base (.slice A l.length c) (qmarks m l.length) ∧ w.grownBy w' (Value.slice A l.length c).ownBlock := by
  have C := Lib.hid (markPixPixS_from A c l base m _ hm hs (h.alloc (.cells #[.int .i64 W, .int .i64 H, .slice A l.length c] 25)))
  have HG := Lib.hid (World.grownBy_alloc w (.cells #[.int .i64 W, .int .i64 H, .slice A l.length c] 25) (Value.slice A l.length c).ownBlock)
  clear h hs
  unfold rasV
  go_enter Try.func35, Try.ntmps35
  go_wp2_with fail
  refine C.out.mono ?_
  rintro e w1 ⟨rfl, ho, hg⟩
  have HO := Lib.hid ho
  have HG1 := Lib.hid (grown_trans HG.out hg)
  clear ho hg C HG
  go_wp2_with fail
  go_ret
  exact ⟨rfl, HO.out, HG1.out⟩
end Go.Proofs.Ytnnpjcbdcjdojaa
namespace Go.Proofs.Ytnnpjcbdcjdojaa
open Go.RowKit

theorem ewS (k : UInt8) (z : Int) (hz : (k.toNat : Int) = z) (An : Option Addr) (cn : Nat) (note : List UInt8) (W H : Int) (A : Option Addr) (c : Nat) (l : List Px) (w : World) (hn : note.length ≤ 1073741824) (hs : l.length ≤ 1073741824) (hc : l.length ≤ c) (hnh : Has w w.heap.size An note) (h : HasP w w.heap.size A l) :
    Calls Try.prog 15 #[.int .u8 z, .slice An note.length cn, .agg #[.int .i64 W, .int .i64 H, .slice A l.length c]] w (Bodied (formB k note W H l) w) := by
  subst hz
  exact specFormWrite_any k An cn note W H A c l w hn hs hc hnh h
theorem ewI (k : UInt8) (z : Int) (hz : (k.toNat : Int) = z) (An : Option Addr) (cn : Nat) (note : List UInt8) (W H : Int) (A : Option Addr) (c : Nat) (l : List Px) (w : World) (hn : note.length ≤ 1073741824) (hs : l.length ≤ 1073741824) (hc : l.length ≤ c) (hnh : Has w w.heap.size An note) (h : HasP w w.heap.size A l) :
    Calls Try.prog 13 #[.int .u8 z, .slice An note.length cn, .agg #[.int .i64 W, .int .i64 H, .slice A l.length c]] w (Bodied (formB k note W H l) w) := by
  subst hz
  exact implFormWrite_any k An cn note W H A c l w hn hs hc hnh h
/-- What the call holds once the program has written: the box of the raster that came in, its own box, the copied note, the copied pixels, the reference's file, the program's file. -/
def Kit (w : World) (b4 b5 g gy b7 : Nat) (W H : Int) (A : Option Addr) (c : Nat) (l : List Px) (note r : List UInt8) (A0 A1 : Option Addr) (c1 : Nat) (v : World) : Prop :=
  RasAtB v w.heap.size W H A l.length c 43 ∧ RasAtB v gy W H (some ⟨g, 0, none⟩) l.length l.length 25 ∧
  Own v b4 (.slice (some ⟨b4, 0, none⟩) note.length note.length) note ∧ OwnP v b5 (.slice (some ⟨g, 0, none⟩) l.length l.length) l ∧ Has v b4 A0 r ∧ Own v b7 (.slice A1 r.length c1) r ∧ Below w.heap.size w v ∧ b7 ≤ v.heap.size
section
variable {w v v' : World} {b4 b5 g gy b7 : Nat} {W H : Int} {A : Option Addr} {c : Nat} {l : List Px} {note r : List UInt8} {A0 A1 : Option Addr} {c1 : Nat}
theorem Kit.next (h : Kit w b4 b5 g gy b7 W H A c l note r A0 A1 c1 v) (h4 : b4 ≤ b7) (b : Below v.heap.size v v') : Kit w b4 b5 g gy b7 W H A c l note r A0 A1 c1 v' :=
  ⟨h.1.below b h.1.lt, h.2.1.below b h.2.1.lt, h.2.2.1.below b (Nat.le_refl _), h.2.2.2.1.below b (Nat.le_refl _), h.2.2.2.2.1.below (b.mono (Nat.le_trans h4 h.2.2.2.2.2.2.2)), h.2.2.2.2.2.1.below b (Nat.le_refl _), h.2.2.2.2.2.2.1.trans (b.mono h.2.2.2.2.2.2.1.size), Nat.le_trans h.2.2.2.2.2.2.2 b.size⟩
theorem Kit.drewN (h : Kit w b4 b5 g gy b7 W H A c l note r A0 A1 c1 v) (h4 : b4 ≤ b7) (n : Nat) : Kit w b4 b5 g gy b7 W H A c l note r A0 A1 c1 (v.drewN n) := h.next h4 (below_draws (Below.refl _ v) n)
end
theorem gap_below {B g : Nat} {w w' : World} (hg : w.grownBy w' (some g)) (hB : B ≤ g) (hz : B ≤ w.heap.size) : Below B w w' := (Below.refl _ _).grown hg hz (fun k e => by injection e with e; omega)
theorem own_other {w : World} {base g : Nat} {v : Value} {l : List UInt8} (h : Own w base v l) (hg : g < base) : v.ownBlock = none ∨ v.ownBlock ≠ some g := by
  cases hv : v.ownBlock with
  | none => exact .inl rfl
  | some q => exact .inr fun e => by have := (World.ownsRow.lt h q hv).1; injection e with e; omega

set_option maxHeartbeats 8000000 in
theorem fnExactFormWrite_small (k : UInt8) (z : Int) (hz : (k.toNat : Int) = z) (An : Option Addr) (cn : Nat) (note : List UInt8) (W H : Int) (A : Option Addr) (c : Nat) (l : List Px) (w : World) (hn : Has w w.heap.size An note) (hnl : note.length ≤ 1048576) (h : HasP w w.heap.size A l) (hs : l.length ≤ 1048576) :
    Calls Try.prog 9 #[.int .u8 z, .slice An note.length cn, rasV W H A l.length c] w fun e w' => e = .returned (.bool true) ∧ Below w.heap.size w w' := by
  have HA : Hid (∀ W, Below w.heap.size w W → HasP W W.heap.size A l) := Lib.hid fun W hb => h.carry hb (Nat.le_refl _) hb.size
  have HN : Hid (∀ W, Below w.heap.size w W → Has W W.heap.size An note) := Lib.hid fun W hb => hn.carry hb (Nat.le_refl _) hb.size
  have CZ := Lib.hid fun w => szRasRaster_small W H A l.length c w hs
  have CT := Lib.hid fun w hh => toRasRaster_any W H A c l w (by omega) hh
  have CB := Lib.hid fun w hh => toByteS_any An cn note w (by omega) hh
  have CS := Lib.hid fun An A w hn hh => ewS k z hz An note.length note W H A l.length l w (by omega) (by omega) (Nat.le_refl _) hn hh
  have CI := Lib.hid fun An A w hn hh => ewI k z hz An note.length note W H A l.length l w (by omega) (by omega) (Nat.le_refl _) hn hh
  have CQ := Lib.hid fun A A' c c' w hh hh' => eqRasRaster_same W H A A' c c' l w (by omega) hh hh'
  have CM := Lib.hid fun A c base w hh => markRasRaster_from W H A c l base (1 + note.length) w (by omega) (by omega) hh
  have CN := Lib.hid fun A A' c c' W hh hh' => eqByteS_same A A' c c' note W (by omega) hh hh'
  have CKN := Lib.hid fun A c base W hh => markByteS_at A c note 1 1 base rfl W (by omega) (by omega) hh
  have hrl := formB_le k note W H l
  unfold rasV Bodied at *
  generalize formB k note W H l = r at *
  have CE := Lib.hid fun A A' c c' W hh hh' => eqByteS_same A A' c c' r W (by omega) hh hh'
  have CK := Lib.hid fun A c base W hh => markByteS_at A c r 1 1 base rfl W (by omega) (by omega) hh
  have CH := Lib.hid fun A c B W hh => heldByteS_at A c r.length 1 1 B rfl W (by omega) (by omega) hh
  have hl0 : ¬ ((1048576 : Int) - (l.length : Int) < 0) := by omega
  have hk1 : ¬ (1 + (note.length : Int) + 4 * (l.length : Int) < 0) := by omega
  have hq1 : ¬ (1 + (r.length : Int) < 0) := by omega
  have hn0 : ¬ ((1048576 : Int) < (note.length : Int)) := by omega
  have hcast : (((1 + note.length : Nat) : Int)) = 1 + (note.length : Int) := by omega
  rw [hcast] at CM
  have hx : RasAtB (w.alloc (.cells #[.int .i64 W, .int .i64 H, .slice A l.length c] 43)) w.heap.size W H A l.length c 43 := heap_alloc_new w _
  have hb : Below w.heap.size w (w.alloc (.cells #[.int .i64 W, .int .i64 H, .slice A l.length c] 43)) := (Below.refl _ w).alloc (Nat.le_refl _) _
  clear h hs hrl hn hnl hz hcast
  go_enter Try.func9, Try.ntmps9
  go_wp2_with fail
  generalize w.alloc (.cells #[.int .i64 W, .int .i64 H, .slice A l.length c] 43) = w0 at *
  have hlt := hx.lt
  refine (CZ.out _).mono ?_
  rintro e w1 ⟨rfl, b1⟩
  have hx1 := (hx.below b1 hlt).drew1
  have B1 := below_drew1 (hb.trans (b1.mono hb.size))
  clear b1 hx hb hlt
  go_wp2_with fail
  refine wp_region_T (fun W0 => RasAtB W0 w.heap.size W H A l.length c 43) 6 (by kernel_rfl) ?_
  generalize w1.drew = w1' at *
  refine wpAnyT_take (i := 0) (d := 24) (v := .int .u8 z) rfl rfl (by kernel_rfl) (by kernel_rfl) (by kernel_rfl) (by kernel_rfl) (by kernel_rfl) (fun _ _ _ h => h) hx1 (Or.inl ⟨by rfl, fun w' hS' => ?_⟩) ?_
  · go_simp
  simp only [Act.put, List.setIfInBounds_toArray, List.set_cons_zero, List.set_cons_succ]
  refine wpAnyT_take (i := 1) (d := 25) (v := .slice An note.length cn) rfl rfl (by kernel_rfl) (by kernel_rfl) (by kernel_rfl) (by kernel_rfl) (by kernel_rfl) (fun _ _ _ h => h) hx1 (Or.inl ⟨by rfl, fun w' hS' => ?_⟩) ?_
  · go_simp
  simp only [Act.put, List.setIfInBounds_toArray, List.set_cons_zero, List.set_cons_succ]
  refine wpAnyT_take (i := 3) (d := 27) (v := .agg #[.int .i64 W, .int .i64 H, .slice A l.length c]) rfl rfl (by kernel_rfl) (by kernel_rfl) (by kernel_rfl) (by kernel_rfl) (by kernel_rfl) (fun _ _ _ h => h) hx1 (Or.inl ⟨by rfl, fun w' hS' => ?_⟩) ?_
  · have x0 := hS'.c0
    have x1 := hS'.c1
    have x2 := hS'.c2
    go_simp
  simp only [Act.put, List.setIfInBounds_toArray, List.set_cons_zero, List.set_cons_succ]
  refine wpAnyT_one (i := 2) (by kernel_rfl) rfl (fun K hK => ?_)
  go_simp
  refine (CB.out _ (HN.out _ B1)).mono ?_
  rintro e w2 ⟨rfl, o2, b2⟩
  have hx2 := hx1.below b2 hx1.lt
  have B2 := B1.trans (b2.mono B1.size)
  refine hK.out _ _ (fun _ => hx2) ?_
  clear hK b2 hx1 B1
  refine wpAnyT_one (i := 4) (by kernel_rfl) rfl (fun K hK => ?_)
  go_simp
  refine (CT.out _ (HA.out _ B2)).mono ?_
  rintro e w3 ⟨g3, rfl, o3, b3⟩
  have hx3 := hx2.below b3 hx2.lt
  have B3 := B2.trans (b3.mono B2.size)
  have o23 := o2.below b3 (Nat.le_refl _)
  refine hK.out _ _ (fun _ => hx3) ?_
  clear hK b3 hx2 B2 o2
  refine wpAnyT_one (i := 5) (by kernel_rfl) rfl (fun K hK => ?_)
  go_simp
  refine (CS.out _ _ _ o23.reads o3.reads).mono ?_
  rintro e w4 ⟨v0, rfl, ho0, b4⟩
  have hx4 := hx3.below b4 hx3.lt
  have B4 := B3.trans (b4.mono B3.size)
  obtain ⟨A0, c0, rfl, -, h0⟩ := ho0.has
  refine hK.out _ _ (fun _ => hx4) ?_
  clear hK b4 hx3 B3 o23 o3 ho0
  refine wpAnyT_one (i := 6) (by kernel_rfl) rfl (fun K hK => ?_)
  go_simp
  refine hK.out _ _ (fun h => last_out h) ?_
  clear hK
  refine wpAnyT_done (by kernel_rfl) ?_ _
  go_wp2_with fail
  refine (CB.out _ (HN.out _ B4)).mono ?_
  rintro e w5 ⟨rfl, o5, b5⟩
  have B5 := B4.trans (b5.mono B4.size)
  have hx5 := hx4.below b5 hx4.lt
  have h05 := h0.below b5
  have z45 := b5.size
  have x0 := hx5.c0
  have x1 := hx5.c1
  have x2 := hx5.c2
  have zw4 := hx4.lt
  have hlt45 : w4.heap.size < w5.heap.size := by
    rcases o5.2 with ⟨e, -⟩ | ⟨g, cap, cur, e, hb, hg, -⟩
    · cases e
    · injection e with e _ _
      injection e with e
      injection e with e _ _
      have := (Array.getElem?_eq_some_iff.1 hg).1
      omega
  clear b5 hx4 B4 h0
  go_wp2_with fail
  refine (CT.out _ (HA.out _ B5)).mono ?_
  rintro e w6 ⟨g6, rfl, o6, b6⟩
  have B6 := B5.trans (b6.mono B5.size)
  have hx6 := hx5.below b6 hx5.lt
  have h06 := h05.below (b6.mono z45)
  have o56 := o5.below b6 (Nat.le_refl _)
  have z56 := b6.size
  obtain ⟨g6', e6, hg6a, hg6b⟩ : ∃ g, g6 = g ∧ w5.heap.size ≤ g ∧ g < w6.heap.size := by
    rcases o6.2 with ⟨e, -⟩ | ⟨g, cap, cur, e, hb, hg, -⟩
    · cases e
    · injection e with e _ _
      injection e with e
      injection e with e _ _
      exact ⟨g, e, hb, (Array.getElem?_eq_some_iff.1 hg).1⟩
  subst e6
  clear b6 hx5 B5 h05 o5 x0 x1 x2
  have hy7 : RasAtB (w6.alloc (.cells #[.int .i64 W, .int .i64 H, .slice (some ⟨g6, 0, none⟩) l.length l.length] 25)) w6.heap.size W H (some ⟨g6, 0, none⟩) l.length l.length 25 := heap_alloc_new w6 _
  have b7 : Below w6.heap.size w6 (w6.alloc (.cells #[.int .i64 W, .int .i64 H, .slice (some ⟨g6, 0, none⟩) l.length l.length] 25)) := (Below.refl _ w6).alloc (Nat.le_refl _) _
  go_wp2_with fail
  generalize w6.alloc (.cells #[.int .i64 W, .int .i64 H, .slice (some ⟨g6, 0, none⟩) l.length l.length] 25) = w7 at *
  have o7 := o6.below b7 (Nat.le_refl _)
  have o57 := o56.below b7 (Nat.le_refl _)
  have h07 := h06.below (b7.mono (Nat.le_trans z45 z56))
  have B7 := B6.trans (b7.mono B6.size)
  have hx7 := hx6.below b7 hx6.lt
  have z67 := hy7.lt
  clear b7 hx6 o6 o56 B6 h06
  refine (CI.out _ _ _ o57.reads o7.reads).mono ?_
  rintro e w8 ⟨v1, rfl, ho1, b8⟩
  obtain ⟨A1, c1, rfl, -, -⟩ := ho1.has
  have K8 := Lib.hid (show Kit w w4.heap.size w5.heap.size g6 w6.heap.size w7.heap.size W H A c l note r A0 A1 c1 w8 from
    ⟨hx7.below b8 hx7.lt, hy7.below b8 z67, o57.below b8 (Nat.le_refl _), o7.below b8 (Nat.le_refl _), h07.below (b8.mono (by omega)), ho1, B7.trans (b8.mono B7.size), b8.size⟩)
  have h47 : w4.heap.size ≤ w7.heap.size := by omega
  have hw4 : w.heap.size < w4.heap.size := zw4
  clear b8 hx7 hy7 o7 o57 h07 B7 ho1 z45 z56 zw4
  go_wp2_with fail
  refine (CE.out _ _ _ _ _ K8.out.2.2.2.2.2.1.reads (K8.out.2.2.2.2.1.wider (Nat.le_trans h47 K8.out.2.2.2.2.2.2.2))).mono ?_
  rintro e w9' ⟨rfl, n9, rfl⟩
  have K9 := Lib.hid (K8.out.drewN h47 n9)
  clear K8
  generalize w8.drewN n9 = w9 at *
  go_wp2_with fail
  refine (CB.out _ (HN.out _ K9.out.2.2.2.2.2.2.1)).mono ?_
  rintro e w10 ⟨rfl, o10, b10⟩
  have K10 := Lib.hid (K9.out.next h47 b10)
  clear K9 b10
  go_wp2_with fail
  refine (CN.out _ _ _ _ _ K10.out.2.2.1.reads o10.reads).mono ?_
  rintro e w11' ⟨rfl, n11, rfl⟩
  have K11 := Lib.hid (K10.out.drewN h47 n11)
  clear K10 o10
  generalize w10.drewN n11 = w11 at *
  go_wp2_with fail
  go_cut [51] from 47 to 51 (fun s wx => s = .bool false ∧ Below w11.heap.size w11 wx)
  case first =>
    have hx12 := K11.out.1.drew1
    have hy12 := K11.out.2.1.drew1
    have hh12 : HasP w11.drew w11.drew.heap.size (some ⟨g6, 0, none⟩) l := K11.out.2.2.2.1.reads.drewN 1
    have x80 := hx12.c0
    have x81 := hx12.c1
    have x82 := hx12.c2
    have y80 := hy12.c0
    have y81 := hy12.c1
    have y82 := hy12.c2
    have zy8 := hy12.lt
    have HB8 := Lib.hid (below_drew1 (Below.refl w11.heap.size w11))
    have CT8 := Lib.hid (CT.out w11.drew (HA.out _ (below_drew1 K11.out.2.2.2.2.2.2.1)))
    have HY8 := Lib.hid hy12
    have HH8 := Lib.hid hh12
    clear hx12 hy12 hh12 K11
    go_region_with (first
      | (go_at_call 31; refine CT8.out.mono ?_; rintro e w9 ⟨g9, rfl, o9, b9⟩; have y90 := (HY8.out.below b9 zy8).c0; have y91 := (HY8.out.below b9 zy8).c1; have y92 := (HY8.out.below b9 zy8).c2; have hh9 := HH8.out.carry b9 (Nat.le_refl _) b9.size; have ho9 := o9.reads; have B9 := HB8.out.trans (b9.mono HB8.out.size); clear b9 o9)
      | (go_at_call 33; refine (CQ.out _ _ _ _ _ hh9 ho9).mono ?_; rintro e w10 ⟨rfl, b10⟩; have B10 := B9.trans (b10.mono B9.size); clear b10))
    all_goals (go_wp2_with fail; go_meet; exact ⟨rfl, B10⟩)
  case rest =>
    obtain ⟨rfl, b12⟩ := hcut
    have K12 := Lib.hid (K11.out.next h47 b12)
    clear K11 b12
    go_wp2_with fail
    refine (CKN.out _ _ _ _ K12.out.2.2.1).mono ?_
    rintro e w13 ⟨rfl, -, g13⟩
    have g13' : wc.grownBy w13 (some w4.heap.size) := g13
    have b13 : Below w4.heap.size wc w13 := gap_below g13' (Nat.le_refl _) (Nat.le_trans h47 K12.out.2.2.2.2.2.2.2)
    have hx13 := K12.out.1.below b13 hw4
    have hy13 := K12.out.2.1.grown g13' (by intro e; injection e with e; omega)
    have op13 := K12.out.2.2.2.1.keepRd g13' hlt45
    have h013 := K12.out.2.2.2.2.1.below b13
    have ho13 := K12.out.2.2.2.2.2.1.keep g13' (own_other K12.out.2.2.2.2.2.1 (by omega))
    have B13 := K12.out.2.2.2.2.2.2.1.trans (b13.mono (Nat.le_of_lt hw4))
    have z13 := Nat.le_trans K12.out.2.2.2.2.2.2.2 b13.size
    have y0 := hy13.c0
    have y1 := hy13.c1
    have y2 := hy13.c2
    clear g13 g13' b13 K12 hy13
    go_wp2_with fail
    refine (CM.out _ _ _ _ op13).mono ?_
    rintro e w14 ⟨rfl, -, g14⟩
    have g14' : w13.grownBy w14 (some g6) := g14
    have b14 : Below w4.heap.size w13 w14 := gap_below g14' (by omega) (by omega)
    have hx14 := hx13.below b14 hw4
    have h014 := h013.below b14
    have ho14 := ho13.keep g14' (own_other ho13 (by omega))
    have B14 := B13.trans (b14.mono (Nat.le_of_lt hw4))
    have z14 := Nat.le_trans z13 b14.size
    clear g14 g14' b14 hx13 h013 ho13 B13 z13 op13 y0 y1 y2
    go_wp2_with fail
    refine (CE.out _ _ _ _ _ ho14.reads (h014.wider (Nat.le_trans h47 z14))).mono ?_
    rintro e w15' ⟨rfl, n15, rfl⟩
    have B15 := below_draws B14 n15
    have hx15 : RasAtB (w14.drewN n15) w.heap.size W H A l.length c 43 := hx14
    have h015 := h014.drewN n15
    have ho15 := ho14.drewN n15
    have z15 : w7.heap.size ≤ (w14.drewN n15).heap.size := z14
    clear B14 hx14 h014 ho14 z14
    generalize w14.drewN n15 = w15 at *
    go_wp2_with fail
    refine (CK.out _ _ _ _ ho15).mono ?_
    rintro e w16 ⟨rfl, ho16, g16⟩
    have b16 : Below w7.heap.size w15 w16 := grown_below g16 ho15 (Nat.le_refl _) z15
    have B16 : Below w.heap.size w w16 := B15.trans (b16.mono (by omega))
    have hx16 := hx15.below b16 (by omega)
    have h016 := h015.below (b16.mono h47)
    have z16 := Nat.le_trans z15 b16.size
    have hm16 := ho16.reads
    clear b16 g16 ho15 ho16 h015 hx15 B15 z15
    go_wp2_with fail
    refine (CH.out _ _ _ _ hm16).mono ?_
    rintro e w' ⟨rfl, rfl⟩
    have hx17 := hx16.drew1
    have B17 := below_drew1 B16
    have h017 : Has w16.drew w4.heap.size A0 r := h016.drewN 1
    have hm17 : Has w16.drew w16.heap.size A1 (marks 1 r.length) := hm16.drewN 1
    have z17 : w7.heap.size ≤ w16.drew.heap.size := z16
    have zm17 : w16.heap.size ≤ w16.drew.heap.size := Nat.le_refl _
    clear hx16 B16 h016 hm16
    go_wp2_with fail
    refine wp_region_T (fun W0 => RasAtB W0 w.heap.size W H A l.length c 43) 6 (by kernel_rfl) ?_
    generalize w16.drew = w17 at *
    refine wpAnyT_take (i := 0) (d := 77) (v := .int .u8 z) rfl rfl (by kernel_rfl) (by kernel_rfl) (by kernel_rfl) (by kernel_rfl) (by kernel_rfl) (fun _ _ _ h => h) hx17 (Or.inl ⟨by rfl, fun w' hS' => ?_⟩) ?_
    · go_simp
    simp only [Act.put, List.setIfInBounds_toArray, List.set_cons_zero, List.set_cons_succ]
    refine wpAnyT_take (i := 1) (d := 78) (v := .slice An note.length cn) rfl rfl (by kernel_rfl) (by kernel_rfl) (by kernel_rfl) (by kernel_rfl) (by kernel_rfl) (fun _ _ _ h => h) hx17 (Or.inl ⟨by rfl, fun w' hS' => ?_⟩) ?_
    · go_simp
    simp only [Act.put, List.setIfInBounds_toArray, List.set_cons_zero, List.set_cons_succ]
    refine wpAnyT_take (i := 3) (d := 80) (v := .agg #[.int .i64 W, .int .i64 H, .slice A l.length c]) rfl rfl (by kernel_rfl) (by kernel_rfl) (by kernel_rfl) (by kernel_rfl) (by kernel_rfl) (fun _ _ _ h => h) hx17 (Or.inl ⟨by rfl, fun w' hS' => ?_⟩) ?_
    · have x0 := hS'.c0
      have x1 := hS'.c1
      have x2 := hS'.c2
      go_simp
    simp only [Act.put, List.setIfInBounds_toArray, List.set_cons_zero, List.set_cons_succ]
    refine wpAnyT_one (i := 2) (by kernel_rfl) rfl (fun K hK => ?_)
    go_simp
    refine (CB.out _ (HN.out _ B17)).mono ?_
    rintro e w18 ⟨rfl, o18, b18⟩
    have hx18 := hx17.below b18 hx17.lt
    have B18 := B17.trans (b18.mono B17.size)
    have h018 := h017.below (b18.mono (Nat.le_trans h47 z17))
    have hm18 := hm17.below (b18.mono zm17)
    have z18 := Nat.le_trans z17 b18.size
    have zm18 := Nat.le_trans zm17 b18.size
    refine hK.out _ _ (fun _ => hx18) ?_
    clear hK b18 hx17 B17 h017 hm17 z17 zm17
    refine wpAnyT_one (i := 4) (by kernel_rfl) rfl (fun K hK => ?_)
    go_simp
    refine (CT.out _ (HA.out _ B18)).mono ?_
    rintro e w19 ⟨g19, rfl, o19, b19⟩
    have hx19 := hx18.below b19 hx18.lt
    have B19 := B18.trans (b19.mono B18.size)
    have h019 := h018.below (b19.mono (Nat.le_trans h47 z18))
    have hm19 := hm18.below (b19.mono zm18)
    have z19 := Nat.le_trans z18 b19.size
    have zm19 := Nat.le_trans zm18 b19.size
    have o1819 := o18.below b19 (Nat.le_refl _)
    refine hK.out _ _ (fun _ => hx19) ?_
    clear hK b19 hx18 B18 h018 hm18 z18 zm18 o18
    refine wpAnyT_one (i := 5) (by kernel_rfl) rfl (fun K hK => ?_)
    go_simp
    refine (CI.out _ _ _ o1819.reads o19.reads).mono ?_
    rintro e w20 ⟨v2, rfl, ho20, b20⟩
    have hx20 := hx19.below b20 hx19.lt
    have B20 := B19.trans (b20.mono B19.size)
    have h020 := h019.below (b20.mono (Nat.le_trans h47 z19))
    have hm20 := hm19.below (b20.mono zm19)
    have z20 := Nat.le_trans z19 b20.size
    obtain ⟨A2, c2, rfl, -, h2⟩ := ho20.has
    refine hK.out _ _ (fun _ => hx20) ?_
    clear hK b20 hx19 B19 h019 hm19 z19 zm19 o1819 o19 ho20
    refine wpAnyT_one (i := 6) (by kernel_rfl) rfl (fun K hK => ?_)
    go_simp
    refine hK.out _ _ (fun h => last_out h) ?_
    clear hK
    refine wpAnyT_done (by kernel_rfl) ?_ _
    go_wp2_with fail
    refine (CE.out _ _ _ _ _ h2 (h020.wider (Nat.le_trans h47 z20))).mono ?_
    rintro e w21' ⟨rfl, n21, rfl⟩
    have hm21 := hm20.drewN n21
    have B21 := below_draws B20 n21
    clear hm20 B20 h020 h2 hx20
    generalize w20.drewN n21 = w21 at *
    go_wp2_with fail
    refine (CH.out _ _ _ _ hm21).mono ?_
    rintro e w' ⟨rfl, rfl⟩
    go_wp2_with fail
    go_ret
    exact ⟨rfl, B21⟩
theorem byte_in {n : Int} (h : (Lit.int .u8 n).wf = true) : ∃ k : UInt8, (k.toNat : Int) = n := by
  unfold Lit.wf at h
  rw [Bool.and_eq_true, decide_eq_true_eq, decide_eq_true_eq] at h
  have h1 : IntKind.min .u8 = 0 := by decide
  have h2 : IntKind.max .u8 = 255 := by decide
  rw [h1, h2] at h
  exact ⟨pb n, pb_nat h.1 h.2⟩
theorem fnExactFormWrite_walk (n : Int) (An : Option Addr) (cn : Nat) (note : List UInt8) (W H : Int) (A : Option Addr) (c : Nat) (l : List Px) (w : World) (hk : (Lit.int .u8 n).wf = true) (hn : Has w w.heap.size An note) (_ : note.length ≤ cn) (h : HasP w w.heap.size A l) (hm : l.length ≤ maxLen) :
    Calls Try.prog 9 #[.int .u8 n, .slice An note.length cn, rasV W H A l.length c] w fun e w' => e = .returned (.bool true) ∧ Below w.heap.size w w' := by
  obtain ⟨k, hz⟩ := byte_in hk
  clear hk
  have HB : Hid (Below w.heap.size w (w.alloc (.cells #[.int .i64 W, .int .i64 H, .slice A l.length c] 43))) := Lib.hid ((Below.refl _ w).alloc (Nat.le_refl _) _)
  by_cases hnb : note.length ≤ 1048576
  · by_cases hbig : l.length ≤ 1048576
    · exact fnExactFormWrite_small k n hz An cn note W H A c l w hn hnb h hbig
    · have CZ := Lib.hid fun w => szRasRaster_big W H A l.length c w hbig hm
      have hn0 : ¬ ((1048576 : Int) < (note.length : Int)) := by omega
      unfold rasV at *
      clear h hm hbig hn hnb hz
      go_enter Try.func9, Try.ntmps9
      go_wp2_with fail
      refine (CZ.out _).mono ?_
      rintro e w' ⟨rfl, b⟩
      have HB2 := Lib.hid (HB.out.trans (b.mono HB.out.size))
      clear b
      go_wp2_with fail
      go_ret
      exact ⟨rfl, HB2.out⟩
  · have hn0 : (1048576 : Int) < (note.length : Int) := by omega
    unfold rasV at *
    clear h hm hn hnb hz
    go_enter Try.func9, Try.ntmps9
    go_wp2_with fail
    go_ret
    exact ⟨rfl, HB.out⟩
end Go.Proofs.Ytnnpjcbdcjdojaa
