/-
  The law FnFormWrite returns true for every list of bytes to draw from. No condition.
-/
import Derived.Test.YtnnpjcbdcjdojaaFRdB
import Derived.Test.YtnnpjcbdcjdojaaBase
import Derived.Test.YtnnpjcbdcjdojaaRasBox
import Derived.Test.YtnnpjcbdcjdojaaRasAtM
import Derived.Test.YtnnpjcbdcjdojaaForm
import Derived.Test.YtnnpjcbdcjdojaaDrawFM
namespace Go.Proofs.Ytnnpjcbdcjdojaa
set_option maxRecDepth 4000
open Go.RowKit

theorem eaBytes_same (A A' : Option Addr) (c c' B B' : Nat) (l : List UInt8) (w : World) (h : Has w B A l) (h' : Has w B' A' l) :
    Calls Try.prog 14 #[.slice A l.length c, .slice A' l.length c'] w fun e w' => e = .returned (.bool true) ∧ w = w' := by
  have t1 := text_of_has h c
  have t2 := text_of_has h' c'
  clear h h'
  go_enter Try.func14, Try.ntmps14
  go_wp2
  go_ret
  exact ⟨rfl, rfl⟩
theorem eaBytes_diff (A A' : Option Addr) (c c' B B' : Nat) (l m : List UInt8) (w : World) (h : Has w B A l) (h' : Has w B' A' m) (hne : l ≠ m) :
    Calls Try.prog 14 #[.slice A l.length c, .slice A' m.length c'] w fun e w' => e = .returned (.bool false) ∧ w = w' := by
  have t1 := text_of_has h c
  have t2 := text_of_has h' c'
  have hs : (l == m) = false := beq_eq_false_iff_ne.2 hne
  clear h h' hne
  go_enter Try.func14, Try.ntmps14
  go_wp2
  go_ret
  exact ⟨rfl, rfl⟩
end Go.Proofs.Ytnnpjcbdcjdojaa
namespace Go.Proofs.Ytnnpjcbdcjdojaa
open Go.RowKit

theorem partOk_in (n : Int) (w : World) (h0 : 0 ≤ n) (h1 : n ≤ 255) : Calls Try.prog 67 #[.int .i64 n] w fun e w' => e = .returned (.bool true) ∧ w' = w := by
  go_enter Try.func67, Try.ntmps67
  go_wp2
  go_ret
  exact ⟨rfl, rfl⟩
theorem eaPix_any (w : World) : Calls Try.prog 50 #[.agg #[.int .i64 1, .int .i64 2, .int .i64 3, .int .i64 4]] w fun e w' => e = .returned (.bool true) ∧ Below w.heap.size w w' := by
  have HB : Hid (Below w.heap.size w (w.alloc (.cells #[.int .i64 1, .int .i64 2, .int .i64 3, .int .i64 4] 40))) := Lib.hid ((Below.refl _ w).alloc (Nat.le_refl _) _)
  have C1 := Lib.hid fun W => partOk_in 1 W (by omega) (by omega)
  have C2 := Lib.hid fun W => partOk_in 2 W (by omega) (by omega)
  have C3 := Lib.hid fun W => partOk_in 3 W (by omega) (by omega)
  have C4 := Lib.hid fun W => partOk_in 4 W (by omega) (by omega)
  go_enter Try.func50, Try.ntmps50
  go_wp2_with fail
  refine (C1.out _).mono ?_
  rintro e w' ⟨rfl, rfl⟩
  go_wp2_with fail
  refine (C2.out _).mono ?_
  rintro e w' ⟨rfl, rfl⟩
  go_wp2_with fail
  refine (C3.out _).mono ?_
  rintro e w' ⟨rfl, rfl⟩
  go_wp2_with fail
  refine (C4.out _).mono ?_
  rintro e w' ⟨rfl, rfl⟩
  go_wp2_with fail
  go_ret
  exact ⟨rfl, HB.out⟩
theorem eaOk_any (w : World) : Calls Try.prog 19 #[] w fun e w' => e = .returned (.bool true) ∧ Below w.heap.size w w' := by
  go_enter Try.func19, Try.ntmps19
  go_wp2_with fail
  refine (eaPix_any _).mono ?_
  rintro e w1 ⟨rfl, hb⟩
  go_wp2_with fail
  go_ret
  exact ⟨rfl, hb⟩
end Go.Proofs.Ytnnpjcbdcjdojaa
namespace Go.Proofs.Ytnnpjcbdcjdojaa
open Go.RowKit

set_option maxHeartbeats 1000000 in
theorem eaRas_same (W H : Int) (A A' : Option Addr) (c c' : Nat) (l : List Px) (w : World) (hs : l.length ≤ 1073741824) (h : HasP w w.heap.size A l) (h' : HasP w w.heap.size A' l) :
    Calls Try.prog 21 #[rasV W H A l.length c, rasV W H A' l.length c'] w fun e w' => e = .returned (.bool true) ∧ Below w.heap.size w w' := by
  unfold rasV
  have hb0 : Below w.heap.size w ((w.alloc (.cells #[.int .i64 W, .int .i64 H, .slice A l.length c] 25)).alloc (.cells #[.int .i64 W, .int .i64 H, .slice A' l.length c'] 25)) := ((Below.refl _ w).alloc (Nat.le_refl _) _).alloc (by simp) _
  have hX : RasAtB ((w.alloc (.cells #[.int .i64 W, .int .i64 H, .slice A l.length c] 25)).alloc (.cells #[.int .i64 W, .int .i64 H, .slice A' l.length c'] 25)) w.heap.size W H A l.length c 25 := (Below.heap_alloc _ _ _ (by simp)).trans (heap_alloc_new w _)
  have hY : RasAtB ((w.alloc (.cells #[.int .i64 W, .int .i64 H, .slice A l.length c] 25)).alloc (.cells #[.int .i64 W, .int .i64 H, .slice A' l.length c'] 25)) (w.heap.size + 1) W H A' l.length c' 25 := by
    have := heap_alloc_new (w.alloc (.cells #[.int .i64 W, .int .i64 H, .slice A l.length c] 25)) (.cells #[.int .i64 W, .int .i64 H, .slice A' l.length c'] 25)
    rw [show (w.alloc (.cells #[.int .i64 W, .int .i64 H, .slice A l.length c] 25)).heap.size = w.heap.size + 1 from by simp] at this
    exact this
  have H1 := Lib.hid (h.below hb0)
  have H2 := Lib.hid (h'.below hb0)
  have HB := Lib.hid hb0
  clear h h' hb0
  go_enter Try.func21, Try.ntmps21
  go_wp2_with fail
  generalize (w.alloc (.cells #[.int .i64 W, .int .i64 H, .slice A l.length c] 25)).alloc (.cells #[.int .i64 W, .int .i64 H, .slice A' l.length c'] 25) = w0 at *
  have x2 := hX.c2
  have y2 := hY.c2
  clear hX hY
  go_loopw [5] (fun i wr => ∃ k : Nat, k ≤ l.length ∧ i = .int .i64 k ∧ ∃ n, wr = w0.drewN n) (fun i _ => l.length - (intOf i).toNat)
  case atStart => exact ⟨0, Nat.zero_le _, rfl, 0, rfl⟩
  case round =>
    obtain ⟨k, hk, rfl, n, rfl⟩ := hrel
    by_cases hlt : k < l.length
    · obtain ⟨b, o, p, rfl, hbB, hp, d0, d1, d2, d3⟩ := H1.out.spot hlt
      obtain ⟨b', o', p', rfl, hbB', hp', e0, e1, e2, e3⟩ := H2.out.spot hlt
      obtain rfl : p = p' := by rw [hp] at hp'; injection hp'
      clear hp hp'
      go_wp2
      go_quiet (fail)
      go_wp2
      go_roundw
      case rel => exact ⟨k + 1, by omega, by go_num, _, rfl⟩
      case measure => simp [intOf]; omega
    · go_wp2
      go_ret
      exact ⟨rfl, below_draws HB.out n⟩
end Go.Proofs.Ytnnpjcbdcjdojaa
namespace Go.Proofs.Ytnnpjcbdcjdojaa
open Go.RowKit

/-- eaBytes, as one contract. -/
theorem eaBytes_any (A A' : Option Addr) (c c' B B' : Nat) (l m : List UInt8) (w : World) (h : Has w B A l) (h' : Has w B' A' m) :
    Calls Try.prog 14 #[.slice A l.length c, .slice A' m.length c'] w fun e w' => e = .returned (.bool (decide (l = m))) ∧ w = w' := by
  by_cases e : l = m
  · subst e
    rw [decide_eq_true rfl]
    exact eaBytes_same A A' c c' B B' l w h h'
  · rw [decide_eq_false e]
    exact eaBytes_diff A A' c c' B B' l m w h h' e
/-- Two rasters are the same. -/
def sameRas (W H : Int) (l : List Px) (W' H' : Int) (l' : List Px) : Bool := decide (W = W' ∧ H = H' ∧ l = l')
set_option maxHeartbeats 2000000 in
theorem eaRas_any (W H W' H' : Int) (A A' : Option Addr) (c c' : Nat) (l l' : List Px) (w : World) (hs : l.length ≤ 1000) (hs' : l'.length ≤ 1000) (h : HasP w w.heap.size A l) (h' : HasP w w.heap.size A' l') :
    Calls Try.prog 21 #[.agg #[.int .i64 W, .int .i64 H, .slice A l.length c], .agg #[.int .i64 W', .int .i64 H', .slice A' l'.length c']] w fun e w' => e = .returned (.bool (sameRas W H l W' H' l')) ∧ Below w.heap.size w w' := by
  by_cases hsame : W = W' ∧ H = H' ∧ l = l'
  · obtain ⟨rfl, rfl, rfl⟩ := hsame
    rw [show sameRas W H l W H l = true from decide_eq_true ⟨rfl, rfl, rfl⟩]
    exact eaRas_same W H A A' c c' l w (by omega) h h'
  rw [show sameRas W H l W' H' l' = false from decide_eq_false hsame]
  have hb0 : Below w.heap.size w ((w.alloc (.cells #[.int .i64 W, .int .i64 H, .slice A l.length c] 25)).alloc (.cells #[.int .i64 W', .int .i64 H', .slice A' l'.length c'] 25)) := ((Below.refl _ w).alloc (Nat.le_refl _) _).alloc (by simp) _
  have hX : RasAtB ((w.alloc (.cells #[.int .i64 W, .int .i64 H, .slice A l.length c] 25)).alloc (.cells #[.int .i64 W', .int .i64 H', .slice A' l'.length c'] 25)) w.heap.size W H A l.length c 25 := (Below.heap_alloc _ _ _ (by simp)).trans (heap_alloc_new w _)
  have hY : RasAtB ((w.alloc (.cells #[.int .i64 W, .int .i64 H, .slice A l.length c] 25)).alloc (.cells #[.int .i64 W', .int .i64 H', .slice A' l'.length c'] 25)) (w.heap.size + 1) W' H' A' l'.length c' 25 := by
    have := heap_alloc_new (w.alloc (.cells #[.int .i64 W, .int .i64 H, .slice A l.length c] 25)) (.cells #[.int .i64 W', .int .i64 H', .slice A' l'.length c'] 25)
    rw [show (w.alloc (.cells #[.int .i64 W, .int .i64 H, .slice A l.length c] 25)).heap.size = w.heap.size + 1 from by simp] at this
    exact this
  have H1 := Lib.hid (h.below hb0)
  have H2 := Lib.hid (h'.below hb0)
  have HB := Lib.hid hb0
  have HD := Lib.hid hsame
  clear h h' hb0 hsame
  by_cases e1 : W = W'
  · subst e1
    by_cases e2 : H = H'
    · subst e2
      by_cases e3 : l.length = l'.length
      · have HNE : Hid (l ≠ l') := Lib.hid fun e => HD.out ⟨rfl, rfl, e⟩
        have HE3 := Lib.hid e3
        obtain ⟨N, hN⟩ : ∃ N, l.length = N := ⟨_, rfl⟩
        have HN := Lib.hid hN
        rw [← e3] at HB H1 H2 hX hY ⊢
        rw [hN] at HB H1 H2 hX hY hs ⊢
        have hNI : (N : Int) ≤ 1000 := by omega
        clear hs hs' e3 hN HD
        go_enter Try.func21, Try.ntmps21
        go_wp2_with fail
        generalize (w.alloc (.cells #[.int .i64 W, .int .i64 H, .slice A N c] 25)).alloc (.cells #[.int .i64 W, .int .i64 H, .slice A' N c'] 25) = w0 at *
        have x2 := hX.c2
        have y2 := hY.c2
        clear hX hY
        go_loopw [5] (fun i wr => ∃ k : Nat, k ≤ N ∧ i = .int .i64 k ∧ l.take k = l'.take k ∧ ∃ n, wr = w0.drewN n) (fun i _ => N - (intOf i).toNat)
        case atStart => exact ⟨0, Nat.zero_le _, rfl, rfl, 0, rfl⟩
        case round =>
          obtain ⟨k, hk, rfl, htk, n, rfl⟩ := hrel
          have HTK := Lib.hid htk
          clear htk
          by_cases hlt : k < N
          · obtain ⟨b, o, p, rfl, hbB, hp, d0, d1, d2, d3⟩ := H1.out.spot (k := k) (by rw [HN.out]; exact hlt)
            obtain ⟨b', o', q, rfl, hbB', hq, e0, e1, e2, e3⟩ := H2.out.spot (k := k) (by rw [← HE3.out, HN.out]; exact hlt)
            by_cases hpq : p = q
            · have HTN : Hid (l.take (k + 1) = l'.take (k + 1)) := Lib.hid (by
                rw [List.take_add_one, List.take_add_one, hp, hq, HTK.out, hpq])
              subst hpq
              clear hp hq hbB hbB'
              go_wp2_with fail
              go_quiet (fail)
              go_wp2_with fail
              go_roundw
              case rel => exact ⟨k + 1, by omega, by go_num, HTN.out, _, rfl⟩
              case measure => simp [intOf]; omega
            · have hdj : (p.r == q.r) = false ∨ ((p.r == q.r) = true ∧ (p.g == q.g) = false) ∨ ((p.r == q.r) = true ∧ (p.g == q.g) = true ∧ (p.b == q.b) = false) ∨ ((p.r == q.r) = true ∧ (p.g == q.g) = true ∧ (p.b == q.b) = true ∧ (p.a == q.a) = false) := by
                cases h1 : (p.r == q.r)
                · exact .inl rfl
                · cases h2 : (p.g == q.g)
                  · exact .inr (.inl ⟨rfl, rfl⟩)
                  · cases h3 : (p.b == q.b)
                    · exact .inr (.inr (.inl ⟨rfl, rfl, rfl⟩))
                    · cases h4 : (p.a == q.a)
                      · exact .inr (.inr (.inr ⟨rfl, rfl, rfl, rfl⟩))
                      · rw [beq_iff_eq] at h1 h2 h3 h4
                        exact absurd (by cases p; cases q; simp_all) hpq
              clear hp hq hpq hbB hbB'
              rcases hdj with h1 | ⟨h1, h2⟩ | ⟨h1, h2, h3⟩ | ⟨h1, h2, h3, h4⟩
              all_goals
                go_wp2_with fail
                go_quiet (fail)
                go_wp2_with fail
                go_ret
                exact ⟨rfl, below_draws (below_draws HB.out n) _⟩
          · exact absurd (by
              have h := HTK.out
              rw [List.take_of_length_le (by rw [HN.out]; omega), List.take_of_length_le (by rw [← HE3.out, HN.out]; omega)] at h
              exact h) HNE.out
      · have hne : ((l.length : Int) != (l'.length : Int)) = true := bne_iff_ne.2 (by omega)
        clear hs hs' H1 H2 HD e3
        go_enter Try.func21, Try.ntmps21
        go_wp2_with fail
        go_ret
        exact ⟨rfl, HB.out⟩
    · have hne : (H != H') = true := bne_iff_ne.2 e2
      clear hs hs' H1 H2 HD e2
      go_enter Try.func21, Try.ntmps21
      go_wp2_with fail
      go_ret
      exact ⟨rfl, HB.out⟩
  · have hne : (W != W') = true := bne_iff_ne.2 e1
    clear hs hs' H1 H2 HD e1
    go_enter Try.func21, Try.ntmps21
    go_wp2_with fail
    go_ret
    exact ⟨rfl, HB.out⟩
end Go.Proofs.Ytnnpjcbdcjdojaa
namespace Go.Proofs.Ytnnpjcbdcjdojaa
open Go.RowKit

/-- What the call holds: the box of the raster, its pixels, the note, the file. -/
def Fw (w : World) (g : Nat) (W H : Int) (A : Option Addr) (c : Nat) (l : List Px) (An : Option Addr) (note : List UInt8) (A3 : Option Addr) (f : List UInt8) (v : World) : Prop :=
  RasAtB v g W H A l.length c 25 ∧ HasP v v.heap.size A l ∧ Has v v.heap.size An note ∧ Has v v.heap.size A3 f ∧ Below w.heap.size w v
section
variable {w v v' : World} {g c : Nat} {W H : Int} {A An A3 : Option Addr} {l : List Px} {note f : List UInt8}
theorem Fw.next (h : Fw w g W H A c l An note A3 f v) (b : Below v.heap.size v v') : Fw w g W H A c l An note A3 f v' :=
  ⟨h.1.below b h.1.lt, h.2.1.carry b (Nat.le_refl _) b.size, h.2.2.1.carry b (Nat.le_refl _) b.size, h.2.2.2.1.carry b (Nat.le_refl _) b.size, h.2.2.2.2.trans (b.mono h.2.2.2.2.size)⟩
theorem kinds_at {k : Nat} {x : UInt8} (h : ([68, 85, 82, 80] : List UInt8)[k]? = some x) : kindB x = true := by
  have hk : k < 4 := by
    have := (List.getElem?_eq_some_iff.1 h).1
    simpa using this
  rcases k with _ | _ | _ | _ | k
  · obtain rfl : (68 : UInt8) = x := by simpa using h
    rfl
  · obtain rfl : (85 : UInt8) = x := by simpa using h
    rfl
  · obtain rfl : (82 : UInt8) = x := by simpa using h
    rfl
  · obtain rfl : (80 : UInt8) = x := by simpa using h
    rfl
  · omega
theorem found_good {W H : Int} {l : List Px} {note : List UInt8} (h : note.length ≤ 9) : foundW note W = W ∧ foundW note H = H ∧ foundL note l = l ∧ foundH note = 1 := by
  unfold foundW foundL foundH
  rw [if_pos h, if_pos h, if_pos h, if_pos h]
  exact ⟨rfl, rfl, rfl, rfl⟩
theorem sameRas_self (W H : Int) (l : List Px) : sameRas W H l W H l = true := by
  unfold sameRas
  simp
theorem has_ne {w : World} {A : Option Addr} {l : List Px} (h : HasP w w.heap.size A l) : ∀ b o, A = some ⟨b, o, none⟩ → l = [] ∨ b ≠ w.heap.size := fun b o e => by
  rcases h with rfl | ⟨b', o', e', hb, -⟩
  · exact .inl rfl
  · rw [e] at e'
    injection e' with e'
    injection e' with e1 _ _
    exact .inr (by omega)
theorem hasP_set {w : World} {B : Nat} {A : Option Addr} {l : List Px} (h : HasP w B A l) {R : Nat} (hne : ∀ b o, A = some ⟨b, o, none⟩ → l = [] ∨ b ≠ R) (i : Nat) (v : Value) : HasP (w.setCell ⟨R, i, none⟩ v) B A l := by
  by_cases hl : l = []
  · exact .inl hl
  · exact h.set_low (fun b o e => (hne b o e).resolve_left hl) i v
theorem fw_fin {W H : Int} {l : List Px} {wr v : World} {g : Nat} {A : Option Addr} {c : Nat} (hx : RasAtB v g 0 0 none 0 0 25) (h : HasP v v.heap.size A l) (hne : ∀ b o, A = some ⟨b, o, none⟩ → l = [] ∨ b ≠ g) (hb : Below wr.heap.size wr v) (hg : wr.heap.size ≤ g) :
    Below wr.heap.size wr (((v.setCell ⟨g, 0, none⟩ (.int .i64 W)).setCell ⟨g, 1, none⟩ (.int .i64 H)).setCell ⟨g, 2, none⟩ (.slice A l.length c)) ∧ RasAtB (((v.setCell ⟨g, 0, none⟩ (.int .i64 W)).setCell ⟨g, 1, none⟩ (.int .i64 H)).setCell ⟨g, 2, none⟩ (.slice A l.length c)) g W H A l.length c 25 ∧ HasP (((v.setCell ⟨g, 0, none⟩ (.int .i64 W)).setCell ⟨g, 1, none⟩ (.int .i64 H)).setCell ⟨g, 2, none⟩ (.slice A l.length c)) (((v.setCell ⟨g, 0, none⟩ (.int .i64 W)).setCell ⟨g, 1, none⟩ (.int .i64 H)).setCell ⟨g, 2, none⟩ (.slice A l.length c)).heap.size A l :=
  ⟨((hb.setCell hg _).setCell hg _).setCell hg _, fin_ras hx _ _ _, by simpa using hasP_set (hasP_set (hasP_set h hne 0 (.int .i64 W)) hne 1 (.int .i64 H)) hne 2 (.slice A l.length c)⟩
theorem Fw.drew (h : Fw w g W H A c l An note A3 f v) : Fw w g W H A c l An note A3 f v.drew := h.next (below_drew1 (Below.refl _ v))
end
set_option maxHeartbeats 8000000 in
theorem fnFormWrite_small (A : Option Addr) (c : Nat) (l : List UInt8) (w : World) (h : Has w w.heap.size A l) (hc : l.length ≤ c) (hs : l.length ≤ 1048576) :
    Calls Try.prog 3 #[.slice A l.length c] w fun e w' => e = .returned (.bool true) ∧ Below w.heap.size w w' := by
  have C1 := Lib.hid (drawFormWrite_any A c l w (by omega) hc h)
  have hl0 : ¬ ((1048576 : Int) < (l.length : Int)) := by omega
  clear h hs hc
  go_enter Try.func3, Try.ntmps3
  go_wp2_with fail
  refine C1.out.mono ?_
  rintro e w1 ⟨kb, An, cn, note, W, H, A1, c1, l1, rfl, hn1, hcn, hnl, hh1, hc1, hl1, B1⟩
  clear C1
  unfold rasV
  have hX2 : RasAtB (w1.alloc (.cells #[.int .i64 W, .int .i64 H, .slice A1 l1.length c1] 25)) w1.heap.size W H A1 l1.length c1 25 := heap_alloc_new w1 _
  have b2 : Below w1.heap.size w1 (w1.alloc (.cells #[.int .i64 W, .int .i64 H, .slice A1 l1.length c1] 25)) := (Below.refl _ w1).alloc (Nat.le_refl _) _
  have CI := Lib.hid fun W0 hh hp => fwI kb _ rfl An cn note W H A1 c1 l1 W0 (by omega) (by omega) hc1 hh hp
  have CS := Lib.hid fun W0 hh hp => fwS kb _ rfl An cn note W H A1 c1 l1 W0 (by omega) (by omega) hc1 hh hp
  have CPI := Lib.hid fun W0 hp => fpI W H A1 c1 l1 W0 (by omega) hc1 hp
  have CPS := Lib.hid fun W0 hp => fpS W H A1 c1 l1 W0 (by omega) hc1 hp
  have CO := Lib.hid fun W0 hp => rokS W H A1 c1 l1 W0 (by omega) hp
  have CK := Lib.hid fun k W0 hh hp => fwI k _ rfl An cn note W H A1 c1 l1 W0 (by omega) (by omega) hc1 hh hp
  have CG := Lib.hid fun k A c W0 hk hok hc hh => formGet_form k note W H l1 A c W0 hk hok hc hh
  have C80 := Lib.hid fun An W0 hp => fwI 80 80 rfl An 0 [] W H A1 c1 l1 W0 (by simp) (by omega) hc1 (.inl rfl) hp
  have CE := Lib.hid fun A A' c c' W0 hh hh' => eaRas_any W H W H A A' c c' l1 l1 W0 (by omega) (by omega) hh hh'
  have HNO : Hid (rasB W H l1 = false → formB kb note W H l1 = [] ∧ formB 80 [] W H l1 = []) := Lib.hid fun hr => ⟨formB_no (fun e => by rw [hr] at e; cases e.2.2), formB_no (fun e => by rw [hr] at e; cases e.2.2)⟩
  have HFL := Lib.hid (formB_le kb note W H l1)
  unfold Filed at CI CS CPI CPS CK C80
  generalize formB kb note W H l1 = f at *
  generalize formB 80 [] W H l1 = y at *
  go_wp2_with fail
  generalize w1.alloc (.cells #[.int .i64 W, .int .i64 H, .slice A1 l1.length c1] 25) = w2 at *
  have hn2 := hn1.carry b2 (Nat.le_refl _) b2.size
  have hh2 := hh1.carry b2 (Nat.le_refl _) b2.size
  have B2 := B1.trans (b2.mono B1.size)
  have hz2 := hX2.lt
  refine (CI.out w2 hn2 hh2).mono ?_
  rintro e w3 ⟨A3, c3, rfl, hc3, h3, b3⟩
  have S3 := Lib.hid (show Fw w w1.heap.size W H A1 c1 l1 An note A3 f w3 from ⟨hX2.below b3 hz2, hh2.carry b3 (Nat.le_refl _) b3.size, hn2.carry b3 (Nat.le_refl _) b3.size, h3, B2.trans (b3.mono B2.size)⟩)
  clear CI hn1 hh1 b2 B1 hn2 hh2 hX2 B2 b3 h3 hz2 hc3
  go_wp2_with fail
  have S4 := Lib.hid S3.out.drew
  clear S3
  refine wp_region_held_drew (S := fun v => Fw w w1.heap.size W H A1 c1 l1 An note A3 f v) (by kernel_rfl) S4.out fun _ => ?_
  generalize w3.drew = w4 at *
  refine wpAnyH_takeD (i := 0) (d := 24) (v := .slice A3 f.length c3) rfl rfl (by kernel_rfl) (by kernel_rfl) (by kernel_rfl) (fun _ _ _ h => h) S4.out (Or.inl ⟨by rfl, fun w' hS' => ?_⟩) ?_
  · go_simp
  simp only [Act.put, List.setIfInBounds_toArray, List.set_cons_zero, List.set_cons_succ]
  refine wpAnyH_takeD (i := 1) (d := 25) (v := .int .u8 (kb.toNat : Int)) rfl rfl (by kernel_rfl) (by kernel_rfl) (by kernel_rfl) (fun _ _ _ h => h) S4.out (Or.inl ⟨by rfl, fun w' hS' => ?_⟩) ?_
  · go_simp
  simp only [Act.put, List.setIfInBounds_toArray, List.set_cons_zero, List.set_cons_succ]
  refine wpAnyH_takeD (i := 2) (d := 26) (v := .slice An note.length cn) rfl rfl (by kernel_rfl) (by kernel_rfl) (by kernel_rfl) (fun _ _ _ h => h) S4.out (Or.inl ⟨by rfl, fun w' hS' => ?_⟩) ?_
  · go_simp
  simp only [Act.put, List.setIfInBounds_toArray, List.set_cons_zero, List.set_cons_succ]
  refine wpAnyH_takeD (i := 3) (d := 27) (v := .agg #[.int .i64 W, .int .i64 H, .slice A1 l1.length c1]) rfl rfl (by kernel_rfl) (by kernel_rfl) (by kernel_rfl) (fun _ _ _ h => h) S4.out (Or.inl ⟨by rfl, fun w' hS' => ?_⟩) ?_
  · have x0 := hS'.1.c0
    have x1 := hS'.1.c1
    have x2 := hS'.1.c2
    go_simp
  simp only [Act.put, List.setIfInBounds_toArray, List.set_cons_zero, List.set_cons_succ]
  refine wpAnyH_one (i := 4) (by kernel_rfl) rfl (fun K hK => ?_)
  go_simp
  refine (CS.out _ S4.out.2.2.1 S4.out.2.1).mono ?_
  rintro e w5 ⟨A5, c5, rfl, -, h5, b5⟩
  have S5 := Lib.hid (S4.out.next b5)
  refine hK.out _ _ S5.out ?_
  clear hK
  clear S4 CS b5
  refine wpAnyH_one (i := 5) (by kernel_rfl) rfl (fun K hK => ?_)
  go_simp
  refine (eaBytes_same _ _ _ _ _ _ f _ S5.out.2.2.2.1 h5).mono ?_
  rintro e w' ⟨rfl, rfl⟩
  refine hK.out _ _ S5.out ?_
  clear hK
  clear h5
  refine wpAnyH_one (i := 6) (by kernel_rfl) rfl (fun K hK => ?_)
  go_simp
  refine hK.out _ _ S5.out ?_
  clear hK
  refine wpAnyH_one (i := 7) (by kernel_rfl) rfl (fun K hK => ?_)
  go_simp
  refine hK.out _ _ S5.out ?_
  clear hK
  refine wpAnyH_takeD (i := 8) (d := 32) (v := .agg #[.int .i64 W, .int .i64 H, .slice A1 l1.length c1]) rfl rfl (by kernel_rfl) (by kernel_rfl) (by kernel_rfl) (fun _ _ _ h => h) S5.out (Or.inl ⟨by rfl, fun w' hS' => ?_⟩) ?_
  · have x0 := hS'.1.c0
    have x1 := hS'.1.c1
    have x2 := hS'.1.c2
    go_simp
  simp only [Act.put, List.setIfInBounds_toArray, List.set_cons_zero, List.set_cons_succ]
  refine wpAnyH_takeD (i := 10) (d := 34) (v := .agg #[.int .i64 W, .int .i64 H, .slice A1 l1.length c1]) rfl rfl (by kernel_rfl) (by kernel_rfl) (by kernel_rfl) (fun _ _ _ h => h) S5.out (Or.inl ⟨by rfl, fun w' hS' => ?_⟩) ?_
  · have x0 := hS'.1.c0
    have x1 := hS'.1.c1
    have x2 := hS'.1.c2
    go_simp
  simp only [Act.put, List.setIfInBounds_toArray, List.set_cons_zero, List.set_cons_succ]
  refine wpAnyH_one (i := 9) (by kernel_rfl) rfl (fun K hK => ?_)
  go_simp
  refine (CPI.out _ S5.out.2.1).mono ?_
  rintro e w6 ⟨A6, c6, rfl, -, h6, b6⟩
  have S6 := Lib.hid (S5.out.next b6)
  refine hK.out _ _ S6.out ?_
  clear hK
  clear S5 b6
  refine wpAnyH_one (i := 11) (by kernel_rfl) rfl (fun K hK => ?_)
  go_simp
  refine (CPS.out _ S6.out.2.1).mono ?_
  rintro e w7 ⟨A7, c7, rfl, -, h7, b7⟩
  have S7 := Lib.hid (S6.out.next b7)
  have h67 := h6.carry b7 (Nat.le_refl _) b7.size
  refine hK.out _ _ S7.out ?_
  clear hK
  clear S6 b7 h6 CPS
  refine wpAnyH_one (i := 12) (by kernel_rfl) rfl (fun K hK => ?_)
  go_simp
  refine (eaBytes_same _ _ _ _ _ _ y _ h67 h7).mono ?_
  rintro e w' ⟨rfl, rfl⟩
  refine hK.out _ _ S7.out ?_
  clear hK
  clear h67 h7
  refine wpAnyH_one (i := 13) (by kernel_rfl) rfl (fun K hK => ?_)
  go_simp
  refine hK.out _ _ S7.out ?_
  clear hK
  refine wpAnyH_one (i := 14) (by kernel_rfl) rfl (fun K hK => ?_)
  go_simp
  refine hK.out _ _ S7.out ?_
  clear hK
  refine wpAnyH_done (by kernel_rfl) ?_ _
  have x0 := S7.out.1.c0
  have x1 := S7.out.1.c1
  have x2 := S7.out.1.c2
  go_wp2_with fail
  clear x0 x1 x2
  refine (CO.out _ S7.out.2.1).mono ?_
  rintro e w8 ⟨rfl, b8⟩
  have S8 := Lib.hid (S7.out.next b8)
  have x0 := S8.out.1.c0
  have x1 := S8.out.1.c1
  have x2 := S8.out.1.c2
  clear S7 b8 CO
  cases hr : rasB W H l1
  · obtain ⟨rfl, rfl⟩ := HNO.out hr
    clear hr HNO CG CK C80 CE HFL
    go_wp2_with fail
    clear x0 x1 x2
    refine (CPI.out _ S8.out.2.1).mono ?_
    rintro e w9 ⟨A9, c9, rfl, -, -, b9⟩
    have S9 := Lib.hid (S8.out.next b9)
    clear S8 b9 CPI
    go_wp2_with fail
    refine (eaOk_any _).mono ?_
    rintro e w10 ⟨rfl, b10⟩
    have S10 := Lib.hid (S9.out.next b10)
    clear S9 b10
    go_wp2_with fail
    go_ret
    exact ⟨rfl, S10.out.2.2.2.2⟩
  · have CGR := Lib.hid fun k A c W0 hk hc hh => CG.out k A c W0 hk hr hc hh
    clear HNO CG x0 x1 x2 hr
    have HKS : Hid (∀ W0 : World, Has (W0.alloc (.cells #[.int .u8 68, .int .u8 85, .int .u8 82, .int .u8 80] 5)) (W0.alloc (.cells #[.int .u8 68, .int .u8 85, .int .u8 82, .int .u8 80] 5)).heap.size (some ⟨W0.heap.size, 0, none⟩) [68, 85, 82, 80]) := Lib.hid fun W0 => (own_lit4 W0 68 85 82 80).reads
    have S9 := Lib.hid (S8.out.next ((Below.refl _ w8).alloc (Nat.le_refl _) (.cells #[.int .u8 68, .int .u8 85, .int .u8 82, .int .u8 80] 5)))
    have HK9 := Lib.hid (HKS.out w8)
    clear HKS S8
    go_wp2_with fail
    generalize w8.alloc (.cells #[.int .u8 68, .int .u8 85, .int .u8 82, .int .u8 80] 5) = w9 at *
    go_loopw [8, 9, 10] (fun v8 _ _ wr => ∃ k : Nat, k ≤ 4 ∧ v8 = .int .i64 (k : Int) ∧ Fw w w1.heap.size W H A1 c1 l1 An note A3 f wr ∧ Has wr wr.heap.size (some ⟨w8.heap.size, 0, none⟩) [68, 85, 82, 80]) (fun v8 _ _ _ => 4 - (intOf v8).toNat)
    case atStart => exact ⟨0, Nat.zero_le _, rfl, S9.out, HK9.out⟩
    case round =>
      clear S9 HK9
      obtain ⟨k, hk, rfl, hSP, hKS⟩ := hrel
      by_cases hlt : k < 4
      · obtain ⟨b', o', x, e', hbB, hx, hcx⟩ := hKS.spot (k := k) (by simpa using hlt)
        injection e' with e'
        injection e' with e2 e3 _
        subst e2 e3
        rw [Nat.zero_add] at hcx
        have hkx := kinds_at hx
        have HSP := Lib.hid hSP
        have HKS := Lib.hid hKS
        have CW := Lib.hid fun W0 hh hp => CK.out x W0 hh hp
        have CGX := Lib.hid fun A c W0 hc hh => CGR.out x A c W0 hkx hc hh
        have HFD := Lib.hid fun h => found_good (W := W) (H := H) (l := l1) (note := note) h
        have HCX := Lib.hid hcx
        have HBB := Lib.hid hbB
        generalize formB x note W H l1 = fx at *
        generalize foundW note W = Wx at *
        generalize foundW note H = Hx at *
        generalize foundL note l1 = lx at *
        generalize foundH note = how at *
        have hltI : (k : Int) < 4 := by omega
        have hkI : (k : Int) ≤ 4 := by omega
        unfold GotG at CGX
        clear hx hcx hkx hSP hKS CK CGR CPI C80 hk HFL hbB
        go_wp2_with fail
        refine wp_region_held_drew (S := fun v => Below wr.heap.size wr v) (by kernel_rfl) (below_drew1 (Below.refl _ wr)) fun B10 => ?_
        generalize wr.drew = w10 at *
        refine wpAnyH_takeD (i := 0) (d := 62) (v := .slice (some ⟨w8.heap.size, 0, none⟩) 4 4) rfl rfl (by kernel_rfl) (by kernel_rfl) (by kernel_rfl) (fun _ _ _ h => h) B10 (Or.inl ⟨by rfl, fun w' hS' => ?_⟩) ?_
        · go_simp
        simp only [Act.put, List.setIfInBounds_toArray, List.set_cons_zero, List.set_cons_succ]
        refine wpAnyH_takeD (i := 1) (d := 63) (v := .int .i64 (k : Int)) rfl rfl (by kernel_rfl) (by kernel_rfl) (by kernel_rfl) (fun _ _ _ h => h) B10 (Or.inl ⟨by rfl, fun w' hS' => ?_⟩) ?_
        · go_simp
        simp only [Act.put, List.setIfInBounds_toArray, List.set_cons_zero, List.set_cons_succ]
        refine wpAnyH_takeD (i := 2) (d := 64) (v := .pointer (some ⟨w8.heap.size, k, none⟩)) rfl rfl (by kernel_rfl) (by kernel_rfl) (by kernel_rfl) (fun _ _ _ h => h) B10 (Or.inl ⟨by rfl, fun w' hS' => ?_⟩) ?_
        · go_simp
        simp only [Act.put, List.setIfInBounds_toArray, List.set_cons_zero, List.set_cons_succ]
        refine wpAnyH_takeD (i := 3) (d := 65) (v := .int .u8 (x.toNat : Int)) rfl rfl (by kernel_rfl) (by kernel_rfl) (by kernel_rfl) (fun _ _ _ h => h) B10 (Or.inl ⟨by rfl, fun w' hS' => ?_⟩) ?_
        · have hcw := (hS'.cell (p := ⟨w8.heap.size, k, none⟩) HBB.out).trans HCX.out
          go_simp
        simp only [Act.put, List.setIfInBounds_toArray, List.set_cons_zero, List.set_cons_succ]
        refine wpAnyH_takeD (i := 4) (d := 66) (v := .slice An note.length cn) rfl rfl (by kernel_rfl) (by kernel_rfl) (by kernel_rfl) (fun _ _ _ h => h) B10 (Or.inl ⟨by rfl, fun w' hS' => ?_⟩) ?_
        · go_simp
        simp only [Act.put, List.setIfInBounds_toArray, List.set_cons_zero, List.set_cons_succ]
        refine wpAnyH_takeD (i := 5) (d := 67) (v := .agg #[.int .i64 W, .int .i64 H, .slice A1 l1.length c1]) rfl rfl (by kernel_rfl) (by kernel_rfl) (by kernel_rfl) (fun _ _ _ h => h) B10 (Or.inl ⟨by rfl, fun w' hS' => ?_⟩) ?_
        · have q := (HSP.out.next hS').1
          have x0 := q.c0
          have x1 := q.c1
          have x2 := q.c2
          go_simp
        simp only [Act.put, List.setIfInBounds_toArray, List.set_cons_zero, List.set_cons_succ]
        refine wpAnyH_two (i := 6) (j := 11) (by kernel_rfl) rfl rfl (fun K hK => ?_) (fun K hK => ?_)
        · go_simp
          refine (CW.out _ (HSP.out.next B10).2.2.1 (HSP.out.next B10).2.1).mono ?_
          rintro e w11 ⟨A11, c11, rfl, hc11, h11, b11⟩
          have B11 := B10.trans (b11.mono B10.size)
          refine hK.out _ _ B11 ?_
          clear hK
          refine wpAnyH_two (i := 7) (j := 11) (by kernel_rfl) rfl rfl (fun K hK => ?_) (fun K hK => ?_)
          · go_simp
            refine (CGX.out A11 c11 _ hc11 h11).mono ?_
            rintro e w12 ⟨A12, c12, rfl, h12, hA12, b12⟩
            have B12 := B11.trans (b12.mono B11.size)
            refine hK.out _ _ B12 ?_
            clear hK
            refine wpAnyH_takeD (i := 8) (d := 61) (v := .tuple #[.agg #[.int .i64 Wx, .int .i64 Hx, .slice A12 lx.length c12], .int .i64 how]) rfl rfl (by kernel_rfl) (by kernel_rfl) (by kernel_rfl) (fun _ _ _ h => h) B12 (Or.inl ⟨by rfl, fun w' hS' => ?_⟩) ?_
            · go_simp
            simp only [Act.put, List.setIfInBounds_toArray, List.set_cons_zero, List.set_cons_succ]
            refine wpAnyH_takeD (i := 9) (d := 70) (v := .agg #[.int .i64 Wx, .int .i64 Hx, .slice A12 lx.length c12]) rfl rfl (by kernel_rfl) (by kernel_rfl) (by kernel_rfl) (fun _ _ _ h => h) B12 (Or.inl ⟨by rfl, fun w' hS' => ?_⟩) ?_
            · go_simp
            simp only [Act.put, List.setIfInBounds_toArray, List.set_cons_zero, List.set_cons_succ]
            refine wpAnyH_takeD (i := 10) (d := 71) (v := .int .i64 how) rfl rfl (by kernel_rfl) (by kernel_rfl) (by kernel_rfl) (fun _ _ _ h => h) B12 (Or.inl ⟨by rfl, fun w' hS' => ?_⟩) ?_
            · go_simp
            simp only [Act.put, List.setIfInBounds_toArray, List.set_cons_zero, List.set_cons_succ]
            refine wpAnyH_one (i := 11) (by kernel_rfl) rfl (fun K hK => ?_)
            go_simp
            have hz := heap_alloc_new w12 (.cells #[.int .i64 0, .int .i64 0, .slice none 0 0] 25)
            have bz : Below w12.heap.size w12 (w12.alloc (.cells #[.int .i64 0, .int .i64 0, .slice none 0 0] 25)) := (Below.refl _ w12).alloc (Nat.le_refl _) _
            have Bz := B12.trans (bz.mono B12.size)
            have hhz := h12.carry bz (Nat.le_refl _) bz.size
            have hnz : ∀ b o, A12 = some ⟨b, o, none⟩ → lx = [] ∨ b ≠ w12.heap.size := has_ne h12
            have zlt := B12.size
            refine hK.out _ _ Bz ?_
            clear hK
            generalize hwz : w12.alloc (.cells #[.int .i64 0, .int .i64 0, .slice none 0 0] 25) = w12z at *
            clear hwz
            have HXZ : RasAtB w12z w12.heap.size 0 0 none 0 0 25 := hz
            have z0 := HXZ.c0
            have z1 := HXZ.c1
            have z2 := HXZ.c2
            have q0 : w12z.frozen? ⟨w12.heap.size, 0, none⟩ = false := HXZ.free 0
            have q1 : w12z.frozen? ⟨w12.heap.size, 1, none⟩ = false := HXZ.free 1
            have q2 : w12z.frozen? ⟨w12.heap.size, 2, none⟩ = false := HXZ.free 2
            refine wpAnyH_one (i := 12) (by kernel_rfl) rfl (fun K hK => ?_)
            go_simp
            obtain ⟨B13, hx13, h13⟩ := fw_fin (W := Wx) (H := Hx) (c := c12) HXZ hhz hnz Bz zlt
            refine hK.out _ _ B13 ?_
            clear hK
            clear z0 z1 z2 q0 q1 q2
            generalize ((w12z.setCell ⟨w12.heap.size, 0, none⟩ (.int .i64 Wx)).setCell ⟨w12.heap.size, 1, none⟩ (.int .i64 Hx)).setCell ⟨w12.heap.size, 2, none⟩ (.slice A12 lx.length c12) = w13 at *
            refine wpAnyH_one (i := 13) (by kernel_rfl) rfl (fun K hK => ?_)
            go_simp
            refine hK.out _ _ B13 ?_
            clear hK
            refine wpAnyH_done (by kernel_rfl) ?_ _
            have S13 := Lib.hid (HSP.out.next B13)
            have HK13 := Lib.hid (HKS.out.carry B13 (Nat.le_refl _) B13.size)
            have HX13 := Lib.hid hx13
            have HH13 := Lib.hid h13
            clear HSP HKS hx13 h13 CGX CW HCX HBB
            by_cases hn9 : note.length ≤ 9
            · obtain ⟨rfl, rfl, rfl, rfl⟩ := HFD.out hn9
              have hn9I : (note.length : Int) ≤ 9 := by omega
              have x0 := S13.out.1.c0
              have x1 := S13.out.1.c1
              have x2 := S13.out.1.c2
              have z0 := HX13.out.c0
              have z1 := HX13.out.c1
              have z2 := HX13.out.c2
              clear HFD hn9
              go_wp2_with fail
              refine (CE.out _ _ _ _ _ HH13.out S13.out.2.1).mono ?_
              rintro e w14 ⟨rfl, b14⟩
              rw [sameRas_self]
              have S14 := Lib.hid (S13.out.next b14)
              have HK14 := Lib.hid (HK13.out.carry b14 (Nat.le_refl _) b14.size)
              clear b14 S13 HK13 HX13 HH13 x0 x1 x2 z0 z1 z2
              go_wp2_with fail
              go_roundw
              case rel => exact ⟨k + 1, by omega, by go_num, S14.out, HK14.out⟩
              case measure => simp [intOf]; omega
            · have hn9I : (9 : Int) < (note.length : Int) := by omega
              clear HFD hn9
              go_wp2_with fail
              go_roundw
              case rel => exact ⟨k + 1, by omega, by go_num, S13.out, HK13.out⟩
              case measure => simp [intOf]; omega
          · go_simp
            have hz := heap_alloc_new w11 (.cells #[.int .i64 0, .int .i64 0, .slice none 0 0] 25)
            have bz : Below w11.heap.size w11 (w11.alloc (.cells #[.int .i64 0, .int .i64 0, .slice none 0 0] 25)) := (Below.refl _ w11).alloc (Nat.le_refl _) _
            have Bz := B11.trans (bz.mono B11.size)
            have h11z := h11.carry bz (Nat.le_refl _) bz.size
            have zlt := B11.size
            refine hK.out _ _ Bz ?_
            clear hK
            generalize hwz : w11.alloc (.cells #[.int .i64 0, .int .i64 0, .slice none 0 0] 25) = w11z at *
            clear hwz
            have HZ : RasAtB w11z w11.heap.size 0 0 none 0 0 25 := hz
            refine wpAnyH_one (i := 7) (by kernel_rfl) rfl (fun K hK => ?_)
            go_simp
            refine (CGX.out A11 c11 _ hc11 h11z).mono ?_
            rintro e w12 ⟨A12, c12, rfl, h12, hA12, b12⟩
            have B12 := Bz.trans (b12.mono Bz.size)
            have hx12 := HZ.below b12 HZ.lt
            have hn12 : ∀ b o, A12 = some ⟨b, o, none⟩ → lx = [] ∨ b ≠ w11.heap.size := fun b o e => .inr (by have := hA12 b o e; have := HZ.lt; omega)
            refine hK.out _ _ B12 ?_
            clear hK
            refine wpAnyH_takeD (i := 8) (d := 61) (v := .tuple #[.agg #[.int .i64 Wx, .int .i64 Hx, .slice A12 lx.length c12], .int .i64 how]) rfl rfl (by kernel_rfl) (by kernel_rfl) (by kernel_rfl) (fun _ _ _ h => h) B12 (Or.inl ⟨by rfl, fun w' hS' => ?_⟩) ?_
            · go_simp
            simp only [Act.put, List.setIfInBounds_toArray, List.set_cons_zero, List.set_cons_succ]
            refine wpAnyH_takeD (i := 9) (d := 70) (v := .agg #[.int .i64 Wx, .int .i64 Hx, .slice A12 lx.length c12]) rfl rfl (by kernel_rfl) (by kernel_rfl) (by kernel_rfl) (fun _ _ _ h => h) B12 (Or.inl ⟨by rfl, fun w' hS' => ?_⟩) ?_
            · go_simp
            simp only [Act.put, List.setIfInBounds_toArray, List.set_cons_zero, List.set_cons_succ]
            refine wpAnyH_takeD (i := 10) (d := 71) (v := .int .i64 how) rfl rfl (by kernel_rfl) (by kernel_rfl) (by kernel_rfl) (fun _ _ _ h => h) B12 (Or.inl ⟨by rfl, fun w' hS' => ?_⟩) ?_
            · go_simp
            simp only [Act.put, List.setIfInBounds_toArray, List.set_cons_zero, List.set_cons_succ]
            have HXZ : RasAtB w12 w11.heap.size 0 0 none 0 0 25 := hx12
            have z0 := HXZ.c0
            have z1 := HXZ.c1
            have z2 := HXZ.c2
            have q0 : w12.frozen? ⟨w11.heap.size, 0, none⟩ = false := HXZ.free 0
            have q1 : w12.frozen? ⟨w11.heap.size, 1, none⟩ = false := HXZ.free 1
            have q2 : w12.frozen? ⟨w11.heap.size, 2, none⟩ = false := HXZ.free 2
            refine wpAnyH_one (i := 12) (by kernel_rfl) rfl (fun K hK => ?_)
            go_simp
            obtain ⟨B13, hx13, h13⟩ := fw_fin (W := Wx) (H := Hx) (c := c12) HXZ h12 hn12 B12 zlt
            refine hK.out _ _ B13 ?_
            clear hK
            clear z0 z1 z2 q0 q1 q2
            generalize ((w12.setCell ⟨w11.heap.size, 0, none⟩ (.int .i64 Wx)).setCell ⟨w11.heap.size, 1, none⟩ (.int .i64 Hx)).setCell ⟨w11.heap.size, 2, none⟩ (.slice A12 lx.length c12) = w13 at *
            refine wpAnyH_one (i := 13) (by kernel_rfl) rfl (fun K hK => ?_)
            go_simp
            refine hK.out _ _ B13 ?_
            clear hK
            refine wpAnyH_done (by kernel_rfl) ?_ _
            have S13 := Lib.hid (HSP.out.next B13)
            have HK13 := Lib.hid (HKS.out.carry B13 (Nat.le_refl _) B13.size)
            have HX13 := Lib.hid hx13
            have HH13 := Lib.hid h13
            clear HSP HKS hx13 h13 CGX CW HCX HBB
            by_cases hn9 : note.length ≤ 9
            · obtain ⟨rfl, rfl, rfl, rfl⟩ := HFD.out hn9
              have hn9I : (note.length : Int) ≤ 9 := by omega
              have x0 := S13.out.1.c0
              have x1 := S13.out.1.c1
              have x2 := S13.out.1.c2
              have z0 := HX13.out.c0
              have z1 := HX13.out.c1
              have z2 := HX13.out.c2
              clear HFD hn9
              go_wp2_with fail
              refine (CE.out _ _ _ _ _ HH13.out S13.out.2.1).mono ?_
              rintro e w14 ⟨rfl, b14⟩
              rw [sameRas_self]
              have S14 := Lib.hid (S13.out.next b14)
              have HK14 := Lib.hid (HK13.out.carry b14 (Nat.le_refl _) b14.size)
              clear b14 S13 HK13 HX13 HH13 x0 x1 x2 z0 z1 z2
              go_wp2_with fail
              go_roundw
              case rel => exact ⟨k + 1, by omega, by go_num, S14.out, HK14.out⟩
              case measure => simp [intOf]; omega
            · have hn9I : (9 : Int) < (note.length : Int) := by omega
              clear HFD hn9
              go_wp2_with fail
              go_roundw
              case rel => exact ⟨k + 1, by omega, by go_num, S13.out, HK13.out⟩
              case measure => simp [intOf]; omega
        · go_simp
          have hz := heap_alloc_new w10 (.cells #[.int .i64 0, .int .i64 0, .slice none 0 0] 25)
          have bz : Below w10.heap.size w10 (w10.alloc (.cells #[.int .i64 0, .int .i64 0, .slice none 0 0] 25)) := (Below.refl _ w10).alloc (Nat.le_refl _) _
          have Bz := B10.trans (bz.mono B10.size)
          have zlt := B10.size
          refine hK.out _ _ Bz ?_
          clear hK
          generalize hwz : w10.alloc (.cells #[.int .i64 0, .int .i64 0, .slice none 0 0] 25) = w10z at *
          clear hwz
          have HZ : RasAtB w10z w10.heap.size 0 0 none 0 0 25 := hz
          refine wpAnyH_one (i := 6) (by kernel_rfl) rfl (fun K hK => ?_)
          go_simp
          refine (CW.out _ (HSP.out.next Bz).2.2.1 (HSP.out.next Bz).2.1).mono ?_
          rintro e w11 ⟨A11, c11, rfl, hc11, h11, b11⟩
          have B11 := Bz.trans (b11.mono Bz.size)
          have HZ1 := HZ.below b11 HZ.lt
          refine hK.out _ _ B11 ?_
          clear hK
          refine wpAnyH_one (i := 7) (by kernel_rfl) rfl (fun K hK => ?_)
          go_simp
          refine (CGX.out A11 c11 _ hc11 h11).mono ?_
          rintro e w12 ⟨A12, c12, rfl, h12, hA12, b12⟩
          have B12 := B11.trans (b12.mono B11.size)
          have hx12 := HZ1.below b12 HZ1.lt
          have hn12 : ∀ b o, A12 = some ⟨b, o, none⟩ → lx = [] ∨ b ≠ w10.heap.size := fun b o e => .inr (by have := hA12 b o e; have := HZ1.lt; omega)
          refine hK.out _ _ B12 ?_
          clear hK
          refine wpAnyH_takeD (i := 8) (d := 61) (v := .tuple #[.agg #[.int .i64 Wx, .int .i64 Hx, .slice A12 lx.length c12], .int .i64 how]) rfl rfl (by kernel_rfl) (by kernel_rfl) (by kernel_rfl) (fun _ _ _ h => h) B12 (Or.inl ⟨by rfl, fun w' hS' => ?_⟩) ?_
          · go_simp
          simp only [Act.put, List.setIfInBounds_toArray, List.set_cons_zero, List.set_cons_succ]
          refine wpAnyH_takeD (i := 9) (d := 70) (v := .agg #[.int .i64 Wx, .int .i64 Hx, .slice A12 lx.length c12]) rfl rfl (by kernel_rfl) (by kernel_rfl) (by kernel_rfl) (fun _ _ _ h => h) B12 (Or.inl ⟨by rfl, fun w' hS' => ?_⟩) ?_
          · go_simp
          simp only [Act.put, List.setIfInBounds_toArray, List.set_cons_zero, List.set_cons_succ]
          refine wpAnyH_takeD (i := 10) (d := 71) (v := .int .i64 how) rfl rfl (by kernel_rfl) (by kernel_rfl) (by kernel_rfl) (fun _ _ _ h => h) B12 (Or.inl ⟨by rfl, fun w' hS' => ?_⟩) ?_
          · go_simp
          simp only [Act.put, List.setIfInBounds_toArray, List.set_cons_zero, List.set_cons_succ]
          have HXZ : RasAtB w12 w10.heap.size 0 0 none 0 0 25 := hx12
          have z0 := HXZ.c0
          have z1 := HXZ.c1
          have z2 := HXZ.c2
          have q0 : w12.frozen? ⟨w10.heap.size, 0, none⟩ = false := HXZ.free 0
          have q1 : w12.frozen? ⟨w10.heap.size, 1, none⟩ = false := HXZ.free 1
          have q2 : w12.frozen? ⟨w10.heap.size, 2, none⟩ = false := HXZ.free 2
          refine wpAnyH_one (i := 12) (by kernel_rfl) rfl (fun K hK => ?_)
          go_simp
          obtain ⟨B13, hx13, h13⟩ := fw_fin (W := Wx) (H := Hx) (c := c12) HXZ h12 hn12 B12 zlt
          refine hK.out _ _ B13 ?_
          clear hK
          clear z0 z1 z2 q0 q1 q2
          generalize ((w12.setCell ⟨w10.heap.size, 0, none⟩ (.int .i64 Wx)).setCell ⟨w10.heap.size, 1, none⟩ (.int .i64 Hx)).setCell ⟨w10.heap.size, 2, none⟩ (.slice A12 lx.length c12) = w13 at *
          refine wpAnyH_one (i := 13) (by kernel_rfl) rfl (fun K hK => ?_)
          go_simp
          refine hK.out _ _ B13 ?_
          clear hK
          refine wpAnyH_done (by kernel_rfl) ?_ _
          have S13 := Lib.hid (HSP.out.next B13)
          have HK13 := Lib.hid (HKS.out.carry B13 (Nat.le_refl _) B13.size)
          have HX13 := Lib.hid hx13
          have HH13 := Lib.hid h13
          clear HSP HKS hx13 h13 CGX CW HCX HBB
          by_cases hn9 : note.length ≤ 9
          · obtain ⟨rfl, rfl, rfl, rfl⟩ := HFD.out hn9
            have hn9I : (note.length : Int) ≤ 9 := by omega
            have x0 := S13.out.1.c0
            have x1 := S13.out.1.c1
            have x2 := S13.out.1.c2
            have z0 := HX13.out.c0
            have z1 := HX13.out.c1
            have z2 := HX13.out.c2
            clear HFD hn9
            go_wp2_with fail
            refine (CE.out _ _ _ _ _ HH13.out S13.out.2.1).mono ?_
            rintro e w14 ⟨rfl, b14⟩
            rw [sameRas_self]
            have S14 := Lib.hid (S13.out.next b14)
            have HK14 := Lib.hid (HK13.out.carry b14 (Nat.le_refl _) b14.size)
            clear b14 S13 HK13 HX13 HH13 x0 x1 x2 z0 z1 z2
            go_wp2_with fail
            go_roundw
            case rel => exact ⟨k + 1, by omega, by go_num, S14.out, HK14.out⟩
            case measure => simp [intOf]; omega
          · have hn9I : (9 : Int) < (note.length : Int) := by omega
            clear HFD hn9
            go_wp2_with fail
            go_roundw
            case rel => exact ⟨k + 1, by omega, by go_num, S13.out, HK13.out⟩
            case measure => simp [intOf]; omega
      · have hk4 : k = 4 := by omega
        subst hk4
        have S10 := Lib.hid hSP.drew
        have hfI : (f.length : Int) ≤ 220 := by have := HFL.out; omega
        clear hSP hKS CK CGR CE HFL hlt hk
        go_wp2_with fail
        refine wp_region_held_drew (S := fun v => Fw w w1.heap.size W H A1 c1 l1 An note A3 f v) (by kernel_rfl) S10.out fun _ => ?_
        generalize wr.drew = w10 at *
        refine wpAnyH_takeD (i := 0) (d := 85) (v := .agg #[.int .i64 W, .int .i64 H, .slice A1 l1.length c1]) rfl rfl (by kernel_rfl) (by kernel_rfl) (by kernel_rfl) (fun _ _ _ h => h) S10.out (Or.inl ⟨by rfl, fun w' hS' => ?_⟩) ?_
        · have x0 := hS'.1.c0
          have x1 := hS'.1.c1
          have x2 := hS'.1.c2
          go_simp
        simp only [Act.put, List.setIfInBounds_toArray, List.set_cons_zero, List.set_cons_succ]
        refine wpAnyH_takeD (i := 3) (d := 88) (v := .agg #[.int .i64 W, .int .i64 H, .slice A1 l1.length c1]) rfl rfl (by kernel_rfl) (by kernel_rfl) (by kernel_rfl) (fun _ _ _ h => h) S10.out (Or.inl ⟨by rfl, fun w' hS' => ?_⟩) ?_
        · have x0 := hS'.1.c0
          have x1 := hS'.1.c1
          have x2 := hS'.1.c2
          go_simp
        simp only [Act.put, List.setIfInBounds_toArray, List.set_cons_zero, List.set_cons_succ]
        refine wpAnyH_two (i := 1) (j := 2) (by kernel_rfl) rfl rfl (fun K hK => ?_) (fun K hK => ?_)
        · go_simp
          refine (CPI.out _ S10.out.2.1).mono ?_
          rintro e w11 ⟨A11, c11, rfl, -, h11, b11⟩
          have S11 := Lib.hid (S10.out.next b11)
          refine hK.out _ _ S11.out ?_
          clear hK
          refine wpAnyH_one (i := 2) (by kernel_rfl) rfl (fun K hK => ?_)
          go_simp
          have be : Below w11.heap.size w11 (w11.alloc (.cells #[] 5)) := (Below.refl _ w11).alloc (Nat.le_refl _) _
          have S12 := Lib.hid (S11.out.next be)
          have h12 := h11.carry be (Nat.le_refl _) be.size
          refine hK.out _ _ S12.out ?_
          clear hK
          refine wpAnyH_one (i := 4) (by kernel_rfl) rfl (fun K hK => ?_)
          go_simp
          refine (show Calls _ _ #[.int .u8 80, .slice (some ⟨w11.heap.size, 0, none⟩) 0 0, _] _ _ from C80.out (some ⟨w11.heap.size, 0, none⟩) _ S12.out.2.1).mono ?_
          rintro e w13 ⟨A13, c13, rfl, -, h13, b13⟩
          have S13 := Lib.hid (S12.out.next b13)
          have h11z := h12.carry b13 (Nat.le_refl _) b13.size
          refine hK.out _ _ S13.out ?_
          clear hK
          refine wpAnyH_one (i := 5) (by kernel_rfl) rfl (fun K hK => ?_)
          go_simp
          refine (eaBytes_same _ _ _ _ _ _ y _ h11z h13).mono ?_
          rintro e w' ⟨rfl, rfl⟩
          refine hK.out _ _ S13.out ?_
          clear hK
          refine wpAnyH_one (i := 6) (by kernel_rfl) rfl (fun K hK => ?_)
          go_simp
          refine hK.out _ _ S13.out ?_
          clear hK
          refine wpAnyH_one (i := 7) (by kernel_rfl) rfl (fun K hK => ?_)
          go_simp
          refine hK.out _ _ S13.out ?_
          clear hK
          refine wpAnyH_one (i := 8) (by kernel_rfl) rfl (fun K hK => ?_)
          go_simp
          refine hK.out _ _ S13.out ?_
          clear hK
          refine wpAnyH_one (i := 9) (by kernel_rfl) rfl (fun K hK => ?_)
          go_simp
          refine hK.out _ _ S13.out ?_
          clear hK
          refine wpAnyH_one (i := 10) (by kernel_rfl) rfl (fun K hK => ?_)
          go_simp
          refine hK.out _ _ S13.out ?_
          clear hK
          refine wpAnyH_one (i := 11) (by kernel_rfl) rfl (fun K hK => ?_)
          go_simp
          refine hK.out _ _ S13.out ?_
          clear hK
          refine wpAnyH_done (by kernel_rfl) ?_ _
          go_wp2_with fail
          go_ret
          exact ⟨rfl, S13.out.2.2.2.2⟩
        · go_simp
          have be : Below w10.heap.size w10 (w10.alloc (.cells #[] 5)) := (Below.refl _ w10).alloc (Nat.le_refl _) _
          have S11 := Lib.hid (S10.out.next be)
          refine hK.out _ _ S11.out ?_
          clear hK
          refine wpAnyH_one (i := 1) (by kernel_rfl) rfl (fun K hK => ?_)
          go_simp
          refine (CPI.out _ S11.out.2.1).mono ?_
          rintro e w12 ⟨A11, c11, rfl, -, h12, b12⟩
          have S12 := Lib.hid (S11.out.next b12)
          refine hK.out _ _ S12.out ?_
          clear hK
          refine wpAnyH_one (i := 4) (by kernel_rfl) rfl (fun K hK => ?_)
          go_simp
          refine (show Calls _ _ #[.int .u8 80, .slice (some ⟨w10.heap.size, 0, none⟩) 0 0, _] _ _ from C80.out (some ⟨w10.heap.size, 0, none⟩) _ S12.out.2.1).mono ?_
          rintro e w13 ⟨A13, c13, rfl, -, h13, b13⟩
          have S13 := Lib.hid (S12.out.next b13)
          have h11z := h12.carry b13 (Nat.le_refl _) b13.size
          refine hK.out _ _ S13.out ?_
          clear hK
          refine wpAnyH_one (i := 5) (by kernel_rfl) rfl (fun K hK => ?_)
          go_simp
          refine (eaBytes_same _ _ _ _ _ _ y _ h11z h13).mono ?_
          rintro e w' ⟨rfl, rfl⟩
          refine hK.out _ _ S13.out ?_
          clear hK
          refine wpAnyH_one (i := 6) (by kernel_rfl) rfl (fun K hK => ?_)
          go_simp
          refine hK.out _ _ S13.out ?_
          clear hK
          refine wpAnyH_one (i := 7) (by kernel_rfl) rfl (fun K hK => ?_)
          go_simp
          refine hK.out _ _ S13.out ?_
          clear hK
          refine wpAnyH_one (i := 8) (by kernel_rfl) rfl (fun K hK => ?_)
          go_simp
          refine hK.out _ _ S13.out ?_
          clear hK
          refine wpAnyH_one (i := 9) (by kernel_rfl) rfl (fun K hK => ?_)
          go_simp
          refine hK.out _ _ S13.out ?_
          clear hK
          refine wpAnyH_one (i := 10) (by kernel_rfl) rfl (fun K hK => ?_)
          go_simp
          refine hK.out _ _ S13.out ?_
          clear hK
          refine wpAnyH_one (i := 11) (by kernel_rfl) rfl (fun K hK => ?_)
          go_simp
          refine hK.out _ _ S13.out ?_
          clear hK
          refine wpAnyH_done (by kernel_rfl) ?_ _
          go_wp2_with fail
          go_ret
          exact ⟨rfl, S13.out.2.2.2.2⟩
set_option maxHeartbeats 400000 in
theorem fnFormWrite_walk (A : Option Addr) (c : Nat) (l : List UInt8) (w : World) (h : Has w w.heap.size A l) (hc : l.length ≤ c) :
    Calls Try.prog 3 #[.slice A l.length c] w fun e w' => e = .returned (.bool true) ∧ Below w.heap.size w w' := by
  by_cases hbig : 1048576 < l.length
  · have hb : (1048576 : Int) < (l.length : Int) := by omega
    clear hbig h
    go_enter Try.func3, Try.ntmps3
    go_wp2
    go_ret
    exact ⟨rfl, Below.refl _ _⟩
  · exact fnFormWrite_small A c l w h hc (by omega)
end Go.Proofs.Ytnnpjcbdcjdojaa
