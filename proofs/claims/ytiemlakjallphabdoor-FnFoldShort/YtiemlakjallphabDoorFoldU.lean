/-
  OpsFold of the reference. Conditions as they stand.
-/
import Derived.Test.YtiemlakjallphabDoorFoldT
import Derived.Test.YtiemlakjallphabDoorOpsI
namespace Go.Proofs.YtiemlakjallphabDoor
set_option maxRecDepth 4000
open Go.RowKit

/-- A list of operations that a call answers. -/
def GaveL (r : List Op) (w : World) (e : Ending) (w' : World) : Prop :=
  ∃ A c, e = .returned (.slice A r.length c) ∧ r.length ≤ c ∧ opE.Has w' w'.heap.size A r ∧ Below w.heap.size w w'
/-- A list under way: what it folds to is what the first one folds to; b: whether there may be more. -/
def Way (l : List Op) (w : World) (b : Bool) (v : Value) (u : World) : Prop :=
  ∃ (cur : List Op) (A : Option Addr) (c n : Nat), n = cur.length ∧ v = .slice A n c ∧ foldR cur = foldR l ∧ (b = false → foldO cur = none) ∧ cur.all opB = true ∧ cur.length ≤ 5 ∧ cur.length ≤ c ∧ opE.Has u u.heap.size A cur ∧ Below w.heap.size w u
theorem opsFold_ok {l : List Op} (h : opsB l = true) : opsFold l = foldR l := by unfold opsFold; rw [if_pos h]
theorem opsFold_bad {l : List Op} (h : opsB l = false) : opsFold l = [] := by unfold opsFold; rw [h]; rfl
theorem opsB_of {l : List Op} (h : opsB l = true) : l.all opB = true ∧ l.length ≤ 5 := by
  unfold opsB at h
  rw [Bool.and_eq_true] at h
  exact ⟨h.1, of_decide_eq_true h.2⟩
set_option maxHeartbeats 4000000 in
theorem specOpsFold_any (A : Option Addr) (c : Nat) (l : List Op) (w : World) (hs : l.length ≤ 1073741824) (h : opE.Has w w.heap.size A l) :
    Calls Tryd.prog 21 #[.slice A l.length c] w (GaveL (opsFold l) w) := by
  have CA := Lib.hid (specL6All_any A c l w hs h)
  obtain ⟨N, hN⟩ : ∃ N, l.length = N := ⟨_, rfl⟩
  have HN := Lib.hid hN
  have HH := Lib.hid fun u (hb : Below w.heap.size w u) => h.below hb
  rw [hN] at hs CA ⊢
  obtain ⟨q, hq⟩ : ∃ q, opsB l = q := ⟨_, rfl⟩
  have HQ := Lib.hid hq
  rw [hq] at CA
  clear h hN hq
  have C0 := CA.out
  clear CA
  cases q
  case false =>
    go_enter Tryd.func21, Tryd.ntmps21
    go_wp2_with fail
    refine C0.mono ?_
    rintro e w1 ⟨rfl, b1⟩
    have HB1 := Lib.hid b1
    clear b1
    go_wp2_with fail
    go_ret
    exact ⟨_, _, by rw [opsFold_bad HQ.out]; rfl, by rw [opsFold_bad HQ.out]; exact Nat.zero_le _, by rw [opsFold_bad HQ.out]; exact El.Has.nil, HB1.out.alloc HB1.out.size _⟩
  have hn5 : N ≤ 5 := by rw [← HN.out]; exact (opsB_of HQ.out).2
  have HO0 : Hid (∀ u, Below w.heap.size w u → opE.Own (u.alloc (.cells #[] 49)) w.heap.size (.slice (some ⟨u.heap.size, 0, none⟩) 0 0) []) := Lib.hid fun u hb => El.own_empty opE hb.size
  go_enter Tryd.func21, Tryd.ntmps21
  go_wp2_with fail
  refine C0.mono ?_
  rintro e w1 ⟨rfl, b1⟩
  have HB1 := Lib.hid b1
  have HBA := Lib.hid (b1.alloc b1.size (.cells #[] 49))
  have HO1 := Lib.hid (HO0.out w1 b1)
  clear b1
  go_wp2_with (at_builtin; refine El.wpList_pushAll (E := opE) 34 Tryd.underlying34 rfl (.tmp 9) (.tmp 10) rfl w.heap.size (.slice (some ⟨w1.heap.size, 0, none⟩) 0 0) [] rfl HO1.out w.heap.size A c N l HN.out (HH.out _ HBA.out) rfl (by simp; omega) HBA.out.size ?_; intro A3 c3 w3 ho3 hg3; rw [List.nil_append, HN.out] at ho3; rw [List.nil_append, HN.out]; have HB3 := Lib.hid (HBA.out.grown hg3 HBA.out.size (fun q e => (World.ownsRow.lt HO1.out q e).1)); have HO3 := Lib.hid ho3; clear ho3 hg3)
  go_loopw [3, 4] (fun v m wr => ∃ b, m = .bool b ∧ Way l w b v wr) (fun v m _ => match v, m with | .slice _ n _, .bool b => 2 * n + b.toNat | _, _ => 0)
  case atStart => exact ⟨true, rfl, l, A3, c3, N, HN.out.symm, rfl, rfl, fun h => absurd h (by decide), (opsB_of HQ.out).1, (opsB_of HQ.out).2, HO3.out.len.2, HO3.out.reads, HB3.out⟩
  case round =>
    obtain ⟨b, rfl, cur, A1, c1, n, hn, rfl, hf, hno, hal, h5, hc, hh, hb⟩ := hrel
    have HF := Lib.hid hf
    have HNO := Lib.hid hno
    have HAL := Lib.hid hal
    have HHC := Lib.hid hh
    have HB := Lib.hid hb
    have HNC := Lib.hid hn
    have H5 := Lib.hid h5
    have HC := Lib.hid hc
    have CL := Lib.hid (l6Fold_any A1 c1 cur wr (by omega) hc hal hh)
    rw [← hn] at CL
    clear hf hno hal hh hb h5 hc hn
    cases b
    case false =>
      have hr : opsFold l = cur := by rw [opsFold_ok HQ.out, ← HF.out, foldR_stop (HNO.out rfl)]
      go_wp2_with fail
      go_ret
      exact ⟨A1, c1, by rw [← HNC.out]; rfl, HC.out, HHC.out, HB.out⟩
    case true =>
      cases hfo : foldO cur with
      | none =>
        rw [hfo] at CL
        simp only [Option.getD_none, Option.isSome_none, ← HNC.out] at CL
        have HFO := Lib.hid hfo
        have C1 := CL.out
        clear hfo CL
        go_wp2_with fail
        refine C1.mono ?_
        rintro e w2 ⟨A2, c2, rfl, hc2, hh2, b2⟩
        have HE : Hid (Way l w false (.slice A2 n c2) w2) := Lib.hid ⟨cur, A2, c2, n, HNC.out, rfl, HF.out, fun _ => HFO.out, HAL.out, H5.out, by rw [← HNC.out]; exact hc2, hh2, HB.out.trans (b2.mono HB.out.size)⟩
        clear C1 hc2 hh2 b2
        go_wp2_with fail
        go_roundw
        case rel => exact ⟨false, rfl, HE.out⟩
        case measure => simp
      | some s =>
        rw [hfo] at CL
        simp only [Option.getD_some, Option.isSome_some] at CL
        have HFO := Lib.hid hfo
        have hlt := foldO_lt hfo
        obtain ⟨m, hm⟩ : ∃ m, s.length = m := ⟨_, rfl⟩
        have HM := Lib.hid hm
        rw [hm] at CL hlt
        rw [← HNC.out] at hlt
        have C1 := CL.out
        clear hfo CL hm
        go_wp2_with fail
        refine C1.mono ?_
        rintro e w2 ⟨A2, c2, rfl, hc2, hh2, b2⟩
        have HE : Hid (Way l w true (.slice A2 m c2) w2) := Lib.hid ⟨s, A2, c2, m, HM.out.symm, rfl, by rw [← foldR_step HFO.out]; exact HF.out, fun h => absurd h (by decide), foldO_ok HAL.out HFO.out, by rw [HM.out]; have := H5.out; rw [← HNC.out] at this; omega, by rw [HM.out]; exact hc2, hh2, HB.out.trans (b2.mono HB.out.size)⟩
        clear C1 hc2 hh2 b2
        go_wp2_with fail
        go_roundw
        case rel => exact ⟨true, rfl, HE.out⟩
        case measure => simp; omega
end Go.Proofs.YtiemlakjallphabDoor
