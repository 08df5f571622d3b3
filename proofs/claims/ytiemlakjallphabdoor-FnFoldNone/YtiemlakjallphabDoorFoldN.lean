/-
  OpsFold of the program. Conditions as they stand.
-/
import Derived.Test.YtiemlakjallphabDoorFoldM
import Derived.Test.YtiemlakjallphabDoorFoldU
namespace Go.Proofs.YtiemlakjallphabDoor
set_option maxRecDepth 4000
open Go.RowKit

/-- A list of the call's own that a call answers. -/
def GaveO (r : List Op) (w : World) (e : Ending) (w' : World) : Prop :=
  ∃ A c n, n = r.length ∧ e = .returned (.slice A n c) ∧ opE.Own w' w.heap.size (.slice A n c) r ∧ Below w.heap.size w w'
/-- A list of the call's own under way: what it folds to is what the first one folds to. -/
def WayO (l : List Op) (w : World) (v : Value) (u : World) : Prop :=
  ∃ (cur : List Op) (A : Option Addr) (c n : Nat), n = cur.length ∧ v = .slice A n c ∧ foldR cur = foldR l ∧ cur.all opB = true ∧ cur.length ≤ 5 ∧ opE.Own u w.heap.size (.slice A n c) cur ∧ Below w.heap.size w u
theorem opsFold_le (l : List Op) : (opsFold l).length ≤ l.length := by
  unfold opsFold
  split
  · exact foldR_le l
  · exact Nat.zero_le _
set_option maxHeartbeats 4000000 in
theorem implOpsFold_any (A : Option Addr) (c : Nat) (l : List Op) (w : World) (hs : l.length ≤ 1073741824) (hR : RangesIn w) (h : opE.Has w w.heap.size A l) :
    Calls Tryd.prog 22 #[.slice A l.length c] w (GaveO (opsFold l) w) := by
  have CA := Lib.hid (implOpsOk_any A c l w hs hR h)
  have CK := Lib.hid fun (hl : l.length ≤ 5) u (hb : Below w.heap.size w u) => cloneOp_any A c l u (by omega) ((h.below hb).wider hb.size)
  obtain ⟨N, hN⟩ : ∃ N, l.length = N := ⟨_, rfl⟩
  have HN := Lib.hid hN
  rw [hN] at hs CA CK ⊢
  obtain ⟨q, hq⟩ : ∃ q, opsB l = q := ⟨_, rfl⟩
  have HQ := Lib.hid hq
  rw [hq] at CA
  clear h hN hq hR
  have C0 := CA.out
  clear CA
  cases q
  case false =>
    go_enter Tryd.func22, Tryd.ntmps22
    go_wp2_with fail
    refine C0.mono ?_
    rintro e w1 ⟨rfl, b1⟩
    have HB1 := Lib.hid b1
    clear b1
    go_wp2_with fail
    go_ret
    exact ⟨none, 0, 0, by rw [opsFold_bad HQ.out]; rfl, rfl, by rw [opsFold_bad HQ.out]; exact El.own_nil opE _ _, HB1.out⟩
  have hn5 : N ≤ 5 := by rw [← HN.out]; exact (opsB_of HQ.out).2
  go_enter Tryd.func22, Tryd.ntmps22
  go_wp2_with fail
  refine C0.mono ?_
  rintro e w1 ⟨rfl, b1⟩
  have HB1 := Lib.hid b1
  clear b1
  go_wp2_with fail
  refine (CK.out hn5 _ HB1.out).mono ?_
  rintro e w2 ⟨A0, c0, rfl, ho, b2⟩
  have HO := Lib.hid (ho.lower HB1.out.size)
  have HB2 := Lib.hid (HB1.out.trans (b2.mono HB1.out.size))
  clear ho b2
  go_wp2_with fail
  go_loopw [3] (fun v wr => WayO l w v wr) (fun v _ => match v with | .slice _ n _ => n | _ => 0)
  case atStart => exact ⟨l, A0, c0, N, HN.out.symm, rfl, rfl, (opsB_of HQ.out).1, (opsB_of HQ.out).2, HO.out, HB2.out⟩
  case round =>
    obtain ⟨cur, A1, c1, n, hn, rfl, hf, hal, h5, ho, hb⟩ := hrel
    have HF := Lib.hid hf
    have HAL := Lib.hid hal
    have HO1 := Lib.hid ho
    have HB := Lib.hid hb
    have HNC := Lib.hid hn
    have H5 := Lib.hid h5
    have CL := Lib.hid (foldOnce_any A1 n c1 cur wr hn.symm (by have := ho.len; omega) (by omega) hal ho.reads)
    clear hf hal ho hb h5 hn
    obtain ⟨p, hp⟩ : ∃ p, foldO cur = p := ⟨_, rfl⟩
    have HP := Lib.hid hp
    rw [hp] at CL
    have C1 := CL.out
    clear CL hp
    go_wp2_with fail
    refine C1.mono ?_
    rintro e w3 ⟨A2, n2, c2, rfl, hs2, b3⟩
    have HS2 := Lib.hid hs2
    have HB3 := Lib.hid (HB.out.trans (b3.mono HB.out.size))
    have HB0 := Lib.hid b3
    clear C1 hs2 b3
    cases p with
    | none =>
      have hr : opsFold l = cur := by rw [opsFold_ok HQ.out, ← HF.out, foldR_stop HP.out]
      have HE : Hid (GaveO (opsFold l) w (.returned (.slice A1 n c1)) w3) := Lib.hid ⟨A1, c1, n, by rw [hr]; exact HNC.out, rfl, by rw [hr]; exact HO1.out.below HB0.out (Nat.le_refl _), HB3.out⟩
      clear hr
      go_wp2_with fail
      go_ret
      exact HE.out
    | some s =>
      obtain ⟨hn2, ho2⟩ := HS2.out s rfl
      have hlt := foldO_lt HP.out
      rw [← hn2, ← HNC.out] at hlt
      have HE : Hid (WayO l w (.slice A2 n2 c2) w3) := Lib.hid ⟨s, A2, c2, n2, hn2, rfl, by rw [← foldR_step HP.out]; exact HF.out, foldO_ok HAL.out HP.out, by rw [← hn2]; have := H5.out; rw [← HNC.out] at this; omega, ho2.lower HB.out.size, HB3.out⟩
      clear hn2 ho2 HS2
      go_wp2_with fail
      go_roundw
      case rel => exact HE.out
      case measure => simp; omega
end Go.Proofs.YtiemlakjallphabDoor
