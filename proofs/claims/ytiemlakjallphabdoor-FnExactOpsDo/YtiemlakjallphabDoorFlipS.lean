/-
  l5Flip of the reference: a raster with its rows in reverse. Conditions: the pixels are read from memory that was there; the raster is one.
-/
import Derived.Test.YtiemlakjallphabDoorFlipI
import Derived.Test.YtiemlakjallphabDoorRegT
import Derived.Test.YtiemlakjallphabDoorPushP
import Derived.StillTailTactics
namespace Go.Proofs.YtiemlakjallphabDoor
set_option maxRecDepth 4000
open Go.RowKit

theorem rasB_new3 {w : World} (a b c : Obj) (W H : Int) (A : Option Addr) (n k : Nat) (t : TypeId) (h : b = .cells #[.int .i64 W, .int .i64 H, .slice A n k] t) : RasAtB (((w.alloc a).alloc b).alloc c) (w.heap.size + 1) W H A n k t := by
  subst h
  have := heap_alloc_new (w.alloc a) (.cells #[.int .i64 W, .int .i64 H, .slice A n k] t)
  rw [show (w.alloc a).heap.size = w.heap.size + 1 from by simp] at this
  exact (Below.heap_alloc _ _ _ (by simp)).trans this
set_option maxHeartbeats 2000000 in
theorem l5Flip_any (W H : Int) (A : Option Addr) (c : Nat) (l : List Px) (w : World) (hok : rasB W H l = true) (hc : l.length ≤ c) (h : HasP w w.heap.size A l) :
    Calls Tryd.prog 63 #[rasV W H A l.length c] w (Flipped W H (flipR W H l) w) := by
  have hfl := flipR_length hok
  have hln := len_nat hok
  obtain ⟨hW, hH, hl, -⟩ := rasB_parts hok
  have h36 := mul36 hW hH
  obtain ⟨b, o, p0, rfl, -, -, -⟩ := h.spot (k := 0) (by omega)
  unfold flipR at hfl ⊢
  obtain ⟨Wn, rfl⟩ : ∃ Wn : Nat, W = (Wn : Int) := ⟨W.toNat, by omega⟩
  obtain ⟨Hn, rfl⟩ : ∃ Hn : Nat, H = (Hn : Int) := ⟨H.toNat, by omega⟩
  rw [Int.toNat_natCast, Int.toNat_natCast] at *
  obtain ⟨N, hN⟩ : ∃ N, l.length = N := ⟨_, rfl⟩
  rw [hN] at hc hln hfl hl ⊢
  unfold Flipped rasV
  rw [hfl]
  have hX0 : RasAtB (((w.alloc (.cells #[.int .i64 (Wn : Int), .int .i64 (Hn : Int), .slice (some ⟨b, o, none⟩) N c] 30)).alloc (.cells #[.int .i64 0, .int .i64 0, .slice none 0 0] 30)).alloc (.cells #[.int .i64 (Wn : Int), .int .i64 (Hn : Int), .slice none 0 0] 30)) w.heap.size (Wn : Int) (Hn : Int) (some ⟨b, o, none⟩) N c 30 := (Below.heap_alloc _ _ _ (by simp; omega)).trans ((Below.heap_alloc _ _ _ (by simp)).trans (heap_alloc_new w _))
  have hY0 : RasAtB (((w.alloc (.cells #[.int .i64 (Wn : Int), .int .i64 (Hn : Int), .slice (some ⟨b, o, none⟩) N c] 30)).alloc (.cells #[.int .i64 0, .int .i64 0, .slice none 0 0] 30)).alloc (.cells #[.int .i64 (Wn : Int), .int .i64 (Hn : Int), .slice none 0 0] 30)) (w.heap.size + 1) 0 0 none 0 0 30 := rasB_new3 _ _ _ _ _ _ _ _ _ rfl
  have hZ0 : RasAtB (((w.alloc (.cells #[.int .i64 (Wn : Int), .int .i64 (Hn : Int), .slice (some ⟨b, o, none⟩) N c] 30)).alloc (.cells #[.int .i64 0, .int .i64 0, .slice none 0 0] 30)).alloc (.cells #[.int .i64 (Wn : Int), .int .i64 (Hn : Int), .slice none 0 0] 30)) (w.heap.size + 1 + 1) (Wn : Int) (Hn : Int) none 0 0 30 := by
    have := heap_alloc_new ((w.alloc (.cells #[.int .i64 (Wn : Int), .int .i64 (Hn : Int), .slice (some ⟨b, o, none⟩) N c] 30)).alloc (.cells #[.int .i64 0, .int .i64 0, .slice none 0 0] 30)) (.cells #[.int .i64 (Wn : Int), .int .i64 (Hn : Int), .slice none 0 0] 30)
    rw [show ((w.alloc (.cells #[.int .i64 (Wn : Int), .int .i64 (Hn : Int), .slice (some ⟨b, o, none⟩) N c] 30)).alloc (.cells #[.int .i64 0, .int .i64 0, .slice none 0 0] 30)).heap.size = w.heap.size + 1 + 1 from by simp] at this
    exact this
  have hb0 : Below w.heap.size w (((w.alloc (.cells #[.int .i64 (Wn : Int), .int .i64 (Hn : Int), .slice (some ⟨b, o, none⟩) N c] 30)).alloc (.cells #[.int .i64 0, .int .i64 0, .slice none 0 0] 30)).alloc (.cells #[.int .i64 (Wn : Int), .int .i64 (Hn : Int), .slice none 0 0] 30)) := (((Below.refl _ w).alloc (Nat.le_refl _) _).alloc (by simp) _).alloc (by simp; omega) _
  have hsz : (((w.alloc (.cells #[.int .i64 (Wn : Int), .int .i64 (Hn : Int), .slice (some ⟨b, o, none⟩) N c] 30)).alloc (.cells #[.int .i64 0, .int .i64 0, .slice none 0 0] 30)).alloc (.cells #[.int .i64 (Wn : Int), .int .i64 (Hn : Int), .slice none 0 0] 30)).heap.size = w.heap.size + 3 := by simp
  have HH := Lib.hid h
  have HN := Lib.hid (And.intro hN (And.intro hln hfl))
  have hn36 : N ≤ 36 := by omega
  have HX0 := Lib.hid hX0
  have HY0 := Lib.hid hY0
  have HZ0 := Lib.hid hZ0
  have HB0 := Lib.hid hb0
  have HSZ := Lib.hid hsz
  clear h hN hln hfl hl h36 hok hX0 hY0 hZ0 hb0 hsz
  go_enter Tryd.func63, Tryd.ntmps63
  go_wp2_with fail
  generalize ((w.alloc (.cells #[.int .i64 (Wn : Int), .int .i64 (Hn : Int), .slice (some ⟨b, o, none⟩) N c] 30)).alloc (.cells #[.int .i64 0, .int .i64 0, .slice none 0 0] 30)).alloc (.cells #[.int .i64 (Wn : Int), .int .i64 (Hn : Int), .slice none 0 0] 30) = w0 at *
  have hz3 : w.heap.size + 3 = w0.heap.size := HSZ.out.symm
  go_loopw [4] (fun v4 wr => ∃ (n : Nat) (cur : List Px) (A' : Option Addr) (c' : Nat), n ≤ Hn ∧ v4 = .int .i64 ((n : Int) - 1) ∧ OwnP wr w0.heap.size (.slice A' cur.length c') cur ∧ cur.length ≤ c' ∧ cur ++ flipN Wn l n = flipN Wn l Hn ∧ cur.length + n * Wn = N ∧ RasAtB wr w.heap.size (Wn : Int) (Hn : Int) (some ⟨b, o, none⟩) N c 30 ∧ RasAtB wr (w.heap.size + 1) 0 0 none 0 0 30 ∧ RasAtB wr (w.heap.size + 1 + 1) (Wn : Int) (Hn : Int) A' cur.length c' 30 ∧ Below w.heap.size w wr ∧ w0.heap.size ≤ wr.heap.size) (fun v4 _ => (intOf v4 + 1).toNat)
  case atStart => exact ⟨Hn, [], none, 0, Nat.le_refl _, rfl, ownP_nil _ _, Nat.le_refl _, rfl, by rw [HN.out.2.1, Nat.mul_comm]; simp, HX0.out, HY0.out, HZ0.out, HB0.out, Nat.le_refl _⟩
  case round =>
    obtain ⟨n, cur, A', c', hn, rfl, hown, hcc, hcur, hlen, hx, hy, hz, hbel, hwz⟩ := hrel
    cases n with
    | zero =>
      have hce : cur = flipN Wn l Hn := by rw [← hcur]; simp [flipN]
      rw [hce, HN.out.2.2] at hown hcc hz
      have z0 := hz.c0
      have z1 := hz.c1
      have z2 := hz.c2
      have y0 := hy.c0
      have y1 := hy.c1
      have y2 := hy.c2
      have f0 := hy.free 0
      have f1 := hy.free 1
      have f2 := hy.free 2
      have HXe := Lib.hid (fin_ras hy (.int .i64 (Wn : Int)) (.int .i64 (Hn : Int)) (.slice A' N c'))
      have HBw := Lib.hid hbel
      have HBe := Lib.hid (((HBw.out.setCell (p := ⟨w.heap.size + 1, 0, none⟩) (by simp) (.int .i64 (Wn : Int))).setCell (p := ⟨w.heap.size + 1, 1, none⟩) (by simp) (.int .i64 (Hn : Int))).setCell (p := ⟨w.heap.size + 1, 2, none⟩) (by simp) (.slice A' N c'))
      have HOe := Lib.hid (((hown.set_low (b := w.heap.size + 1) (by omega) 0 (.int .i64 (Wn : Int))).set_low (b := w.heap.size + 1) (by omega) 1 (.int .i64 (Hn : Int))).set_low (b := w.heap.size + 1) (by omega) 2 (.slice A' N c'))
      clear hown hcur hlen hx hy hz hbel hce
      go_wp2_with fail
      (try simp only [Exit.inBlock, Exit.then])
      refine bodyPost_ret (results_cell_row rfl _ _ (w.heap.size + 1) 30 #[.int .i64 (Wn : Int), .int .i64 (Hn : Int), .slice A' N c'] (0, 0) _ rfl HXe.out Tryd.underlying30 rfl (by kernel_rfl)) rfl ?_
      exact ⟨A', c', rfl, hcc, HOe.out.lower (by omega), HBe.out⟩
    | succ n =>
      rw [show (((n + 1 : Nat) : Int) - 1) = (n : Int) from by omega]
      have hmul : (n + 1) * Wn = n * Wn + Wn := by rw [Nat.add_mul, Nat.one_mul]
      obtain ⟨s, hs⟩ : ∃ s, n * Wn = s := ⟨_, rfl⟩
      have hsI : (n : Int) * (Wn : Int) = (s : Int) := by rw [← hs, Int.natCast_mul]
      have hle : (n + 1) * Wn ≤ Hn * Wn := Nat.mul_le_mul_right _ hn
      have hHW : Hn * Wn = N := by rw [HN.out.2.1, Nat.mul_comm]
      rw [hmul, hs] at hle hlen
      obtain ⟨e, he⟩ : ∃ e, s + Wn = e := ⟨_, rfl⟩
      have hsJ : ((n : Int) + 1) * (Wn : Int) = (e : Int) := by rw [Int.add_mul, hsI]; omega
      have HRW : Hid (HasP w w.heap.size (some ⟨b, o + s * 4, none⟩) (rowP Wn l n)) := Lib.hid (by unfold rowP; rw [hs]; exact (HH.out.dropAt s).takeN Wn)
      have hrl : (rowP Wn l n).length = Wn := rowP_length (by rw [HN.out.1]; exact HN.out.2.1) (by omega)
      have HRL := Lib.hid hrl
      have HCU : Hid (cur ++ rowP Wn l n ++ flipN Wn l n = flipN Wn l Hn) := Lib.hid (by rw [← hcur, flipN, List.append_assoc])
      have HLN : Hid (cur.length + Wn + s = N) := Lib.hid (by omega)
      have HNE : Hid (rowP Wn l n ≠ []) := Lib.hid fun e => by rw [e] at hrl; simp at hrl; omega
      have HZs : Hid (w0.heap.size ≤ wr.drew.heap.size) := Lib.hid hwz
      have HRB : Hid (HasP wr.drew w.heap.size (some ⟨b, o + s * 4, none⟩) (rowP Wn l n)) := Lib.hid ((HRW.out.below hbel).drewN 1)
      have HS := Lib.hid hs
      have HXd := Lib.hid hx.drew1
      have HYd := Lib.hid hy.drew1
      have HZd := Lib.hid hz.drew1
      have HOd : Hid (OwnP wr.drew w0.heap.size (.slice A' cur.length c') cur) := Lib.hid (hown.drewN 1)
      have HBd := Lib.hid (below_drew1 hbel)
      have x0 := HXd.out.c0
      have x2 := HXd.out.c2
      have z2 := HZd.out.c2
      have u1 := IntWalk.i64_in ((n : Int) + 1) (by omega)
      have u2 := IntWalk.i64_in (s : Int) (by omega)
      have u3 := IntWalk.i64_in (e : Int) (by omega)
      have hnI : (0 : Int) ≤ (n : Int) := by omega
      have hp1 : 0 ≤ (s : Int) ∧ (s : Int) ≤ (e : Int) ∧ (e : Int) ≤ (N : Int) ∧ (N : Int) ≤ (c : Int) := by omega
      have hec : e ≤ c := by omega
      have hse : s ≤ e := by omega
      have HE : Hid (e - s = Wn) := Lib.hid (by omega)
      have hp2 : ¬ c = s := by omega
      clear hown hcur hlen hx hy hz hbel hrl hHW hle hmul hs HRW he
      go_wp2_with fail
      refine wp_region_still_tail 14 (by kernel_rfl) (by kernel_rfl) ?_
      simp only [List.take_succ_cons, List.take_zero, List.drop_succ_cons, List.drop_zero]
      change wpStill _ _ wr.drew _ _ _
      repeat still_step
      refine wpStill_nil ?_
      change wpList _ _ _ _ _ wr.drew
      have hzw : w0.heap.size ≤ wr.drew.heap.size := HZs.out
      generalize wr.drew = w2 at *
      clear x0 x2 z2 hec hse hp1 u1 u2 u3 hsI hsJ
      refine wpList_pushAllR 28 Tryd.underlying28 rfl (.tmp 18) (.tmp 30) rfl w0.heap.size (.slice A' cur.length c') cur rfl HOd.out w.heap.size (some ⟨b, o + s * 4, none⟩) (c - s) (rowP Wn l n) (by rw [HRL.out, ← HE.out]; rfl) HRB.out HNE.out (by have := HLN.out; rw [HRL.out]; omega) hzw ?_
      intro v5 w5 ho5 hg5
      have hlc : cur.length + Wn ≤ 36 := by have := HLN.out; omega
      have hne0 : ∀ k, k < w0.heap.size → (Value.slice A' cur.length c').ownBlock ≠ some k := fun k hk e => by have := (World.ownsRow.lt HOd.out k e).1; omega
      have HX5 := Lib.hid (HXd.out.grown hg5 (hne0 _ (by omega)))
      have HY5 := Lib.hid (HYd.out.grown hg5 (hne0 _ (by omega)))
      have HZ5 := Lib.hid (HZd.out.grown hg5 (hne0 _ (by omega)))
      have HB5 := Lib.hid (HBd.out.grown hg5 (Nat.le_trans (by omega) HZs.out) (fun q hq => Nat.le_trans (by omega) (World.ownsRow.lt HOd.out q hq).1))
      have hz5 : w0.heap.size ≤ w5.heap.size := Nat.le_trans hzw hg5.size
      have hcl : (cur ++ rowP Wn l n).length = cur.length + Wn := by rw [List.length_append, HRL.out]
      obtain ⟨A5, c5, rfl, hc5, -⟩ := ho5.has
      have HO5 := Lib.hid ho5
      have z2 := HZ5.out.c2
      have fz := HZ5.out.free 2
      have HX6 := Lib.hid (HX5.out.set_other (b := w.heap.size + 1 + 1) (by omega) 2 (.slice A5 (cur ++ rowP Wn l n).length c5))
      have HY6 := Lib.hid (HY5.out.set_other (b := w.heap.size + 1 + 1) (by omega) 2 (.slice A5 (cur ++ rowP Wn l n).length c5))
      have HZ6 := Lib.hid (HZ5.out.set2 A5 (cur ++ rowP Wn l n).length c5)
      have HO6 := Lib.hid (HO5.out.set_low (b := w.heap.size + 1 + 1) (by omega) 2 (.slice A5 (cur ++ rowP Wn l n).length c5))
      have HB6 : Hid (Below w.heap.size w (w5.setCell ⟨w.heap.size + 1 + 1, 2, none⟩ (.slice A5 (cur ++ rowP Wn l n).length c5))) := Lib.hid (HB5.out.setCell (by simp; omega) _)
      have HCL := Lib.hid hcl
      clear hcl
      generalize cur ++ rowP Wn l n = cur' at *
      clear ho5 hg5 hne0 HX5 HY5 HZ5 HB5 HO5
      go_wp2_with fail
      go_roundw
      case rel => exact ⟨n, cur', A5, c5, by omega, by go_num, HO6.out, hc5, HCU.out, by have := HLN.out; rw [HCL.out, HS.out]; exact this, HX6.out, HY6.out, HZ6.out, HB6.out, by simpa using hz5⟩
      case measure => simp [intOf]
end Go.Proofs.YtiemlakjallphabDoor
