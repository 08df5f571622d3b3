/-
  The program and the reference write a URL. Conditions: the listed variables hold what they must; at most 2^30 operations.
-/
import Derived.Test.YtbejafbpipdbjaaDoorUrlSg
import Derived.Test.YtbejafbpipdbjaaDoorAskT
import Derived.Test.YtbejafbpipdbjaaDoorAskTS
namespace Go.Proofs.YtbejafbpipdbjaaDoor
set_option maxRecDepth 4000
open Go.RowKit

/-- The text of a URL. -/
def urlTx (k : List UInt8) (a : Ask) : List UInt8 := if askB a = true ∧ k.length ≤ 500 then askT a ++ [38, 115, 61] ++ sigB k (askT a) else []
set_option maxHeartbeats 2000000 in
theorem implUrlText_any (K : Option Addr) (kc : Nat) (k : List UInt8) (a : Ask) (A : Option Addr) (c : Nat) (w : World) (_ : k.length ≤ 1073741824) (hs : a.ops.length ≤ 1073741824) (hp : a.path.length ≤ 1073741824) (hE : EnvW w w.heap.size) (hT : Tabs w) (hh : Has w w.heap.size K k) (h : opE.Has w w.heap.size A a.ops) :
    Calls Tryd.prog 26 #[.slice K k.length kc, askV A a.ops.length c a.path a.till] w fun e w' => e = .returned (.string (bs (urlTx k a))) ∧ Below w.heap.size w w' := by
  obtain ⟨n, hn⟩ : ∃ n, a.ops.length = n := ⟨_, rfl⟩
  obtain ⟨m, hm⟩ : ∃ m, k.length = m := ⟨_, rfl⟩
  have HB0 := Lib.hid (show Below w.heap.size w (w.alloc (.cells #[.slice A n c, .string (bs a.path), .int .i64 a.till] 39)) from (Below.refl _ w).alloc (Nat.le_refl _) _)
  have X0 : Hid (Box (w.alloc (.cells #[.slice A n c, .string (bs a.path), .int .i64 a.till] 39)) w.heap.size #[.slice A n c, .string (bs a.path), .int .i64 a.till] 39) := Lib.hid (Box.new w _ _)
  have HH := Lib.hid fun u hb => h.carry (w' := u) hb (Nat.le_refl _) hb.size
  have HK := Lib.hid fun u hb => hh.carry (w' := u) hb (Nat.le_refl _) hb.size
  have HE := Lib.hid fun u (hb : Below w.heap.size w u) => hE.below hb
  have HT := Lib.hid fun u (hb : Below w.heap.size w u) => hT.below hb hT.2.2
  have CO := Lib.hid fun u (hb : Below w.heap.size w u) => implAskOk_any a A c u hs hp ((HE.out u hb).ran.below (Below.refl _ u) (Nat.lt_of_lt_of_le (HE.out u hb).go hb.size)) (HH.out u hb)
  have CA := Lib.hid fun u (hb : Below w.heap.size w u) => implAskText_any a A c w.heap.size u hs hp (HE.out u hb) hb.size (HH.out u hb)
  have CS := Lib.hid fun l u (hb : Below w.heap.size w u) hl hk5 => signatureOf_any K kc k l u hk5 hl (HT.out u hb) (HK.out u hb)
  obtain ⟨q, hq⟩ : ∃ q, askB a = q := ⟨_, rfl⟩
  have HQ := Lib.hid hq
  rw [hq] at CO
  rw [hn] at CO CA ⊢
  rw [hm] at CS ⊢
  have HM := Lib.hid hm
  have x0 := X0.out.cell (i := 0) (v := .slice A n c) rfl
  have x1 := X0.out.cell (i := 1) (v := .string (bs a.path)) rfl
  have x2 := X0.out.cell (i := 2) (v := .int .i64 a.till) rfl
  clear hs hp hE hT hh h hq hm hn
  unfold askV at CO CA ⊢
  by_cases h5 : (m : Int) > 500
  · have HF := Lib.hid (show urlTx k a = [] by unfold urlTx; rw [if_neg (fun h => by have := h.2; rw [HM.out] at this; omega)])
    go_enter Tryd.func26, Tryd.ntmps26
    go_wp2_with fail
    go_ret
    rw [HF.out]
    exact ⟨rfl, HB0.out⟩
  have h5' : decide ((500 : Int) < (m : Int)) = false := decide_eq_false h5
  go_enter Tryd.func26, Tryd.ntmps26
  go_wp2_with fail
  refine (CO.out _ HB0.out).mono ?_
  rintro e w1 ⟨rfl, b1⟩
  have HB1 := Lib.hid (HB0.out.trans (b1.mono HB0.out.size))
  have X1 := Lib.hid (X0.out.next b1)
  clear b1 x0 x1 x2 HB0 X0
  cases q
  · have HF := Lib.hid (show urlTx k a = [] by unfold urlTx; rw [if_neg (fun h => by have := h.1; rw [HQ.out] at this; cases this)])
    go_wp2_with fail
    go_ret
    rw [HF.out]
    exact ⟨rfl, HB1.out⟩
  have hA := askT_len HQ.out
  have HAT := Lib.hid (show askTx a = askT a by unfold askTx; rw [HQ.out]; rfl)
  rw [HAT.out] at CA
  have hm5 : m ≤ 500 := by omega
  have HF := Lib.hid (show urlTx k a = askT a ++ [38, 115, 61] ++ sigB k (askT a) by unfold urlTx; rw [if_pos ⟨HQ.out, by rw [HM.out]; exact hm5⟩])
  obtain ⟨t, ht⟩ : ∃ t, askT a = t := ⟨_, rfl⟩
  rw [ht] at CA hA HF
  have hsl := sigB_len k t
  have CS2 := Lib.hid fun u (hb : Below w.heap.size w u) => CS.out t u hb (by omega) hm5
  obtain ⟨s, hs⟩ : ∃ s, sigB k t = s := ⟨_, rfl⟩
  rw [hs] at CS2 HF hsl
  have A1 := fun u => run_bs_add t [38, 115, 61] (by simp; omega) u
  obtain ⟨t1, e1⟩ : ∃ t1, t ++ [38, 115, 61] = t1 := ⟨_, rfl⟩
  have l1 : t1.length ≤ 153 := by rw [← e1]; simp; omega
  rw [e1] at A1 HF
  have A2 := fun u => run_bs_add t1 s (by omega) u
  obtain ⟨t2, e2⟩ : ∃ t2, t1 ++ s = t2 := ⟨_, rfl⟩
  rw [e2] at A2 HF
  have htm : ByteArray.mk #[38, 115, 61] = bs [38, 115, 61] := rfl
  have x0 := X1.out.cell (i := 0) (v := .slice A n c) rfl
  have x1 := X1.out.cell (i := 1) (v := .string (bs a.path)) rfl
  have x2 := X1.out.cell (i := 2) (v := .int .i64 a.till) rfl
  clear hA ht hs hsl e1 l1 e2 CS CO hm5 HAT
  go_wp2_with fail
  refine (CA.out _ HB1.out).mono ?_
  rintro e w2 ⟨rfl, b2⟩
  have HB2 := Lib.hid (HB1.out.trans (b2.mono HB1.out.size))
  clear b2 x0 x1 x2
  go_wp2_with fail
  refine (CS2.out _ HB2.out).mono ?_
  rintro e w3 ⟨rfl, b3⟩
  have HB3 := Lib.hid (HB2.out.trans (b3.mono HB2.out.size))
  clear b3
  go_wp2_with fail
  go_ret
  rw [HF.out]
  exact ⟨rfl, HB3.out⟩
set_option maxHeartbeats 2000000 in
theorem specUrlText_any (K : Option Addr) (kc : Nat) (k : List UInt8) (a : Ask) (A : Option Addr) (c : Nat) (w : World) (_ : k.length ≤ 1073741824) (hs : a.ops.length ≤ 1073741824) (hp : a.path.length ≤ 1073741824) (hh : Has w w.heap.size K k) (h : opE.Has w w.heap.size A a.ops) :
    Calls Tryd.prog 24 #[.slice K k.length kc, askV A a.ops.length c a.path a.till] w fun e w' => e = .returned (.string (bs (urlTx k a))) ∧ Below w.heap.size w w' := by
  obtain ⟨n, hn⟩ : ∃ n, a.ops.length = n := ⟨_, rfl⟩
  obtain ⟨m, hm⟩ : ∃ m, k.length = m := ⟨_, rfl⟩
  have HB0 := Lib.hid (show Below w.heap.size w (w.alloc (.cells #[.slice A n c, .string (bs a.path), .int .i64 a.till] 39)) from (Below.refl _ w).alloc (Nat.le_refl _) _)
  have X0 : Hid (Box (w.alloc (.cells #[.slice A n c, .string (bs a.path), .int .i64 a.till] 39)) w.heap.size #[.slice A n c, .string (bs a.path), .int .i64 a.till] 39) := Lib.hid (Box.new w _ _)
  have HH := Lib.hid fun u hb => h.carry (w' := u) hb (Nat.le_refl _) hb.size
  have HK := Lib.hid fun u hb => hh.carry (w' := u) hb (Nat.le_refl _) hb.size
  have CO := Lib.hid fun u (hb : Below w.heap.size w u) => specAskOk_any a A c u hs (by unfold maxLen; omega) (HH.out u hb)
  have CA := Lib.hid fun u (hb : Below w.heap.size w u) => specAskText_any a A c u hs (by unfold maxLen; omega) (HH.out u hb)
  have CS := Lib.hid fun l u (hb : Below w.heap.size w u) hl hk5 => l7Sign_any K kc k l u hk5 hl (HK.out u hb)
  obtain ⟨q, hq⟩ : ∃ q, askB a = q := ⟨_, rfl⟩
  have HQ := Lib.hid hq
  rw [hq] at CO
  rw [hn] at CO CA ⊢
  rw [hm] at CS ⊢
  have HM := Lib.hid hm
  have x0 := X0.out.cell (i := 0) (v := .slice A n c) rfl
  have x1 := X0.out.cell (i := 1) (v := .string (bs a.path)) rfl
  have x2 := X0.out.cell (i := 2) (v := .int .i64 a.till) rfl
  clear hs hp hh h hq hm hn
  unfold askV at CO CA ⊢
  go_enter Tryd.func24, Tryd.ntmps24
  go_wp2_with fail
  refine (CO.out _ HB0.out).mono ?_
  rintro e w1 ⟨rfl, b1⟩
  have HB1 := Lib.hid (HB0.out.trans (b1.mono HB0.out.size))
  have X1 := Lib.hid (X0.out.next b1)
  clear b1 x0 x1 x2 HB0 X0
  cases q
  · have HF := Lib.hid (show urlTx k a = [] by unfold urlTx; rw [if_neg (fun h => by have := h.1; rw [HQ.out] at this; cases this)])
    go_wp2_with fail
    go_ret
    rw [HF.out]
    exact ⟨rfl, HB1.out⟩
  by_cases h5 : (m : Int) > 500
  · have HF := Lib.hid (show urlTx k a = [] by unfold urlTx; rw [if_neg (fun h => by have := h.2; rw [HM.out] at this; omega)])
    go_wp2_with fail
    go_ret
    rw [HF.out]
    exact ⟨rfl, HB1.out⟩
  have h5' : decide ((500 : Int) < (m : Int)) = false := decide_eq_false h5
  have hA := askT_len HQ.out
  have HAT := Lib.hid (show askTx a = askT a by unfold askTx; rw [HQ.out]; rfl)
  rw [HAT.out] at CA
  have hm5 : m ≤ 500 := by omega
  have HF := Lib.hid (show urlTx k a = askT a ++ [38, 115, 61] ++ sigB k (askT a) by unfold urlTx; rw [if_pos ⟨HQ.out, by rw [HM.out]; exact hm5⟩])
  obtain ⟨t, ht⟩ : ∃ t, askT a = t := ⟨_, rfl⟩
  rw [ht] at CA hA HF
  have hsl := sigB_len k t
  have CS2 := Lib.hid fun u (hb : Below w.heap.size w u) => CS.out t u hb (by omega) hm5
  obtain ⟨s, hs⟩ : ∃ s, sigB k t = s := ⟨_, rfl⟩
  rw [hs] at CS2 HF hsl
  have A1 := fun u => run_bs_add' t [38, 115, 61] (by simp; omega) u
  obtain ⟨t1, e1⟩ : ∃ t1, t ++ [38, 115, 61] = t1 := ⟨_, rfl⟩
  have l1 : t1.length ≤ 153 := by rw [← e1]; simp; omega
  rw [e1] at A1 HF
  have A2 := fun u => run_bs_add' t1 s (by omega) u
  obtain ⟨t2, e2⟩ : ∃ t2, t1 ++ s = t2 := ⟨_, rfl⟩
  rw [e2] at A2 HF
  have htm : ByteArray.mk #[38, 115, 61] = bs [38, 115, 61] := rfl
  have x0 := X1.out.cell (i := 0) (v := .slice A n c) rfl
  have x1 := X1.out.cell (i := 1) (v := .string (bs a.path)) rfl
  have x2 := X1.out.cell (i := 2) (v := .int .i64 a.till) rfl
  clear hA ht hs hsl e1 l1 e2 CS CO hm5 HAT
  go_wp2_with fail
  refine (CA.out _ HB1.out).mono ?_
  rintro e w2 ⟨rfl, b2⟩
  have HB2 := Lib.hid (HB1.out.trans (b2.mono HB1.out.size))
  clear b2 x0 x1 x2
  go_wp2_with fail
  refine (CS2.out _ HB2.out).mono ?_
  rintro e w3 ⟨rfl, b3⟩
  have HB3 := Lib.hid (HB2.out.trans (b3.mono HB2.out.size))
  clear b3
  go_wp2_with fail
  go_ret
  rw [HF.out]
  exact ⟨rfl, HB3.out⟩
end Go.Proofs.YtbejafbpipdbjaaDoor
