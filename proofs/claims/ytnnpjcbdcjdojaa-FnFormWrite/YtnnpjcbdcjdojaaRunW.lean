/-
  runsCodec.write of the program writes runs. Conditions: the pixels are read from memory that was there; the raster is one.
-/
import Derived.Test.YtnnpjcbdcjdojaaRunI
namespace Go.Proofs.Ytnnpjcbdcjdojaa
set_option maxRecDepth 4000
open Go.RowKit

theorem all_drop {l : List Px} (h : l.all pixB = true) (n : Nat) : (l.drop n).all pixB = true := by
  rw [List.all_eq_true] at h ⊢
  exact fun p hp => h p (List.mem_of_mem_drop hp)
/-- 'append(v, b)' of one byte that is written as a number, v the call's own. -/
theorem wpList_push1v {w : World} {ops : Array Oper} {rest : List Oper} {o : Oper} {a : Act} {Q : Exit → Act → World → Prop} (hgd : o.guard = none) (s x : Operand)
    (ho : o.op = .call { callee := .builtin .append, args := #[s, x], argTypes := #[22, 22] })
    (base : Nat) (v : Value) (l : List UInt8) (hs : a.eval s = v) (hown : Own w base v l) (b : UInt8) (z : Int) (hz : (b.toNat : Int) = z) (H : Nat) (hH : w.heap.size = H)
    (hx : a.eval x = .slice (some ⟨H, 0, none⟩) 1 1) (hb : l.length + 1 ≤ 140737488355328) (hbase : base ≤ w.heap.size)
    (h : ∀ g cap w', Own w' base (.slice (some ⟨g, 0, none⟩) (l.length + 1) cap) (l ++ [b]) → (w.alloc (.cells #[.int .u8 z] 5)).grownBy w' v.ownBlock → wpList Try.prog ops Q rest (a.put o.dst (.slice (some ⟨g, 0, none⟩) (l.length + 1) cap)) w') :
    wpList Try.prog ops Q (o :: rest) a (w.alloc (.cells #[.int .u8 z] 5)) := by
  subst hz
  exact wpList_push1 hgd s x ho base v l hs hown b H hH hx hb hbase h
set_option maxHeartbeats 2000000 in
theorem runsWrite_any (W H : Int) (A : Option Addr) (c : Nat) (l : List Px) (w : World) (hok : rasB W H l = true) (hc : l.length ≤ c) (h : HasP w w.heap.size A l) :
    Calls Try.prog 110 #[.agg #[], rasV W H A l.length c] w (Bodied (runsB W H l) w) := by
  unfold rasV
  obtain ⟨hW, hH, hl, ha⟩ := rasB_parts hok
  have h36 := mul36 hW hH
  have hb0 : Below w.heap.size w ((w.alloc (.cells #[] 81)).alloc (.cells #[.int .i64 W, .int .i64 H, .slice A l.length c] 25)) := ((Below.refl _ w).alloc (Nat.le_refl _) _).alloc (by simp) _
  have HS : Hid (∀ W0 : World, Own (W0.alloc (.cells #[.int .u8 W, .int .u8 H] 5)) W0.heap.size (.slice (some ⟨W0.heap.size, 0, none⟩) 2 2) [pb W, pb H]) := Lib.hid fun W0 => by
    have := own_lit2 W0 (pb W) (pb H)
    rw [pb_nat (z := W) (by omega) (by omega), pb_nat (z := H) (by omega) (by omega)] at this
    exact this
  have HA := Lib.hid ha
  have HL : Hid (l.length ≤ 36) := Lib.hid (by omega)
  have HH := Lib.hid h
  have HC := Lib.hid hc
  have hWu : 1 ≤ W ∧ W ≤ 6 := hW
  clear h hc ha hl h36 hok
  go_enter Try.func110, Try.ntmps110
  go_wp2_with fail
  have hsz : ((w.alloc (.cells #[] 81)).alloc (.cells #[.int .i64 W, .int .i64 H, .slice A l.length c] 25)).heap.size = w.heap.size + 1 + 1 := by simp
  rw [← hsz]
  generalize (w.alloc (.cells #[] 81)).alloc (.cells #[.int .i64 W, .int .i64 H, .slice A l.length c] 25) = w0 at *
  clear hsz
  have HO0 := Lib.hid ((HS.out w0).lower hb0.size)
  have HB0 := Lib.hid (hb0.alloc hb0.size (.cells #[.int .u8 W, .int .u8 H] 5))
  clear HS hb0
  go_loopw [5, 6] (fun v5 v6 wr => ∃ (r : List Px) (cur : List UInt8) (A' : Option Addr) (c' : Nat), v6 = .slice A' r.length c' ∧ r.length ≤ c' ∧ HasP w w.heap.size A' r ∧ r.all pixB = true ∧ r.length ≤ 36 ∧ Own wr w.heap.size v5 cur ∧ cur.length ≤ 2 + 5 * (36 - r.length) ∧ cur ++ runsP r = runsB W H l ∧ Below w.heap.size w wr) (fun _ v6 _ => lenR v6)
  case atStart => exact ⟨l, [pb W, pb H], A, c, rfl, HC.out, HH.out, HA.out, HL.out, HO0.out, by simp, rfl, HB0.out⟩
  case round =>
    clear HO0 HB0 HC HH HL HA
    obtain ⟨r, cur, A', c', rfl, hrc, hrd, hra, hr36, hown, hcl, hcur, hbel⟩ := hrel
    cases r with
    | nil =>
      have HF : Hid (Own wr w.heap.size u5 (runsB W H l)) := Lib.hid (by rw [← hcur, runsP_nil, List.append_nil]; exact hown)
      have HB := Lib.hid hbel
      clear hrc hrd hra hr36 hown hcl hcur hbel
      go_wp2_with fail
      go_ret
      exact ⟨_, rfl, HF.out, HB.out⟩
    | cons p r =>
      obtain ⟨b, o, q0, rfl, -, -, -⟩ := hrd.spot (k := 0) (by simp)
      obtain ⟨N, hN⟩ : ∃ N, N = r.length + 1 := ⟨_, rfl⟩
      have hNl : (p :: r).length = N := by rw [hN]; rfl
      rw [hNl] at hrc hr36 ⊢
      rw [hNl] at hcl
      have hnI : 0 < (N : Int) := by omega
      have CF := Lib.hid (firstRun_any b o c' N p r _ wr hN (by omega) (hrd.below hbel))
      have hsl := sameN_le p r
      have HRC := Lib.hid (runsP_cons p r)
      obtain ⟨m, hm⟩ : ∃ m, 1 + sameN p r = m := ⟨_, rfl⟩
      rw [hm] at CF HRC
      have HDR : Hid (r.drop (sameN p r) = (p :: r).drop m) := Lib.hid (by rw [← hm, Nat.add_comm, List.drop_succ_cons])
      rw [HDR.out] at HRC
      have hmI : 1 ≤ (m : Int) ∧ (m : Int) ≤ (N : Int) := by omega
      have hmu : (m : Int) ≤ 36 := by omega
      have HCUR := Lib.hid hcur
      have HCL := Lib.hid hcl
      have HO := Lib.hid hown
      have HB := Lib.hid hbel
      have HRD := Lib.hid hrd
      have HRA := Lib.hid hra
      have HNN := Lib.hid (And.intro hNl hrc)
      have hcI : (N : Int) ≤ (c' : Int) := by omega
      have hc1 : (1 : Int) ≤ (c' : Int) := by omega
      have HM := Lib.hid (by_of m (by omega))
      clear hcur hcl hown hbel hrd hra hrc hsl hm hNl hN
      go_wp2_with fail
      refine CF.out.mono ?_
      rintro e w2 ⟨rfl, b2⟩
      have HO2 := Lib.hid (HO.out.below b2 (Nat.le_refl _))
      have HB2 := Lib.hid (HB.out.trans (b2.mono HB.out.size))
      clear b2 CF
      have HZ := Lib.hid HB2.out.size
      have HLc : Hid (cur.length + 1 ≤ 140737488355328) := Lib.hid (by have := HCL.out; omega)
      go_wp2_with (at_builtin; refine wpList_push1v rfl (.tmp 22) (.tmp 25) rfl w.heap.size u5 cur rfl HO2.out (UInt8.ofNat m) (m : Int) HM.out w2.heap.size rfl rfl HLc.out HZ.out ?_; intro g3 c3 w3 ho3 hg3)
      have B3 := (HB2.out.alloc HB2.out.size (.cells #[.int .u8 (m : Int)] 5)).grown hg3 (by have := HZ.out; simp; omega) (fun q hq => (World.ownsRow.lt HO2.out q hq).1)
      have CA := Lib.hid (appendBytes_any (some ⟨b, o, none⟩) c' [p] _ (cur ++ [UInt8.ofNat m]) w.heap.size w3 (by simp) (by have := HCL.out; simp; omega) (by have := HRA.out; simp at this ⊢; exact this.1) ((HRD.out.below B3).takeN 1) ho3 B3.size)
      have HB3 := Lib.hid B3
      clear ho3 hg3 B3 HO2 HB2
      refine CA.out.mono ?_
      rintro e w4 ⟨v4, rfl, ho4, b4⟩
      have HO4 : Hid (Own w4 w.heap.size v4 (cur ++ [UInt8.ofNat m] ++ pxB p)) := Lib.hid (by simpa using ho4)
      have HB4 := Lib.hid (HB3.out.trans b4)
      clear ho4 b4 CA HB3
      have HE : Hid (cur ++ [UInt8.ofNat m] ++ pxB p ++ runsP ((p :: r).drop m) = runsB W H l) := Lib.hid (by
        rw [← HCUR.out, HRC.out]
        simp)
      have HLe : Hid (((p :: r).drop m).length = N - m) := Lib.hid (by rw [List.length_drop, HNN.out.1])
      have HCe : Hid ((cur ++ [UInt8.ofNat m] ++ pxB p).length ≤ 2 + 5 * (36 - (N - m))) := Lib.hid (by have := HCL.out; simp [pxB]; omega)
      by_cases hcm : c' = m
      · subst hcm
        have hNc : (N : Int) = (c' : Int) := by omega
        have hNn : N = c' := by omega
        go_wp2_with fail
        go_roundw
        case rel => exact ⟨(p :: r).drop c', _, some ⟨b, o, none⟩, 0, by rw [HLe.out, hNn]; simp, by rw [HLe.out]; omega, .inl (List.eq_nil_of_length_eq_zero (by rw [HLe.out]; omega)), all_drop HRA.out _, by rw [HLe.out]; omega, HO4.out, by rw [HLe.out]; exact HCe.out, HE.out, HB4.out⟩
        case measure => simp [lenR]; omega
      · have hcmI : (m : Int) < (c' : Int) := by omega
        go_wp2_with fail
        go_roundw
        case rel => exact ⟨(p :: r).drop m, _, some ⟨b, o + m * 4, none⟩, c' - m, by rw [HLe.out], by rw [HLe.out]; omega, HRD.out.dropAt m, all_drop HRA.out _, by rw [HLe.out]; omega, HO4.out, by rw [HLe.out]; exact HCe.out, HE.out, HB4.out⟩
        case measure => simp [lenR]; omega
end Go.Proofs.Ytnnpjcbdcjdojaa
