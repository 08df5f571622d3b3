/-
  rowsReversed of the program: a raster with its rows in reverse. Conditions: the pixels are read from memory that was there; the raster is one.
-/
import Derived.Test.YtiemlakjallphabDoorOpsAll
import Derived.Test.YtiemlakjallphabDoorRasRow
import Derived.Test.YtiemlakjallphabDoorHasCut
import Derived.Test.YtiemlakjallphabDoorPixO
namespace Go.Proofs.YtiemlakjallphabDoor
set_option maxRecDepth 4000
open Go.RowKit

/-- 'append(v, m...)' of pixels that are read, v the call's own, of whatever slice type. -/
theorem wpList_pushAllR {w : World} {ops : Array Oper} {rest : List Oper} {o : Oper} {a : Act} {Q : Exit → Act → World → Prop} (T : TypeId) (hT : Tryd.prog.underlying T = some (.slice 62)) (hgd : o.guard = none) (s x : Operand)
    (ho : o.op = .call { callee := .builtin .append, args := #[s, x], argTypes := #[T, T] })
    (base : Nat) (v : Value) (l : List Px) (hs : a.eval s = v) (hown : OwnP w base v l) (B : Nat) (A : Option Addr) (c : Nat) (m : List Px)
    (hx : a.eval x = .slice A m.length c) (hm : HasP w B A m) (hne : m ≠ []) (hb : l.length + m.length ≤ 1073741824) (hbase : base ≤ w.heap.size)
    (h : ∀ v' w', OwnP w' base v' (l ++ m) → w.grownBy w' v.ownBlock → wpList Tryd.prog ops Q rest (a.put o.dst v') w') :
    wpList Tryd.prog ops Q (o :: rest) a w := by
  obtain ⟨i0, hi, hz0, hz1, hz2⟩ := info_parts infoP
  cases A with
  | none =>
    have hm0 : m = [] := by
      rcases hm with hm | ⟨b, o, e, _⟩
      · exact hm
      · cases e
    exact absurd hm0 hne
  | some ad =>
    refine wpList_append_own w hgd s x T ho base 62 i0 (.agg #[.int .i64 0, .int .i64 0, .int .i64 0, .int .i64 0]) 4 32 hT hi hz0 hz1 hz2 rfl (by omega) v l.length (flatP l) hs hown ad m.length c (flatP m) hx (flatP_length m) ?_ (flatP_one _) (by unfold maxLen; omega) (by omega) hbase ?_
    · intro j u hu
      rcases hm with rfl | ⟨b, o, e, _, hc⟩
      · simp [flatP_nil] at hu
      · injection e with e
        subst e
        rw [plain_add]
        have hj : j < m.length * 4 := by have := (List.getElem?_eq_some_iff.1 hu).1; rw [flatP_length] at this; exact this
        obtain ⟨p, hp⟩ : ∃ p, m[j / 4]? = some p := ⟨_, List.getElem?_eq_getElem (by omega)⟩
        obtain ⟨f0, f1, f2, f3⟩ := flatP_at m (j / 4) p hp
        obtain ⟨c0, c1, c2, c3⟩ := hc (j / 4) p hp
        have hm4 : j % 4 = 0 ∨ j % 4 = 1 ∨ j % 4 = 2 ∨ j % 4 = 3 := by omega
        rcases hm4 with h4 | h4 | h4 | h4
        · rw [show o + j = o + j / 4 * 4 from by omega, c0, ← f0, show j / 4 * 4 = j from by omega]
          exact hu
        · rw [show o + j = o + j / 4 * 4 + 1 from by omega, c1, ← f1, show j / 4 * 4 + 1 = j from by omega]
          exact hu
        · rw [show o + j = o + j / 4 * 4 + 2 from by omega, c2, ← f2, show j / 4 * 4 + 2 = j from by omega]
          exact hu
        · rw [show o + j = o + j / 4 * 4 + 3 from by omega, c3, ← f3, show j / 4 * 4 + 3 = j from by omega]
          exact hu
    · intro v' w' h1 h2 _
      refine h v' w' ?_ h2
      unfold OwnP
      rw [List.length_append, flatP_append]
      exact h1
/-- What a flip answers: a raster of its own. -/
def Flipped (W H : Int) (r : List Px) (w : World) (e : Ending) (w' : World) : Prop := ∃ A c, e = .returned (rasV W H A r.length c) ∧ r.length ≤ c ∧ OwnP w' w.heap.size (.slice A r.length c) r ∧ Below w.heap.size w w'
set_option maxHeartbeats 2000000 in
theorem rowsReversed_any (W H : Int) (A : Option Addr) (c : Nat) (l : List Px) (w : World) (hok : rasB W H l = true) (hc : l.length ≤ c) (h : HasP w w.heap.size A l) :
    Calls Tryd.prog 95 #[rasV W H A l.length c] w (Flipped W H (flipR W H l) w) := by
  have hfl := flipR_length hok
  have hln := len_nat hok
  obtain ⟨hW, hH, hl, -⟩ := rasB_parts hok
  have h36 := mul36 hW hH
  obtain ⟨b, o, p0, rfl, -, -, -⟩ := h.spot (k := 0) (by omega)
  unfold flipR at hfl ⊢
  obtain ⟨Wn, rfl⟩ : ∃ Wn : Nat, W = (Wn : Int) := ⟨W.toNat, by omega⟩
  obtain ⟨Hn, rfl⟩ : ∃ Hn : Nat, H = (Hn : Int) := ⟨H.toNat, by omega⟩
  rw [Int.toNat_natCast, Int.toNat_natCast] at *
  obtain ⟨N, hN⟩ : ∃ N, l.length = N := ⟨_, rfl⟩
  rw [hN] at hc hln hfl hl ⊢
  unfold Flipped rasV
  rw [hfl]
  have hX0 : RasAtB ((w.alloc (.cells #[.int .i64 (Wn : Int), .int .i64 (Hn : Int), .slice (some ⟨b, o, none⟩) N c] 30)).alloc (.cells #[.int .i64 0, .int .i64 0, .slice none 0 0] 30)) w.heap.size (Wn : Int) (Hn : Int) (some ⟨b, o, none⟩) N c 30 := (Below.heap_alloc _ _ _ (by simp)).trans (heap_alloc_new w _)
  have hY0 : RasAtB ((w.alloc (.cells #[.int .i64 (Wn : Int), .int .i64 (Hn : Int), .slice (some ⟨b, o, none⟩) N c] 30)).alloc (.cells #[.int .i64 0, .int .i64 0, .slice none 0 0] 30)) (w.heap.size + 1) 0 0 none 0 0 30 := by
    have := heap_alloc_new (w.alloc (.cells #[.int .i64 (Wn : Int), .int .i64 (Hn : Int), .slice (some ⟨b, o, none⟩) N c] 30)) (.cells #[.int .i64 0, .int .i64 0, .slice none 0 0] 30)
    rw [show (w.alloc (.cells #[.int .i64 (Wn : Int), .int .i64 (Hn : Int), .slice (some ⟨b, o, none⟩) N c] 30)).heap.size = w.heap.size + 1 from by simp] at this
    exact this
  have hb0 : Below w.heap.size w ((w.alloc (.cells #[.int .i64 (Wn : Int), .int .i64 (Hn : Int), .slice (some ⟨b, o, none⟩) N c] 30)).alloc (.cells #[.int .i64 0, .int .i64 0, .slice none 0 0] 30)) := ((Below.refl _ w).alloc (Nat.le_refl _) _).alloc (by simp) _
  have hsz : ((w.alloc (.cells #[.int .i64 (Wn : Int), .int .i64 (Hn : Int), .slice (some ⟨b, o, none⟩) N c] 30)).alloc (.cells #[.int .i64 0, .int .i64 0, .slice none 0 0] 30)).heap.size = w.heap.size + 2 := by simp
  obtain ⟨i0, hi, hy0, hy1, hy2⟩ := info_parts infoP
  have HH := Lib.hid h
  have HN := Lib.hid (And.intro hN (And.intro hln hfl))
  have hn36 : N ≤ 36 := by omega
  clear h hN hln hfl hl h36 hok
  go_enter Tryd.func95, Tryd.ntmps95
  generalize hw0 : (w.alloc (.cells #[.int .i64 (Wn : Int), .int .i64 (Hn : Int), .slice (some ⟨b, o, none⟩) N c] 30)).alloc (.cells #[.int .i64 0, .int .i64 0, .slice none 0 0] 30) = w0 at *
  have x0 := hX0.c0
  have x1 := hX0.c1
  have x2 := hX0.c2
  have HX0 := Lib.hid hX0
  have HY0 := Lib.hid hY0
  clear hX0 hY0
  go_wp2_with (at_make; go_loud (refine wpList_make_own _ rfl _ _ 77 rfl w0.heap.size 62 i0 (.agg #[.int .i64 0, .int .i64 0, .int .i64 0, .int .i64 0]) 4 Tryd.underlying77 hi hy0 hy1 _ _ _ N rfl rfl rfl (by rw [hy2]; omega) (by unfold maxLen; omega) (Nat.le_refl _) ?_; intro w1 hown hgrow; have hlt := HX0.out.lt; have HX1 := Lib.hid (HX0.out.grown hgrow (by simp)); have HY1 := Lib.hid (HY0.out.grown hgrow (by simp)); have HO1 : Hid (OwnP w1 w0.heap.size (.slice (some ⟨w0.heap.size, 0, none⟩) 0 N) []) := Lib.hid hown; have HB1 := Lib.hid (grown_none hgrow); have y1 := HX1.out.c1; clear hown hgrow x0 x1 x2))
  have hz1 := HX1.out.lt
  go_loopw [3, 4] (fun v3 v4 wr => ∃ (n : Nat) (cur : List Px), n ≤ Hn ∧ v4 = .int .i64 ((n : Int) - 1) ∧ OwnP wr w0.heap.size v3 cur ∧ cur ++ flipN Wn l n = flipN Wn l Hn ∧ cur.length + n * Wn = N ∧ RasAtB wr w.heap.size (Wn : Int) (Hn : Int) (some ⟨b, o, none⟩) N c 30 ∧ RasAtB wr (w.heap.size + 1) 0 0 none 0 0 30 ∧ Below w0.heap.size w0 wr) (fun _ v4 _ => (intOf v4 + 1).toNat)
  case atStart => exact ⟨Hn, [], Nat.le_refl _, rfl, by rw [← hsz]; exact HO1.out, rfl, by rw [HN.out.2.1, Nat.mul_comm]; simp, HX1.out, HY1.out, HB1.out⟩
  case round =>
    clear HO1 HB1 HX1 HY1
    obtain ⟨n, cur, hn, rfl, hown, hcur, hlen, hx, hy, hbel⟩ := hrel
    have x0 := hx.c0
    have x1 := hx.c1
    have x2 := hx.c2
    have HX := Lib.hid hx
    have HY := Lib.hid hy
    have HO := Lib.hid hown
    have HB := Lib.hid hbel
    have HL := Lib.hid hlen
    cases n with
    | zero =>
      have hce : cur = flipN Wn l Hn := by rw [← hcur]; simp [flipN]
      have y0 := hy.c0
      have y1 := hy.c1
      have y2 := hy.c2
      have f0 := hy.free 0
      have f1 := hy.free 1
      have f2 := hy.free 2
      obtain ⟨A3, c3, rfl, hc3, -⟩ := hown.has
      rw [hce, HN.out.2.2] at hc3 ⊢
      have HXe := Lib.hid (fin_ras hy (.int .i64 (Wn : Int)) (.int .i64 (Hn : Int)) (.slice A3 N c3))
      have HBw := Lib.hid (hb0.trans (hbel.mono hb0.size))
      have HBe := Lib.hid (((HBw.out.setCell (p := ⟨w.heap.size + 1, 0, none⟩) (by simp) (.int .i64 (Wn : Int))).setCell (p := ⟨w.heap.size + 1, 1, none⟩) (by simp) (.int .i64 (Hn : Int))).setCell (p := ⟨w.heap.size + 1, 2, none⟩) (by simp) (.slice A3 N c3))
      rw [hce, HN.out.2.2] at hown
      have HOe := Lib.hid (((hown.set_low (b := w.heap.size + 1) (by omega) 0 (.int .i64 (Wn : Int))).set_low (b := w.heap.size + 1) (by omega) 1 (.int .i64 (Hn : Int))).set_low (b := w.heap.size + 1) (by omega) 2 (.slice A3 N c3))
      clear hown hcur hlen hx hy hbel HX HY HO HB hce
      go_wp2_with fail
      (try simp only [Exit.inBlock, Exit.then])
      refine bodyPost_ret (results_cell_row rfl _ _ (w.heap.size + 1) 30 #[.int .i64 (Wn : Int), .int .i64 (Hn : Int), .slice A3 N c3] (0, 0) _ rfl HXe.out Tryd.underlying30 rfl (by kernel_rfl)) rfl ?_
      exact ⟨A3, c3, rfl, hc3, HOe.out.lower (by omega), HBe.out⟩
    | succ n =>
      rw [show (((n + 1 : Nat) : Int) - 1) = (n : Int) from by omega]
      have hmul : (n + 1) * Wn = n * Wn + Wn := by rw [Nat.add_mul, Nat.one_mul]
      obtain ⟨s, hs⟩ : ∃ s, n * Wn = s := ⟨_, rfl⟩
      have hsI : (n : Int) * (Wn : Int) = (s : Int) := by rw [← hs, Int.natCast_mul]
      have hle : (n + 1) * Wn ≤ Hn * Wn := Nat.mul_le_mul_right _ hn
      have hHW : Hn * Wn = N := by rw [HN.out.2.1, Nat.mul_comm]
      rw [hmul, hs] at hle hlen
      have CR := Lib.hid fun W0 => row_any b o c N s Wn (n : Int) W0 hsI (by omega) (by omega) (by omega) hc
      have HRW : Hid (HasP w w.heap.size (some ⟨b, o + s * 4, none⟩) (rowP Wn l n)) := Lib.hid (by unfold rowP; rw [hs]; exact (HH.out.dropAt s).takeN Wn)
      have hrl : (rowP Wn l n).length = Wn := rowP_length (by rw [HN.out.1]; exact HN.out.2.1) (by omega)
      have HRL := Lib.hid hrl
      have HCU : Hid (cur ++ rowP Wn l n ++ flipN Wn l n = flipN Wn l Hn) := Lib.hid (by rw [← hcur, flipN, List.append_assoc])
      have HLN : Hid (cur.length + Wn + s = N) := Lib.hid (by omega)
      have HNE : Hid (rowP Wn l n ≠ []) := Lib.hid fun e => by rw [e] at hrl; simp at hrl; omega
      have HZ : Hid (w0.heap.size ≤ wr.heap.size) := Lib.hid hbel.size
      have HRB := Lib.hid (HRW.out.below (hb0.trans (hbel.mono hb0.size)))
      have HS := Lib.hid hs
      clear hown hcur hlen hx hy hbel hrl hHW hle hmul hsI hs HRW
      have hnI : (0 : Int) ≤ (n : Int) := by omega
      go_wp2_with fail
      refine (CR.out _).mono ?_
      rintro e w' ⟨rfl, rfl⟩
      go_wp2_with (at_builtin; go_loud (refine wpList_pushAllR 77 Tryd.underlying77 rfl (.tmp 16) (.tmp 22) rfl w0.heap.size u3 cur rfl HO.out w.heap.size (some ⟨b, o + s * 4, none⟩) Wn (rowP Wn l n) (by rw [HRL.out]; rfl) HRB.out HNE.out (by have := HLN.out; rw [HRL.out]; omega) HZ.out ?_; intro v5 w5 ho5 hg5))
      have hne0 : ∀ k, k < w0.heap.size → u3.ownBlock ≠ some k := fun k hk e => by have := (World.ownsRow.lt HO.out k e).1; omega
      have HX5 := Lib.hid (HX.out.grown hg5 (hne0 _ (by omega)))
      have HY5 := Lib.hid (HY.out.grown hg5 (hne0 _ (by omega)))
      have HB5 := Lib.hid (HB.out.grown hg5 HZ.out (fun q hq => (World.ownsRow.lt HO.out q hq).1))
      have HO5 := Lib.hid ho5
      clear ho5 hg5 hne0 x0 x1 x2
      go_wp2_with fail
      go_roundw
      case rel => exact ⟨n, cur ++ rowP Wn l n, by omega, by go_num, HO5.out, HCU.out, by have := HLN.out; rw [List.length_append, HRL.out, HS.out]; exact this, HX5.out, HY5.out, HB5.out⟩
      case measure => simp [intOf]
end Go.Proofs.YtiemlakjallphabDoor
