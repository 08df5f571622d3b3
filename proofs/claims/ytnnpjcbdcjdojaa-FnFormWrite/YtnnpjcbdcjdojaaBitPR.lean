/-
  The program's BitPut, whole: put writes one number, BitPut all of them. Conditions: the two errors are not nil; at most 2^30 numbers.
-/
import Derived.Test.YtnnpjcbdcjdojaaBitPI
import Derived.Test.YtnnpjcbdcjdojaaNumsO
import Derived.Test.YtnnpjcbdcjdojaaBitPS
namespace Go.Proofs.Ytnnpjcbdcjdojaa
set_option maxRecDepth 4000
open Go.RowKit

theorem WrB.below {w w' : World} {g B : Nat} {v : Value} {l : List UInt8} {a : Int} {e : Value} (h : WrB w g v l a e) (hb : Below B w w') (hB : w.heap.size ≤ B) : WrB w' g v l a e :=
  ⟨(hb.block g (Nat.lt_of_lt_of_le h.lt hB)).trans h.1, h.2.below hb hB⟩
theorem WrB.alloc {w : World} {g : Nat} {v : Value} {l : List UInt8} {a : Int} {e : Value} (h : WrB w g v l a e) (o : Obj) : WrB (w.alloc o) g v l a e :=
  ⟨(Below.heap_alloc w o g h.lt).trans h.1, h.2.alloc o⟩
/-- A writer without an error that has written l, a bits; or one with an error. -/
def Wrote (w : World) (g : Nat) (s : List UInt8 × Nat) (good : Bool) : Prop :=
  (good = true ∧ ∃ v, WrB w g v s.1 (s.2 : Int) .nilIface) ∨ (good = false ∧ ∃ v l a x y, WrB w g v l a (.iface x y))
theorem and_bit64 (m k : Nat) (hm : m < 4096) (hk : k ≤ 64) : bits .and .i64 ((m : Int) / 2 ^ min k 64) 1 = ((m / 2 ^ k % 2 : Nat) : Int) := by
  rw [Nat.min_eq_left hk]
  have e2 : (m : Int) / 2 ^ k = ((m / 2 ^ k : Nat) : Int) := by simp
  have hy : m / 2 ^ k < 4096 := Nat.lt_of_le_of_lt (Nat.div_le_self _ _) hm
  rw [e2]
  generalize m / 2 ^ k = y at *
  show IntKind.i64.wrap ((BitVec.ofInt 64 (y : Int) &&& BitVec.ofInt 64 1).toNat : Int) = _
  rw [BitVec.toNat_and, BitVec.ofInt_natCast, show (BitVec.ofInt 64 1).toNat = 1 from rfl, BitVec.toNat_ofNat, Nat.mod_eq_of_lt (by omega), Nat.and_one_is_mod]
  exact IntWalk.i64_in _ (by omega)

set_option maxHeartbeats 1000000 in
theorem putErr_any (g : Nat) (v : Value) (l : List UInt8) (a : Int) (x : TypeId) (y : Value) (n b : Int) (w : World) (h : WrB w g v l a (.iface x y)) :
    Calls Try.prog 135 #[.pointer (some ⟨g, 0, none⟩), .agg #[.int .i64 n, .int .i64 b]] w fun e w' => e = .returned (.tuple #[]) ∧ WrB w' g v l a (.iface x y) ∧ Below g w w' := by
  have h0 := h.alloc (.cells #[.int .i64 n, .int .i64 b] 100)
  have c2 := h0.c2
  have HR := Lib.hid h0
  have HB : Hid (Below g w (w.alloc (.cells #[.int .i64 n, .int .i64 b] 100))) := Lib.hid ((Below.refl g w).alloc (Nat.le_of_lt h.lt) _)
  clear h h0
  go_enter Try.func135, Try.ntmps135
  go_wp2
  go_loop [4] (fun i => i = .int .i64 0) (fun _ => 0)
  case atStart => rfl
  case round =>
    obtain rfl := hrel
    by_cases hb : 0 < b
    all_goals
      go_wp2
      exact bodyPost_end (results_none Try.results135 _ _ _) rfl ⟨rfl, HR.out, HB.out⟩

set_option maxHeartbeats 1000000 in
theorem putBad_any (g : Nat) (v : Value) (l : List UInt8) (a n b : Int) (w : World) (h : WrB w g v l a .nilIface) (hb : bitOkB n b = false) (he : ErrV w 2) (hg : 2 < g) :
    Calls Try.prog 135 #[.pointer (some ⟨g, 0, none⟩), .agg #[.int .i64 n, .int .i64 b]] w fun e w' => e = .returned (.tuple #[]) ∧ (∃ x y, WrB w' g v l a (.iface x y)) ∧ Below g w w' := by
  have h0 := h.alloc (.cells #[.int .i64 n, .int .i64 b] 100)
  have c2 := h0.c2
  have HR := Lib.hid h0
  have HB : Hid (Below g w (w.alloc (.cells #[.int .i64 n, .int .i64 b] 100))) := Lib.hid ((Below.refl g w).alloc (Nat.le_of_lt h.lt) _)
  have HE := Lib.hid he
  have CO := Lib.hid (implBitOk_any n b)
  unfold bnum at CO
  rw [hb] at CO
  have e1 : (w.alloc (.cells #[.int .i64 n, .int .i64 b] 100)).heap[w.heap.size]? = some (.cells #[.int .i64 n, .int .i64 b] 100 (0, 0)) := heap_alloc_new w _
  have HX := Lib.hid e1
  have hgw := h.lt
  clear h h0 he hb e1
  go_enter Try.func135, Try.ntmps135
  go_wp2_with fail
  generalize w.alloc (.cells #[.int .i64 n, .int .i64 b] 100) = w0 at *
  refine (CO.out _).mono ?_
  rintro e w1 ⟨rfl, hb1⟩
  have h1 := HR.out.below hb1 (Nat.le_refl _)
  have hx1 := (hb1.block w.heap.size (Array.getElem?_eq_some_iff.1 HX.out).1).trans HX.out
  have hB1 : Below g w w1 := HB.out.trans (hb1.mono (Nat.le_of_lt HR.out.lt))
  obtain ⟨x, y, ce⟩ := HE.out.below hB1 hg
  have d2 := h1.c2
  have f2 := h1.free 2
  have hne : ¬ w.heap.size = g := by omega
  have hne2 : ¬ g = 2 := by omega
  have k1 : w1.cell? ⟨w.heap.size, 1, none⟩ = some (.int .i64 b) := by rw [cell_of_row w1 _ 1 _ _ _ hx1]; rfl
  have hr := h1.set2 (.iface x y)
  have r2 := hr.c2
  have HR2 := Lib.hid hr
  have HB2 := Lib.hid (below_cell (i := 2) (v := .iface x y) hB1 (Nat.le_refl g))
  clear c2 HR HB HE CO HX h1 hx1 hB1 hb1 hr
  go_wp2
  go_loop [4] (fun i => i = .int .i64 0) (fun _ => 0)
  case atStart => rfl
  case round =>
    obtain rfl := hrel
    by_cases hb : 0 < b
    all_goals
      go_wp2
      exact bodyPost_end (results_none Try.results135 _ _ _) rfl ⟨rfl, ⟨x, y, HR2.out⟩, HB2.out⟩

set_option maxHeartbeats 2000000 in
theorem putNum_any (g : Nat) (v : Value) (l : List UInt8) (a m q : Nat) (w : World) (h : WrB w g v l (a : Int) .nilIface) (hb : bitOkB (m : Int) (q : Int) = true) (hm : m < 4096) (hq : q ≤ 12) (hgood : Good l a) (ha : a ≤ 3200) (he : 3200 < a + q → ErrV w 4 ∧ 4 < g) :
    Calls Try.prog 135 #[.pointer (some ⟨g, 0, none⟩), .agg #[.int .i64 (m : Int), .int .i64 (q : Int)]] w fun e w' => e = .returned (.tuple #[]) ∧ Wrote w' g (pushTo (l, a) m q) (decide (a + q ≤ 3200)) ∧ Below g w w' := by
  have h0 := h.alloc (.cells #[.int .i64 (m : Int), .int .i64 (q : Int)] 100)
  have c2 := h0.c2
  have HR := Lib.hid h0
  have HB : Hid (Below g w (w.alloc (.cells #[.int .i64 (m : Int), .int .i64 (q : Int)] 100))) := Lib.hid ((Below.refl g w).alloc (Nat.le_of_lt h.lt) _)
  have HE := Lib.hid he
  have HGD := Lib.hid hgood
  have HQ := Lib.hid hq
  clear hq
  have HV : Hid (v.ownBlock ≠ some w.heap.size) := Lib.hid fun e => by have := (World.ownsRow.lt h.2 _ e).2; omega
  have CO := Lib.hid (implBitOk_any (m : Int) (q : Int))
  unfold bnum at CO
  rw [hb] at CO
  have e1 : (w.alloc (.cells #[.int .i64 (m : Int), .int .i64 (q : Int)] 100)).heap[w.heap.size]? = some (.cells #[.int .i64 (m : Int), .int .i64 (q : Int)] 100 (0, 0)) := heap_alloc_new w _
  have HX := Lib.hid e1
  have hgw := h.lt
  clear h h0 he hb e1 hgood
  go_enter Try.func135, Try.ntmps135
  go_wp2_with fail
  generalize w.alloc (.cells #[.int .i64 (m : Int), .int .i64 (q : Int)] 100) = w0 at *
  refine (CO.out _).mono ?_
  rintro e w1 ⟨rfl, hb1⟩
  have h1 := HR.out.below hb1 (Nat.le_refl _)
  have hx1 := (hb1.block w.heap.size (Array.getElem?_eq_some_iff.1 HX.out).1).trans HX.out
  have hB1 : Below g w w1 := HB.out.trans (hb1.mono (Nat.le_of_lt HR.out.lt))
  have HS : Hid (WrB w1 g v l (a : Int) .nilIface ∧ w1.heap[w.heap.size]? = some (.cells #[.int .i64 (m : Int), .int .i64 (q : Int)] 100 (0, 0)) ∧ Below g w w1) := Lib.hid ⟨h1, hx1, hB1⟩
  clear c2 HR HB CO HX h1 hx1 hB1 hb1
  go_wp2
  go_loopw [4] (fun i wr => ∃ k : Nat, k ≤ q ∧ i = .int .i64 k ∧ Below g w wr ∧ wr.heap[w.heap.size]? = some (.cells #[.int .i64 (m : Int), .int .i64 (q : Int)] 100 (0, 0)) ∧
      ((∃ u, WrB wr g u (pushTo (l, a) m k).1 ((a : Int) + k) .nilIface ∧ u.ownBlock ≠ some w.heap.size ∧ a + k ≤ 3200) ∨ (3200 < a + q ∧ ∃ u l' a' x y, WrB wr g u l' a' (.iface x y)))) (fun i _ => q - (intOf i).toNat)
  case atStart => exact ⟨0, Nat.zero_le _, rfl, HS.out.2.2, HS.out.2.1, .inl ⟨v, by rw [show (a : Int) + ((0 : Nat) : Int) = (a : Int) from by omega]; exact HS.out.1, HV.out, ha⟩⟩
  case round =>
    clear HS HV
    obtain ⟨k, hk, rfl, hbel, hbx, ⟨u, hw, hne, hk3⟩ | ⟨hk3, u, l', a', x, y, hw⟩⟩ := hrel
    · have c2 := hw.c2
      have k0 : wr.cell? ⟨w.heap.size, 0, none⟩ = some (.int .i64 (m : Int)) := by rw [cell_of_row wr _ 0 _ _ _ hbx]; rfl
      have k1 : wr.cell? ⟨w.heap.size, 1, none⟩ = some (.int .i64 (q : Int)) := by rw [cell_of_row wr _ 1 _ _ _ hbx]; rfl
      have hlw : w.heap.size < wr.heap.size := (Array.getElem?_eq_some_iff.1 hbx).1
      have HW := Lib.hid hw
      have HB := Lib.hid hbel
      have HX := Lib.hid hbx
      have HNE := Lib.hid hne
      clear hw hbel hbx hne
      by_cases hlt : k < q
      · have hab := and_bit64 m k hm (by have := HQ.out; omega)
        obtain ⟨bt, hbt⟩ : ∃ bt, m / 2 ^ k % 2 = bt := ⟨_, rfl⟩
        rw [hbt] at hab
        have hbt2 : bt < 2 := by rw [← hbt]; exact Nat.mod_lt _ (by omega)
        have HBT := Lib.hid hbt
        clear hbt
        by_cases h32 : a + k < 3200
        · have hgd := pushTo_good (s := (l, a)) m k HGD.out
          have hsn : (pushTo (l, a) m k).2 = a + k := pushTo_snd _ _ _
          rw [hsn] at hgd
          have CP := Lib.hid (putOne_bit g u (pushTo (l, a) m k).1 (a + k) bt wr (by rw [Int.natCast_add]; exact HW.out) h32 hbt2 hgd)
          rw [Int.natCast_add] at CP
          have HPB : Hid (pushBit (pushTo (l, a) m k).1 (a + k) bt = (pushTo (l, a) m (k + 1)).1) := Lib.hid (by rw [pushTo, hsn, ← HBT.out])
          rw [HPB.out] at CP
          clear hgd hsn
          go_wp2_with fail
          refine CP.out.mono ?_
          rintro e w2 ⟨rfl, ⟨u', hw2, hlv⟩, hb2⟩
          obtain ⟨hl1, hl2⟩ := hlv w.heap.size hlw (by omega) HNE.out
          have HW2 := Lib.hid hw2
          have HB2 := Lib.hid (HB.out.trans hb2)
          have HX2 := Lib.hid (hl1.trans HX.out)
          have HN2 := Lib.hid hl2
          clear hw2 hlv hb2 hl1 hl2 HW HB HX HNE CP hab c2 k0 k1
          go_wp2
          go_roundw
          case rel => exact ⟨k + 1, by omega, by go_num, HB2.out, HX2.out, .inl ⟨u', by rw [show (a : Int) + ((k + 1 : Nat) : Int) = (a : Int) + (k : Int) + 1 from by omega]; exact HW2.out, HN2.out, by omega⟩⟩
          case measure => simp [intOf]; omega
        · have ha32 : (a : Int) + (k : Int) = 3200 := by omega
          have CP := Lib.hid (putOne_full g u (pushTo (l, a) m k).1 (bt : Int) wr (by rw [← ha32]; exact HW.out) ((HE.out (by omega)).1.below HB.out (HE.out (by omega)).2))
          clear ha32
          go_wp2_with fail
          refine CP.out.mono ?_
          rintro e w2 ⟨rfl, ⟨x, y, hw2⟩, hb2, hlv⟩
          obtain ⟨hl1, hl2⟩ := hlv w.heap.size hlw (by omega) HNE.out
          have HW2 := Lib.hid hw2
          have HB2 := Lib.hid (HB.out.trans hb2)
          have HX2 := Lib.hid (hl1.trans HX.out)
          clear hw2 hlv hb2 hl1 hl2 HW HB HX HNE CP hab c2 k0 k1
          go_wp2
          go_roundw
          case rel => exact ⟨k + 1, by omega, by go_num, HB2.out, HX2.out, .inr ⟨by omega, u, _, _, x, y, HW2.out⟩⟩
          case measure => simp [intOf]; omega
      · obtain rfl : k = q := by omega
        have HF : Hid (Wrote wr g (pushTo (l, a) m k) (decide (a + k ≤ 3200))) := Lib.hid (.inl ⟨decide_eq_true hk3, u, by rw [pushTo_snd]; show WrB wr g u (pushTo (l, a) m k).1 ((a + k : Nat) : Int) .nilIface; rw [Int.natCast_add]; exact HW.out⟩)
        go_wp2
        exact bodyPost_end (results_none Try.results135 _ _ _) rfl ⟨rfl, HF.out, HB.out⟩
    · have c2 := hw.c2
      have k1 : wr.cell? ⟨w.heap.size, 1, none⟩ = some (.int .i64 (q : Int)) := by rw [cell_of_row wr _ 1 _ _ _ hbx]; rfl
      have HF : Hid (Wrote wr g (pushTo (l, a) m q) (decide (a + q ≤ 3200))) := Lib.hid (.inr ⟨decide_eq_false (by omega), u, l', a', x, y, hw⟩)
      have HB := Lib.hid hbel
      clear hw hbel hbx hk3
      by_cases hlt : k < q
      all_goals
        go_wp2
        exact bodyPost_end (results_none Try.results135 _ _ _) rfl ⟨rfl, HF.out, HB.out⟩

/-- One number more, whatever the writer has met; the errors are asked for where there is one. -/
theorem put_if (g : Nat) (s : List UInt8 × Nat) (good : Bool) (n b : Int) (w : World) (h : Wrote w g s good) (hgood : good = true → Good s.1 s.2 ∧ s.2 ≤ 3200) (he : (good && bitOkB n b && decide (s.2 + b.toNat ≤ 3200)) = false → (ErrV w 2 ∧ 2 < g) ∧ ErrV w 4 ∧ 4 < g) :
    Calls Try.prog 135 #[.pointer (some ⟨g, 0, none⟩), .agg #[.int .i64 n, .int .i64 b]] w fun e w' => e = .returned (.tuple #[]) ∧ Wrote w' g (pushTo s n.toNat b.toNat) (good && bitOkB n b && decide (s.2 + b.toNat ≤ 3200)) ∧ Below g w w' := by
  rcases h with ⟨rfl, v, h⟩ | ⟨rfl, v, l, a, x, y, h⟩
  · by_cases hb : bitOkB n b = true
    · obtain ⟨m, q, rfl, rfl, _, hq, hm⟩ := bitOk_form hb
      obtain ⟨h1, h2⟩ := hgood rfl
      refine (putNum_any g v s.1 s.2 m q w h hb hm hq h1 h2 (fun hk => (he (by rw [hb, decide_eq_false (by simp; omega)]; rfl)).2)).mono ?_
      rintro e w' ⟨rfl, h3, h4⟩
      refine ⟨rfl, ?_, h4⟩
      rw [hb]
      simpa using h3
    · have hb' : bitOkB n b = false := by simpa using hb
      refine (putBad_any g v s.1 s.2 n b w h hb' (he (by rw [hb']; rfl)).1.1 (he (by rw [hb']; rfl)).1.2).mono ?_
      rintro e w' ⟨rfl, ⟨x, y, h3⟩, h4⟩
      exact ⟨rfl, .inr ⟨by rw [hb']; rfl, v, _, _, x, y, h3⟩, h4⟩
  · refine (putErr_any g v l a x y n b w h).mono ?_
    rintro e w' ⟨rfl, h3, h4⟩
    exact ⟨rfl, .inr ⟨rfl, v, _, _, x, y, h3⟩, h4⟩

/-- The two errors of writing are not nil. -/
def ErrsW (w : World) : Prop := ErrV w 2 ∧ ErrV w 4
theorem ErrsW.below {w w' : World} {B : Nat} (h : ErrsW w) (hb : Below B w w') (hB : w.heap.size ≤ B) : ErrsW w' :=
  ⟨h.1.below hb (Nat.lt_of_lt_of_le h.1.lt hB), h.2.below hb (Nat.lt_of_lt_of_le h.2.lt hB)⟩
theorem ownLower {w : World} {base base' : Nat} {v : Value} {l : List UInt8} (h : Own w base v l) (hb : base' ≤ base) : Own w base' v l :=
  ⟨h.1, by
    rcases h.2 with hn | ⟨g, cap, cur, e, hg, rest⟩
    · exact .inl hn
    · exact .inr ⟨g, cap, cur, e, Nat.le_trans hb hg, rest⟩⟩
theorem Wrote.alloc {w : World} {g : Nat} {s : List UInt8 × Nat} {good : Bool} (h : Wrote w g s good) (o : Obj) : Wrote (w.alloc o) g s good := by
  rcases h with ⟨h1, v, h2⟩ | ⟨h1, v, l, a, x, y, h2⟩
  · exact .inl ⟨h1, v, h2.alloc o⟩
  · exact .inr ⟨h1, v, l, a, x, y, h2.alloc o⟩
theorem wrB_new (w : World) : WrB (w.alloc (.cells #[.slice none 0 0, .int .i64 0, .nilIface] 153)) w.heap.size (.slice none 0 0) [] 0 .nilIface :=
  ⟨heap_alloc_new w _, own_nil _ _⟩
/-- Whether the first k numbers are well and fit. -/
def fits (ns : List (Int × Int)) (k : Nat) : Bool := okAll (ns.take k) && decide ((packed (ns.take k)).2 ≤ 3200)
theorem fits_succ (ns : List (Int × Int)) (k : Nat) (p : Int × Int) (h : ns[k]? = some p) : fits ns (k + 1) = (fits ns k && bitOkB p.1 p.2 && decide ((packed (ns.take k)).2 + p.2.toNat ≤ 3200)) := by
  unfold fits
  rw [okAll_take ns k p h, packed_take ns k p h, pushTo_snd]
  generalize okAll (ns.take k) = x
  generalize bitOkB p.1 p.2 = y
  generalize (packed (ns.take k)).2 = z
  cases x <;> cases y <;> simp
  omega
theorem fits_all (ns : List (Int × Int)) : bitPutB ns = if fits ns ns.length then (packed ns).1 else [] := by
  unfold fits bitPutB
  rw [List.take_of_length_le (Nat.le_refl _)]
theorem fits_good {ns : List (Int × Int)} {k : Nat} (h : fits ns k = true) : (packed (ns.take k)).2 ≤ 3200 := by
  unfold fits at h
  simp at h
  exact h.2

/-- What does not fit does not fit with more. -/
theorem fits_no {ns : List (Int × Int)} {k : Nat} (h : fits ns k = false) : fits ns ns.length = false := by
  have step : ∀ j, fits ns (k + j) = false := fun j => by
    induction j with
    | zero => exact h
    | succ j ih =>
      by_cases hj : k + j < ns.length
      · rw [← Nat.add_assoc, fits_succ ns (k + j) _ (List.getElem?_eq_getElem hj), ih]
        rfl
      · unfold fits at ih ⊢
        rw [List.take_of_length_le (by omega)] at ih ⊢
        exact ih
  by_cases hk : k ≤ ns.length
  · have := step (ns.length - k)
    rwa [show k + (ns.length - k) = ns.length from by omega] at this
  · unfold fits at h ⊢
    rw [List.take_of_length_le (by omega)] at h ⊢
    exact h
set_option maxHeartbeats 2000000 in
theorem implBitPut_if (A : Option Addr) (c : Nat) (ns : List (Int × Int)) (w : World) (hs : ns.length ≤ 1073741824) (h : HasN w w.heap.size A ns) (he : fits ns ns.length = false → ErrsW w) :
    Calls Try.prog 130 #[.slice A ns.length c] w (PutOut w ns) := by
  have HW0 : Hid (Wrote (w.alloc (.cells #[.slice none 0 0, .int .i64 0, .nilIface] 153)) w.heap.size (packed (ns.take 0)) (fits ns 0)) := Lib.hid (.inl ⟨rfl, _, wrB_new w⟩)
  have HB0 : Hid (Below w.heap.size w (w.alloc (.cells #[.slice none 0 0, .int .i64 0, .nilIface] 153))) := Lib.hid ((Below.refl _ w).alloc (Nat.le_refl _) _)
  have HE : Hid (∀ W, Below w.heap.size w W → ∀ k, fits ns k = false → (ErrV W 2 ∧ 2 < w.heap.size) ∧ ErrV W 4 ∧ 4 < w.heap.size) := Lib.hid fun W hb k hk => by
    have h0 := he (fits_no hk)
    have h1 := h0.below hb (Nat.le_refl _)
    exact ⟨⟨h1.1, h0.1.lt⟩, h1.2, h0.2.lt⟩
  clear he
  go_enter Try.func130, Try.ntmps130
  go_wp2
  generalize w.alloc (.cells #[.slice none 0 0, .int .i64 0, .nilIface] 153) = w0 at *
  go_loopw [8] (fun i wr => ∃ k : Nat, k ≤ ns.length ∧ i = .int .i64 k ∧ Wrote wr w.heap.size (packed (ns.take k)) (fits ns k) ∧ Below w.heap.size w wr) (fun i _ => ns.length - (intOf i).toNat)
  case atStart => exact ⟨0, Nat.zero_le _, rfl, HW0.out, HB0.out⟩
  case round =>
    clear HW0 HB0
    obtain ⟨k, hk, rfl, hwr, hbel⟩ := hrel
    by_cases hlt : k < ns.length
    · obtain ⟨b, o, p, rfl, hbB, hp, hc0, hc1⟩ := h.spot hlt
      have d0 := (hbel.cell (p := ⟨b, o + k * 2, none⟩) hbB).trans hc0
      have d1 := (hbel.cell (p := ⟨b, o + k * 2 + 1, none⟩) hbB).trans hc1
      have HWR := Lib.hid hwr
      have HB := Lib.hid hbel
      have HP := Lib.hid hp
      clear hwr hbel hp hc0 hc1 h
      have HB1 := Lib.hid (HB.out.alloc HB.out.size (.cells #[.int .i64 p.1, .int .i64 p.2] 100))
      have CP := Lib.hid (put_if w.heap.size (packed (ns.take k)) (fits ns k) p.1 p.2 _ (HWR.out.alloc (.cells #[.int .i64 p.1, .int .i64 p.2] 100)) (fun hf => ⟨packed_good _, fits_good hf⟩) (fun hf => HE.out _ HB1.out (k + 1) ((fits_succ ns k p HP.out).trans hf)))
      rw [← fits_succ ns k p HP.out, ← packed_take ns k p HP.out] at CP
      go_wp2_with fail
      refine CP.out.mono ?_
      rintro e w2 ⟨rfl, hw2, hb2⟩
      have HW2 := Lib.hid hw2
      have HB2 := Lib.hid (HB1.out.trans hb2)
      clear hw2 hb2 HB HB1 CP HWR d0 d1
      go_wp2
      go_roundw
      case rel => exact ⟨k + 1, by omega, by go_num, HW2.out, HB2.out⟩
      case measure => simp [intOf]; omega
    · obtain rfl : k = ns.length := by omega
      rw [List.take_of_length_le (Nat.le_refl _)] at hwr
      rcases hwr with ⟨hf, v, hw⟩ | ⟨hf, v, l, a, x, y, hw⟩
      · have c2 := hw.c2
        have c0 := hw.c0
        have HR : Hid (Own wr w.heap.size v (bitPutB ns)) := Lib.hid (by rw [fits_all, hf]; exact ownLower hw.2 (by omega))
        have HB := Lib.hid hbel
        clear hw hbel h hf
        go_wp2
        go_ret
        exact ⟨_, rfl, HR.out, HB.out⟩
      · have c2 := hw.c2
        have HR : Hid (Own wr w.heap.size (.slice none 0 0) (bitPutB ns)) := Lib.hid (by rw [fits_all, hf]; exact own_nil _ _)
        have HB := Lib.hid hbel
        clear hw hbel h hf
        go_wp2
        go_ret
        exact ⟨_, rfl, HR.out, HB.out⟩
theorem implBitPut_any (A : Option Addr) (c : Nat) (ns : List (Int × Int)) (w : World) (hs : ns.length ≤ 1073741824) (h : HasN w w.heap.size A ns) (he : ErrsW w) :
    Calls Try.prog 130 #[.slice A ns.length c] w (PutOut w ns) := implBitPut_if A c ns w hs h fun _ => he
end Go.Proofs.Ytnnpjcbdcjdojaa
