/-
  The program writes operations, and a request. Condition: the listed variables hold what they must.
-/
import Derived.Test.YtbejafbpipdbjaaDoorUrlU
import Derived.Test.YtbejafbpipdbjaaDoorUrlX
import Derived.Test.YtbejafbpipdbjaaDoorUrlQ
import Derived.Test.YtbejafbpipdbjaaDoorRegH
namespace Go.Proofs.YtbejafbpipdbjaaDoor
set_option maxRecDepth 4000
open Go.RowKit

theorem bs_list (l : List UInt8) : (bs l).data.toList = l := rfl
theorem join_opsT {l : List Op} (h : l ≠ []) : Go.Lib.join ((l.map opT).map fun x => (bs x).data.toList) [44] = opsT l := by
  cases l with
  | nil => exact absurd rfl h
  | cons o r =>
    simp only [List.map_cons, bs_list, Go.Lib.join_cons, List.map_map, opsT, Go.Lib.joinTail]
    rfl
theorem madeS (n : Nat) : (madeCells (Value.string ByteArray.empty).cells (n * 1)).toList = strE.flat (List.replicate n []) := by
  apply List.ext_getElem?
  intro i
  have e : strE.flat (List.replicate n []) = List.replicate n (Value.string ByteArray.empty) := by
    induction n with
    | zero => rfl
    | succ n ih => rw [List.replicate_succ, List.replicate_succ, El.flat_cons, ih]; rfl
  rw [e]
  by_cases hi : i < n
  · simp [madeCells, hi, Value.cells, Nat.mod_one]
  · simp [madeCells, hi]
theorem flatS_length (l : List (List UInt8)) : (strE.flat l).length = l.length := by have := El.flat_length strE l; rw [this]; show l.length * 1 = _; omega
theorem flatS_set (l : List (List UInt8)) (k : Nat) (x : List UInt8) : (strE.flat l).set k (.string (bs x)) = strE.flat (l.set k x) := by
  induction l generalizing k with
  | nil => rfl
  | cons y r ih =>
    cases k with
    | zero => rfl
    | succ k => rw [List.set_cons_succ, El.flat_cons, El.flat_cons, ← ih]; rfl
/-- What is written after k: the first k, and nothing. -/
def partS (l : List (List UInt8)) (k : Nat) : List (List UInt8) := l.take k ++ List.replicate (l.length - k) []
theorem partS_len {l : List (List UInt8)} {k : Nat} (h : k ≤ l.length) : (partS l k).length = l.length := by simp [partS]; omega
theorem partS_zero (l : List (List UInt8)) : partS l 0 = List.replicate l.length [] := by simp [partS]
theorem partS_all (l : List (List UInt8)) : partS l l.length = l := by simp [partS]
theorem partS_set {l : List (List UInt8)} {k : Nat} {x : List UInt8} (hx : l[k]? = some x) : (partS l k).set k x = partS l (k + 1) := by
  obtain ⟨hk, rfl⟩ := List.getElem?_eq_some_iff.1 hx
  unfold partS
  obtain ⟨m, hm⟩ : ∃ m, l.length - k = m + 1 := ⟨l.length - k - 1, by omega⟩
  rw [List.set_append_right _ _ (by simp; omega), hm, show l.length - (k + 1) = m from by omega, List.replicate_succ, List.take_add_one, hx]
  simp only [List.length_take, show min k l.length = k from by omega, Nat.sub_self, List.set_cons_zero, Option.toList_some, List.append_assoc, List.singleton_append]
set_option maxHeartbeats 2000000 in
theorem implOpsText_any (l : List Op) (A : Option Addr) (c B : Nat) (w : World) (hE : EnvW w B) (hB : B ≤ w.heap.size) (hl : opsB l = true) (h : opE.Has w w.heap.size A l) :
    Calls Tryd.prog 56 #[.slice A l.length c] w fun e w' => e = .returned (.string (bs (opsT l))) ∧ Below w.heap.size w w' := by
  have hl' : l.all opB = true ∧ l.length ≤ 5 := by simpa [opsB] using hl
  obtain ⟨n, hn⟩ : ∃ n, l.length = n := ⟨_, rfl⟩
  by_cases h0 : n = 0
  · obtain rfl : l = [] := List.eq_nil_of_length_eq_zero (by rw [hn, h0])
    clear hE h hn h0
    go_enter Tryd.func56, Tryd.ntmps56
    go_wp2_with fail
    go_ret
    exact ⟨rfl, Below.refl _ _⟩
  have hx5 : (n : Int) ≤ 5 := by omega
  have h0I : ¬ (n : Int) = 0 := by omega
  have hj := join_opsT (l := l) (by intro e; rw [e] at hn; exact h0 hn.symm)
  have hlen := opsT_len hl'.1
  have HH := Lib.hid fun u hb => h.carry (w' := u) hb (Nat.le_refl _) hb.size
  have HE := Lib.hid fun u (hb : Below w.heap.size w u) => (hE.up hB).below hb
  have HA := Lib.hid hl'.1
  have CO := Lib.hid fun o u (hb : Below w.heap.size w u) => implOpText_any o u w.heap.size (HE.out u hb) hb.size
  obtain ⟨T, hT⟩ : ∃ T, l.map opT = T := ⟨_, rfl⟩
  have hTn : T.length = n := by rw [← hT]; simp [hn]
  have HT := Lib.hid (show ∀ k o, l[k]? = some o → T[k]? = some (opTx o) from fun k o ho => by
    rw [← hT, List.getElem?_map, ho]
    have := List.all_eq_true.1 hl'.1 o (List.mem_of_getElem? ho)
    simp [opTx, this])
  have CJ : Hid (∀ (g c : Nat) (u : World), strE.Own u w.heap.size (.slice (some ⟨g, 0, none⟩) n c) T → Calls Tryd.prog 78 #[.slice (some ⟨g, 0, none⟩) n c, .string ⟨#[44]⟩] u fun e w' => e = .returned (.string (bs (opsT l))) ∧ Below u.heap.size u w') := Lib.hid fun g c u ho => by
    have hlc := ho.len
    have hr := ho.reads
    have := Tryd.strings_Join g 0 c (T.map bs) ⟨#[44]⟩ u (fun j x hx => by
      rw [List.getElem?_map, Option.map_eq_some_iff] at hx
      obtain ⟨y, hy, rfl⟩ := hx
      obtain ⟨b, o, y', e, hb, hy', hc⟩ := hr.spot (k := j) (List.getElem?_eq_some_iff.1 hy).1
      injection e with e
      injection e with e1 e2
      subst e1 e2
      rw [hy] at hy'
      injection hy' with hy'
      subst hy'
      have := hc 0 _ rfl
      simpa [show strE.n = 1 from rfl] using this) (by
      obtain ⟨b, o, y', e, hb, -, -⟩ := hr.spot (k := 0) (by omega)
      injection e with e
      injection e with e1 e2
      subst e1
      exact hb) (by simp; omega) (by simp; omega) (by
      rw [List.map_map, show ((fun x => x.data.toList) ∘ bs) = (fun x => (bs x).data.toList) from rfl, ← hT]
      show (Go.Lib.join ((l.map opT).map fun x => (bs x).data.toList) [44]).length ≤ _
      rw [hj]
      omega)
    rw [List.map_map, List.length_map, hTn] at this
    rw [show Go.Lib.join (T.map ((fun x => x.data.toList) ∘ bs)) (ByteArray.mk #[44]).data.toList = opsT l from by rw [← hT]; exact hj] at this
    exact this
  obtain ⟨i0, hi, hz0', hz1', hz2'⟩ := El.parts strE
  have hz0 : i0.zero = some (.string ByteArray.empty) := hz0'
  have hz1 : i0.size = 1 := hz1'
  have hz2 : i0.bytes = 16 := hz2'
  have HN := Lib.hid (And.intro hn hTn)
  rw [hn]
  clear hE hl hl' h hn h0 hlen hj hT hB hTn
  unfold Op.v at CO
  go_enter Tryd.func56, Tryd.ntmps56
  go_wp2_with (at_make; refine wpList_make_full _ rfl _ _ 64 rfl w.heap.size 9 i0 (.string ByteArray.empty) 1 Tryd.underlying64 hi hz0 hz1 _ _ _ _ n rfl rfl rfl rfl (by rw [hz2]; omega) (by unfold maxLen; omega) (Nat.le_refl _) ?_; intro w1 hown hgrow)
  have hb1 : Below w.heap.size w w1 := (Below.refl _ w).grown hgrow (Nat.le_refl _) (fun _ e => by cases e)
  have ho1 : strE.Own w1 w.heap.size (.slice (some ⟨w.heap.size, 0, none⟩) n n) (partS T 0) := by
    rw [partS_zero, HN.out.2]
    unfold El.Own
    rw [← madeS, List.length_replicate]
    exact hown
  have HO1 := Lib.hid ho1
  have HB1 := Lib.hid hb1
  clear hown hgrow ho1 hb1
  go_loopw [14] (fun v wr => ∃ k : Nat, k ≤ n ∧ v = .int .i64 (k : Int) ∧ strE.Own wr w.heap.size (.slice (some ⟨w.heap.size, 0, none⟩) n n) (partS T k) ∧ Below w.heap.size w wr) (fun v _ => n - (intOf v).toNat)
  case atStart => exact ⟨0, Nat.zero_le _, rfl, HO1.out, HB1.out⟩
  case round =>
    obtain ⟨k, hk, rfl, ho, hb⟩ := hrel
    have HO := Lib.hid ho
    have HB := Lib.hid hb
    clear ho hb HO1 HB1
    by_cases hlt : k < n
    · obtain ⟨b, o, x, rfl, hbB, hx, hc⟩ := (HH.out wr HB.out).spot (k := k) (by rw [HN.out.1]; exact hlt)
      have c0 := hc 0 _ rfl
      have c1 := hc 1 _ rfl
      have c2 := hc 2 _ rfl
      have c3 := hc 3 _ rfl
      have c4 := hc 4 _ rfl
      simp only [show opE.n = 5 from rfl, Nat.add_zero] at c0 c1 c2 c3 c4
      have HX := Lib.hid (HT.out k x hx)
      have hkI : (0 : Int) ≤ (k : Int) ∧ (k : Int) < (n : Int) := by omega
      have CX := Lib.hid (CO.out x)
      clear hc hx hbB
      go_wp2_with fail
      have b0 := HB.out.alloc HB.out.size (.cells #[.int .i64 x.k, .int .i64 x.a, .int .i64 x.b, .int .i64 x.c, .int .i64 x.d] 25)
      refine (CX.out _ b0).mono ?_
      rintro e w2 ⟨rfl, b2⟩
      have hO2 : strE.Own w2 w.heap.size (.slice (some ⟨w.heap.size, 0, none⟩) n n) (partS T k) := (HO.out.alloc (.cells #[.int .i64 x.k, .int .i64 x.a, .int .i64 x.b, .int .i64 x.c, .int .i64 x.d] 25)).below b2 (Nat.le_refl _)
      have hB2 := b0.trans (b2.mono b0.size)
      have hlp : (partS T k).length = n := by rw [partS_len (by rw [HN.out.2]; exact hk), HN.out.2]
      have ho : w2.ownsRow w.heap.size 9 1 (.slice (some ⟨w.heap.size, 0, none⟩) n n) n (strE.flat (partS T k)) := by
        have := hO2
        unfold El.Own at this
        rw [hlp] at this
        exact this
      have f0 := ho.frozenAt k
      obtain ⟨y0, hy0⟩ : ∃ y, w2.cell? ⟨w.heap.size, k, none⟩ = some y := by
        rw [ho.cellAt k (by omega)]
        exact ⟨_, List.getElem?_eq_getElem (by rw [flatS_length, hlp]; exact hlt)⟩
      have hst := ho.stored k (.string (bs (opTx x)))
      have HO2 : Hid (strE.Own (w2.setCell ⟨w.heap.size, k, none⟩ (.string (bs (opTx x)))) w.heap.size (.slice (some ⟨w.heap.size, 0, none⟩) n n) (partS T (k + 1))) := Lib.hid (by
        have e := hst.1
        rw [flatS_set, partS_set HX.out] at e
        unfold El.Own
        rw [partS_len (by rw [HN.out.2]; omega), HN.out.2]
        exact e)
      have HB2 := Lib.hid (hB2.setCell (p := ⟨w.heap.size, k, none⟩) (Nat.le_refl _) (.string (bs (opTx x))))
      clear b0 b2 hO2 hB2 ho hst hlp c0 c1 c2 c3 c4
      go_wp2_with fail
      go_roundw
      case rel => exact ⟨k + 1, by omega, by go_num, HO2.out, HB2.out⟩
      case measure => simp [intOf]; omega
    · obtain rfl : k = n := by omega
      have HO2 : Hid (strE.Own wr w.heap.size (.slice (some ⟨w.heap.size, 0, none⟩) k k) T) := Lib.hid (by have := HO.out; rw [← HN.out.2, partS_all, HN.out.2] at this; exact this)
      clear HO
      go_wp2_with fail
      refine (CJ.out _ _ _ HO2.out).mono ?_
      rintro e w2 ⟨rfl, b2⟩
      have HB2 := Lib.hid (HB.out.trans (b2.mono HB.out.size))
      clear b2
      go_wp2_with fail
      go_ret
      exact ⟨rfl, HB2.out⟩
set_option maxHeartbeats 4000000 in
/-- AskText. -/
theorem implAskText_any (a : Ask) (A : Option Addr) (c B : Nat) (w : World) (hs : a.ops.length ≤ 1073741824) (hp : a.path.length ≤ 1073741824) (hE : EnvW w B) (hB : B ≤ w.heap.size) (h : opE.Has w w.heap.size A a.ops) :
    Calls Tryd.prog 23 #[askV A a.ops.length c a.path a.till] w fun e w' => e = .returned (.string (bs (askTx a))) ∧ Below w.heap.size w w' := by
  obtain ⟨n, hn⟩ : ∃ n, a.ops.length = n := ⟨_, rfl⟩
  have b0 : Below w.heap.size w (w.alloc (.cells #[.slice A n c, .string (bs a.path), .int .i64 a.till] 39)) := (Below.refl _ w).alloc (Nat.le_refl _) _
  have HB0 := Lib.hid b0
  have X0 : Hid (Box (w.alloc (.cells #[.slice A n c, .string (bs a.path), .int .i64 a.till] 39)) w.heap.size #[.slice A n c, .string (bs a.path), .int .i64 a.till] 39) := Lib.hid (Box.new w _ _)
  have HH := Lib.hid fun u hb => h.carry (w' := u) hb (Nat.le_refl _) hb.size
  have HE := Lib.hid fun u (hb : Below w.heap.size w u) => (hE.up hB).below hb
  have CO := Lib.hid fun u (hb : Below w.heap.size w u) => implAskOk_any a A c u hs hp ((HE.out u hb).ran.below (Below.refl _ u) (Nat.lt_of_lt_of_le (HE.out u hb).go hb.size)) (HH.out u hb)
  obtain ⟨q, hq⟩ : ∃ q, askB a = q := ⟨_, rfl⟩
  have HQ := Lib.hid hq
  rw [hq] at CO
  rw [hn] at CO ⊢
  have HN := Lib.hid hn
  clear hs hp hE hB h b0 hn hq
  unfold askV at CO ⊢
  go_enter Tryd.func23, Tryd.ntmps23
  go_wp2_with fail
  refine (CO.out _ HB0.out).mono ?_
  rintro e w1 ⟨rfl, b1⟩
  have HB1 := Lib.hid (HB0.out.trans (b1.mono HB0.out.size))
  have X1 := Lib.hid (X0.out.next b1)
  clear b1 X0 HB0
  cases q
  · go_wp2_with fail
    go_ret
    exact ⟨by unfold askTx; rw [HQ.out]; rfl, HB1.out⟩
  have ha : opsB a.ops = true ∧ pathB a.path = true ∧ inR a.till 0 9999 = true := by
    have := HQ.out
    unfold askB at this
    simpa using this
  have ht : 0 ≤ a.till ∧ a.till ≤ 9999 := by simpa [inR] using ha.2.2
  have hpl : 1 ≤ a.path.length ∧ a.path.length ≤ 6 := by have := ha.2.1; simp [pathB] at this; omega
  have hol : (opsT a.ops).length ≤ 131 := by
    have h1 : a.ops.all opB = true ∧ a.ops.length ≤ 5 := by simpa [opsB] using ha.1
    have := opsT_len h1.1
    omega
  have hil := itoa_len ht.1 ht.2
  have CP := Lib.hid fun u (hb : Below w.heap.size w u) => implOpsText_any a.ops A c w.heap.size u (HE.out u hb) hb.size ha.1 (HH.out u hb)
  rw [HN.out] at CP
  have CI := Lib.hid fun u (hb : Below w.heap.size w u) => itoa_bs a.till u (by omega) (by omega) (HE.out u hb)
  obtain ⟨o, ho⟩ : ∃ o, opsT a.ops = o := ⟨_, rfl⟩
  obtain ⟨i, hi⟩ : ∃ i, Go.Lib.itoa a.till = i := ⟨_, rfl⟩
  obtain ⟨p, hp⟩ : ∃ p, a.path = p := ⟨_, rfl⟩
  obtain ⟨t, ht'⟩ : ∃ t, a.till = t := ⟨_, rfl⟩
  have HF := Lib.hid (show askTx a = [47] ++ o ++ [47] ++ p ++ [63, 101, 61] ++ i by
    unfold askTx askT tillM
    rw [HQ.out, ho, hi, hp]
    simp)
  rw [ho] at CP hol
  rw [hi] at CI hil
  rw [hp] at X1 hpl
  rw [ht'] at X1 CI
  have A1 := fun u => run_bs_add [47] o (by simp; omega) u
  obtain ⟨t1, e1⟩ : ∃ t1, [47] ++ o = t1 := ⟨_, rfl⟩
  have l1 : t1.length ≤ 132 := by rw [← e1]; simp; omega
  rw [e1] at A1 HF
  have A2 := fun u => run_bs_add t1 [47] (by simp; omega) u
  obtain ⟨t2, e2⟩ : ∃ t2, t1 ++ [47] = t2 := ⟨_, rfl⟩
  have l2 : t2.length ≤ 133 := by rw [← e2]; simp; omega
  rw [e2] at A2 HF
  have A3 := fun u => run_bs_add t2 p (by omega) u
  obtain ⟨t3, e3⟩ : ∃ t3, t2 ++ p = t3 := ⟨_, rfl⟩
  have l3 : t3.length ≤ 139 := by rw [← e3]; simp; omega
  rw [e3] at A3 HF
  have A4 := fun u => run_bs_add t3 [63, 101, 61] (by simp; omega) u
  obtain ⟨t4, e4⟩ : ∃ t4, t3 ++ [63, 101, 61] = t4 := ⟨_, rfl⟩
  have l4 : t4.length ≤ 142 := by rw [← e4]; simp; omega
  rw [e4] at A4 HF
  have A5 := fun u => run_bs_add t4 i (by omega) u
  obtain ⟨t5, e5⟩ : ∃ t5, t4 ++ i = t5 := ⟨_, rfl⟩
  rw [e5] at A5 HF
  have h47 : ByteArray.mk #[47] = bs [47] := rfl
  have hem : ByteArray.mk #[63, 101, 61] = bs [63, 101, 61] := rfl
  clear ha ht hpl hol hil ho hi hp ht' e1 e2 e3 e4 e5 l1 l2 l3 l4 HQ CO HH HE
  go_wp2_with fail
  --REGION
  have HT : Hid (Below w1.heap.size w1 w1.drew) := Lib.hid (below_draws (Below.refl _ _) 1)
  refine wp_region_held_drew (S := fun v => Below w1.heap.size w1 v) (by kernel_rfl) (below_draws (Below.refl _ _) 1) fun _ => ?_
  generalize w1.drew = u0 at *
  refine wpAnyH_takeD (i := 0) (d := 6) (v := .pointer (some ⟨w.heap.size, 0, none⟩)) rfl rfl (by kernel_rfl) (by kernel_rfl) (by kernel_rfl) (fun _ _ _ h => h) HT.out (Or.inl ⟨by rfl, fun w' hS' => ?_⟩) ?_
  · go_simp
  simp only [Act.put, List.setIfInBounds_toArray, List.set_cons_zero, List.set_cons_succ]
  refine wpAnyH_takeD (i := 1) (d := 7) (v := .slice A n c) rfl rfl (by kernel_rfl) (by kernel_rfl) (by kernel_rfl) (fun _ _ _ h => h) HT.out (Or.inl ⟨by rfl, fun w' hS' => ?_⟩) ?_
  · have tb := Box.below X1.out hS' (Box.lt X1.out)
    have t0 := tb.cell (i := 0) (v := .slice A n c) rfl
    go_simp
  simp only [Act.put, List.setIfInBounds_toArray, List.set_cons_zero, List.set_cons_succ]
  refine wpAnyH_takeD (i := 5) (d := 11) (v := .pointer (some ⟨w.heap.size, 1, none⟩)) rfl rfl (by kernel_rfl) (by kernel_rfl) (by kernel_rfl) (fun _ _ _ h => h) HT.out (Or.inl ⟨by rfl, fun w' hS' => ?_⟩) ?_
  · go_simp
  simp only [Act.put, List.setIfInBounds_toArray, List.set_cons_zero, List.set_cons_succ]
  refine wpAnyH_takeD (i := 6) (d := 12) (v := .string (bs p)) rfl rfl (by kernel_rfl) (by kernel_rfl) (by kernel_rfl) (fun _ _ _ h => h) HT.out (Or.inl ⟨by rfl, fun w' hS' => ?_⟩) ?_
  · have tb := Box.below X1.out hS' (Box.lt X1.out)
    have t0 := tb.cell (i := 1) (v := .string (bs p)) rfl
    go_simp
  simp only [Act.put, List.setIfInBounds_toArray, List.set_cons_zero, List.set_cons_succ]
  refine wpAnyH_takeD (i := 9) (d := 15) (v := .pointer (some ⟨w.heap.size, 2, none⟩)) rfl rfl (by kernel_rfl) (by kernel_rfl) (by kernel_rfl) (fun _ _ _ h => h) HT.out (Or.inl ⟨by rfl, fun w' hS' => ?_⟩) ?_
  · go_simp
  simp only [Act.put, List.setIfInBounds_toArray, List.set_cons_zero, List.set_cons_succ]
  refine wpAnyH_takeD (i := 10) (d := 16) (v := .int .i64 t) rfl rfl (by kernel_rfl) (by kernel_rfl) (by kernel_rfl) (fun _ _ _ h => h) HT.out (Or.inl ⟨by rfl, fun w' hS' => ?_⟩) ?_
  · have tb := Box.below X1.out hS' (Box.lt X1.out)
    have t0 := tb.cell (i := 2) (v := .int .i64 t) rfl
    go_simp
  simp only [Act.put, List.setIfInBounds_toArray, List.set_cons_zero, List.set_cons_succ]
  refine wpAnyH_one (i := 2) (by kernel_rfl) rfl (fun K hK => ?_)
  go_simp
  refine (CP.out _ (HB1.out.trans (HT.out.mono HB1.out.size))).mono ?_
  rintro e v1 ⟨rfl, bv1⟩
  have HT' := Lib.hid (HT.out.trans (bv1.mono HT.out.size))
  refine hK.out _ _ HT'.out ?_
  clear hK bv1 HT
  have HT := HT'
  clear HT'
  try simp only [Act.put, List.setIfInBounds_toArray, List.set_cons_zero, List.set_cons_succ]
  refine wpAnyH_takeD (i := 3) (d := 9) (v := .string (bs t1)) rfl rfl (by kernel_rfl) (by kernel_rfl) (by kernel_rfl) (fun _ _ _ h => h) HT.out (Or.inl ⟨by rfl, fun w' hS' => ?_⟩) ?_
  · have a1 := A1
    go_simp
  simp only [Act.put, List.setIfInBounds_toArray, List.set_cons_zero, List.set_cons_succ]
  refine wpAnyH_takeD (i := 4) (d := 10) (v := .string (bs t2)) rfl rfl (by kernel_rfl) (by kernel_rfl) (by kernel_rfl) (fun _ _ _ h => h) HT.out (Or.inl ⟨by rfl, fun w' hS' => ?_⟩) ?_
  · have a1 := A2
    go_simp
  simp only [Act.put, List.setIfInBounds_toArray, List.set_cons_zero, List.set_cons_succ]
  refine wpAnyH_takeD (i := 7) (d := 13) (v := .string (bs t3)) rfl rfl (by kernel_rfl) (by kernel_rfl) (by kernel_rfl) (fun _ _ _ h => h) HT.out (Or.inl ⟨by rfl, fun w' hS' => ?_⟩) ?_
  · have a1 := A3
    go_simp
  simp only [Act.put, List.setIfInBounds_toArray, List.set_cons_zero, List.set_cons_succ]
  refine wpAnyH_takeD (i := 8) (d := 14) (v := .string (bs t4)) rfl rfl (by kernel_rfl) (by kernel_rfl) (by kernel_rfl) (fun _ _ _ h => h) HT.out (Or.inl ⟨by rfl, fun w' hS' => ?_⟩) ?_
  · have a1 := A4
    go_simp
  simp only [Act.put, List.setIfInBounds_toArray, List.set_cons_zero, List.set_cons_succ]
  refine wpAnyH_one (i := 11) (by kernel_rfl) rfl (fun K hK => ?_)
  go_simp
  refine (CI.out _ (HB1.out.trans (HT.out.mono HB1.out.size))).mono ?_
  rintro e v1 ⟨rfl, bv1⟩
  have HT' := Lib.hid (HT.out.trans (bv1.mono HT.out.size))
  refine hK.out _ _ HT'.out ?_
  clear hK bv1 HT
  have HT := HT'
  clear HT'
  try simp only [Act.put, List.setIfInBounds_toArray, List.set_cons_zero, List.set_cons_succ]
  refine wpAnyH_takeD (i := 12) (d := 18) (v := .string (bs t5)) rfl rfl (by kernel_rfl) (by kernel_rfl) (by kernel_rfl) (fun _ _ _ h => h) HT.out (Or.inl ⟨by rfl, fun w' hS' => ?_⟩) ?_
  · have a1 := A5
    go_simp
  simp only [Act.put, List.setIfInBounds_toArray, List.set_cons_zero, List.set_cons_succ]
  refine wpAnyH_one (i := 13) (by kernel_rfl) rfl (fun K hK => ?_)
  go_simp
  refine hK.out _ _ HT.out ?_
  clear hK
  refine wpAnyH_done (by kernel_rfl) ?_ _
  have HB2 := Lib.hid (HB1.out.trans (HT.out.mono HB1.out.size))
  clear HB1 X1 HT
  go_wp2_with fail
  go_ret
  rw [HF.out]
  exact ⟨rfl, HB2.out⟩
  --END
end Go.Proofs.YtbejafbpipdbjaaDoor
