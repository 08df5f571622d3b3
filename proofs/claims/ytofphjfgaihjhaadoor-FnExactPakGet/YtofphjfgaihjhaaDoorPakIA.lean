/-
  The program's unpacker: the bytes of a code are appended. Condition: the block holds such an unpacker.
-/
import Derived.Test.YtofphjfgaihjhaaDoorPakIU
namespace Go.Proofs.YtofphjfgaihjhaaDoor
open Go.RowKit

/-- Bytes copied one by one, from a place on. -/
def copyN (out : List UInt8) (st : Nat) : Nat → List UInt8
  | 0 => out
  | k + 1 => copyN out st k ++ [((copyN out st k)[st + k]?).getD 0]
theorem copyN_length (out : List UInt8) (st k : Nat) : (copyN out st k).length = out.length + k := by
  induction k with
  | zero => rfl
  | succ k ih => simp [copyN, ih]; omega
theorem copyN_in (out : List UInt8) (st : Nat) : ∀ k, st + k ≤ out.length → copyN out st k = out ++ (out.drop st).take k
  | 0, _ => by simp [copyN]
  | k + 1, h => by
    have hk : k < (out.drop st).length := by simp; omega
    rw [copyN, copyN_in out st k (by omega), List.getElem?_append_left (by omega), List.getElem?_eq_getElem (by omega), List.take_add_one, List.getElem?_eq_getElem hk, List.getElem_drop]
    simp
theorem copyN_over (out : List UInt8) (st m : Nat) (h : st + m = out.length) (hm : 1 ≤ m) : copyN out st (m + 1) = out ++ (out.drop st ++ (out.drop st).take 1) := by
  have hd : (out.drop st).take m = out.drop st := List.take_of_length_le (by simp; omega)
  have hl : 0 < (out.drop st).length := by simp; omega
  rw [copyN, copyN_in out st m (by omega), hd, List.getElem?_append_right (by omega), show st + m - out.length = 0 from by omega]
  obtain ⟨x, l, e⟩ := List.exists_cons_of_length_pos hl
  rw [e]
  simp
/-- What a code leaves. -/
def apS (out : List UInt8) (sp : List (Nat × Nat)) (c : Nat) : Option (List UInt8) :=
  if c < 256 then (if out.length + 1 ≤ 200 then some (out ++ [UInt8.ofNat c]) else none)
  else match sp[c - 257]? with
  | some q => if out.length + q.2 ≤ 200 then some (copyN out q.1 q.2) else none
  | none => none
/-- What appendString answers and leaves. -/
def ApOut (base gu : Nat) (vs : Value) (sp : List (Nat × Nat)) (p s : Nat) (r : Option (List UInt8)) (w : World) (e : Ending) (w' : World) : Prop :=
  e = .returned (.bool r.isSome) ∧ (∀ o, r = some o → ∃ vo', UnB w' gu vo' vs p s ∧ OwnSp w' base vs sp ∧ Own w' base vo' o) ∧ FrT w w' ∧ Below base w w'
/-- The out field is stored. -/
theorem set_out {w w5 : World} {base gu : Nat} {vo vs v5 : Value} {sp : List (Nat × Nat)} {p s : Nat} {o : List UInt8} (hU : UnB w5 gu vo vs p s) (hP : OwnSp w5 base vs sp) (hO : Own w5 base v5 o) (hF : FrT w w5) (hB : Below base w w5) (hg : base ≤ gu) :
    (UnB (w5.setCell ⟨gu, 0, none⟩ v5) gu v5 vs p s ∧ OwnSp (w5.setCell ⟨gu, 0, none⟩ v5) base vs sp ∧ Own (w5.setCell ⟨gu, 0, none⟩ v5) base v5 o) ∧ FrT w (w5.setCell ⟨gu, 0, none⟩ v5) ∧ Below base w (w5.setCell ⟨gu, 0, none⟩ v5) := by
  have hset : UnB (w5.setCell ⟨gu, 0, none⟩ v5) gu v5 vs p s := heap_setCell_same _ gu 0 _ _ _ hU
  refine ⟨⟨hset, ?_, ?_⟩, hF.trans fun b cs t fr hb h1 h2 h3 => setU_other hU hb h1, below_cell hB hg⟩
  · exact row_move hP fun b cs fr hb => setU_other hU hb (by decide)
  · exact row_move hO fun b cs fr hb => setU_other hU hb (by decide)
/-- A byte's row has grown. -/
theorem grown_out {w w1 w5 : World} {base gu : Nat} {vo vs v1 : Value} {sp : List (Nat × Nat)} {p s : Nat} {o : List UInt8} (hU : UnB w1 gu vo vs p s) (hP : OwnSp w1 base vs sp) (hO : Own w1 base v1 o) (hF : FrT w w1) (hB : Below base w w1) (hbw : base ≤ w.heap.size) (hg : w1.grownBy w5 v1.ownBlock) : UnB w5 gu vo vs p s ∧ OwnSp w5 base vs sp ∧ FrT w w5 ∧ Below base w w5 := by
  refine ⟨(row_ne hO hg hU (by decide)).trans hU, row_move hP fun b cs fr hb => row_ne hO hg hb (by decide), hF.trans fun b cs t fr hb h1 h2 h3 => row_ne hO hg hb h2, hB.grown hg (Nat.le_trans hbw hB.size) (fun q hq => (World.ownsRow.lt hO q hq).1)⟩

set_option maxRecDepth 100000 in
set_option maxHeartbeats 2000000 in
theorem apString_byte (base gu : Nat) (vo vs : Value) (out : List UInt8) (sp : List (Nat × Nat)) (p s : Nat) (x : UInt8) (w : World) (h : UnB w gu vo vs p s) (ho : Own w base vo out) (hsp : OwnSp w base vs sp) (hol : out.length ≤ 200) (hg : base ≤ gu) (hbw : base ≤ w.heap.size) :
    Calls Tryd.prog 52 #[.pointer (some ⟨gu, 0, none⟩), .int .i64 (x.toNat : Int)] w (ApOut base gu vs sp p s (apS out sp x.toNat) w) := by
  obtain ⟨Ao, co, rfl, -, -⟩ := ho.has
  have hx1 : ((x.toNat : Int) < 256) = True := eq_true (by have := x.toNat_lt; omega)
  have hx2 : IntKind.u8.wrap (x.toNat : Int) = (x.toNat : Int) := by
    show (x.toNat : Int) % 256 = (x.toNat : Int)
    have := x.toNat_lt
    omega
  have hx3 : (x.toNat : Int) % 256 = (x.toNat : Int) := by have := x.toNat_lt; omega
  have c0 := h.c0
  have hU1 : UnB (w.alloc (.cells #[.int .u8 (x.toNat : Int)] 5)) gu (.slice Ao out.length co) vs p s := (Below.heap_alloc w _ gu h.lt).trans h
  have hP1 : OwnSp (w.alloc (.cells #[.int .u8 (x.toNat : Int)] 5)) base vs sp := World.ownsRow.alloc hsp _
  have hO1 : Own (w.alloc (.cells #[.int .u8 (x.toNat : Int)] 5)) base (.slice Ao out.length co) out := World.ownsRow.alloc ho _
  have HG := Lib.hid (And.intro hU1 (And.intro hP1 (And.intro hO1 (And.intro (FrT.alloc w (.cells #[.int .u8 (x.toNat : Int)] 5)) ((Below.refl base w).alloc hbw (.cells #[.int .u8 (x.toNat : Int)] 5))))))
  have HR : Hid (apS out sp x.toNat = if out.length + 1 ≤ 200 then some (out ++ [x]) else none) := Lib.hid (by
    unfold apS
    rw [if_pos (by have := x.toNat_lt; omega)]
    simp)
  have HOL := Lib.hid hol
  have HO := Lib.hid ho
  clear h ho hsp hol hU1 hP1 hO1
  go_enter Tryd.func52, Tryd.ntmps52
  go_upto_region 3 with (at_builtin; refine wpList_push1 rfl (.tmp 13) (.tmp 16) rfl base (.slice Ao out.length co) out rfl HO.out x w.heap.size rfl rfl (by have := HOL.out; omega) hbw ?_; intro g5 c5 w5 ho5 hg5; have hQ5 := grown_out HG.out.1 HG.out.2.1 HG.out.2.2.1 HG.out.2.2.2.1 HG.out.2.2.2.2 hbw hg5; have k0 := hQ5.1.c0; have f0 := hQ5.1.free 0)
  have hQ6 := set_out hQ5.1 hQ5.2.1 ho5 hQ5.2.2.1 hQ5.2.2.2 hg
  have k6 := hQ6.1.1.c0
  have HQ := Lib.hid hQ6
  clear hQ5 hQ6 k0 f0 ho5 hg5 c0
  generalize w5.setCell ⟨gu, 0, none⟩ (.slice (some ⟨g5, 0, none⟩) (out.length + 1) c5) = w6 at *
  go_wp2_with fail
  go_ret
  unfold ApOut
  rw [HR.out]
  by_cases hq : out.length + 1 ≤ 200
  · rw [if_pos hq]
    refine ⟨?_, fun o' ho' => ?_, HQ.out.2.1, HQ.out.2.2⟩
    · show Ending.returned (Value.bool (decide ((out.length : Int) + 1 ≤ 200))) = _
      rw [decide_eq_true (by omega)]
      rfl
    · injection ho' with ho'
      subst ho'
      exact ⟨_, HQ.out.1.1, HQ.out.1.2.1, HQ.out.1.2.2⟩
  · rw [if_neg hq]
    refine ⟨?_, fun o' ho' => (by cases ho'), HQ.out.2.1, HQ.out.2.2⟩
    show Ending.returned (Value.bool (decide ((out.length : Int) + 1 ≤ 200))) = _
    rw [decide_eq_false (by omega)]
    rfl
set_option maxRecDepth 100000 in
set_option maxHeartbeats 2000000 in
theorem apString_none (base gu : Nat) (vo vs : Value) (out : List UInt8) (sp : List (Nat × Nat)) (p s j : Nat) (w : World) (h : UnB w gu vo vs p s) (hsp : OwnSp w base vs sp) (hj : sp.length ≤ j) (hj2 : j < 255) :
    Calls Tryd.prog 52 #[.pointer (some ⟨gu, 0, none⟩), .int .i64 ((257 + j : Nat) : Int)] w (ApOut base gu vs sp p s (apS out sp (257 + j)) w) := by
  obtain ⟨As, cs, rfl, -⟩ := hsp.has
  have c1 := h.c1
  have HR : Hid (apS out sp (257 + j) = none) := Lib.hid (by
    unfold apS
    rw [if_neg (by omega), show 257 + j - 257 = j from by omega, List.getElem?_eq_none hj])
  obtain ⟨cd, hcd⟩ : ∃ cd : Int, ((257 + j : Nat) : Int) = cd := ⟨_, rfl⟩
  rw [hcd]
  have h1 : ¬ cd < 256 := by omega
  have h2 : ¬ cd < 257 := by omega
  have h3 : wrap64 (j : Int) = (j : Int) := by unfold wrap64; omega
  have h3' : cd - 257 = (j : Int) := by omega
  have h4 : (sp.length : Int) ≤ (j : Int) := by omega
  clear h hsp hj hj2 hcd
  go_enter Tryd.func52, Tryd.ntmps52
  go_wp2
  go_ret
  unfold ApOut
  rw [HR.out]
  exact ⟨rfl, fun o' ho' => (by cases ho'), FrT.refl w, Below.refl _ _⟩
set_option maxRecDepth 100000 in
set_option maxHeartbeats 4000000 in
theorem apString_span (base gu : Nat) (vo vs : Value) (out : List UInt8) (sp : List (Nat × Nat)) (p s j st n : Nat) (w : World) (h : UnB w gu vo vs p s) (ho : Own w base vo out) (hsp : OwnSp w base vs sp) (hj : sp[j]? = some (st, n)) (hj2 : j < 255) (hst : st < out.length) (hn : n ≤ 300) (hol : out.length ≤ 200) (hg : base ≤ gu) (hbw : base ≤ w.heap.size) :
    Calls Tryd.prog 52 #[.pointer (some ⟨gu, 0, none⟩), .int .i64 ((257 + j : Nat) : Int)] w (ApOut base gu vs sp p s (apS out sp (257 + j)) w) := by
  obtain ⟨As, cs, rfl, -⟩ := hsp.has
  obtain ⟨gp, rfl, e1, e2⟩ := hsp.spot hj
  obtain ⟨Ao, co, rfl, -, -⟩ := ho.has
  have hjl := (List.getElem?_eq_some_iff.1 hj).1
  have c0 := h.c0
  have c1 := h.c1
  have HR : Hid (apS out sp (257 + j) = if out.length + n ≤ 200 then some (copyN out st n) else none) := Lib.hid (by
    unfold apS
    rw [if_neg (by omega), show 257 + j - 257 = j from by omega, hj])
  obtain ⟨cd, hcd⟩ : ∃ cd : Int, ((257 + j : Nat) : Int) = cd := ⟨_, rfl⟩
  rw [hcd]
  have h1 : ¬ cd < 256 := by omega
  have h2 : ¬ cd < 257 := by omega
  have h3' : cd - 257 = (j : Int) := by omega
  have h3 : wrap64 (j : Int) = (j : Int) := by unfold wrap64; omega
  have h4 : (j : Int) < (sp.length : Int) := by omega
  have h5 : ¬ (sp.length : Int) ≤ (j : Int) := by omega
  have HF := Lib.hid (And.intro hst (And.intro hn (And.intro hol hj2)))
  have HU := Lib.hid h
  have HO := Lib.hid ho
  have HSP := Lib.hid hsp
  clear h ho hsp hj hj2 hcd hjl hst hn hol
  go_enter Tryd.func52, Tryd.ntmps52
  go_upto_region 7 with fail
  obtain ⟨gs, hgs⟩ : ∃ gs, w.heap.size = gs := ⟨_, rfl⟩
  have hU1 : UnB (w.alloc (.cells #[.int .i64 (st : Int), .int .i64 (n : Int)] 58)) gu (.slice Ao out.length co) (.slice (some ⟨gp, 0, none⟩) sp.length cs) p s := (Below.heap_alloc w _ gu HU.out.lt).trans HU.out
  have hP1 : OwnSp (w.alloc (.cells #[.int .i64 (st : Int), .int .i64 (n : Int)] 58)) base (.slice (some ⟨gp, 0, none⟩) sp.length cs) sp := World.ownsRow.alloc HSP.out _
  have hO1 : Own (w.alloc (.cells #[.int .i64 (st : Int), .int .i64 (n : Int)] 58)) base (.slice Ao out.length co) out := World.ownsRow.alloc HO.out _
  have hN1 : (w.alloc (.cells #[.int .i64 (st : Int), .int .i64 (n : Int)] 58)).heap[w.heap.size]? = some (.cells #[.int .i64 (st : Int), .int .i64 (n : Int)] 58 (0, 0)) := heap_alloc_new w _
  have hF1 : FrT w (w.alloc (.cells #[.int .i64 (st : Int), .int .i64 (n : Int)] 58)) := FrT.alloc w _
  have hB1 : Below base w (w.alloc (.cells #[.int .i64 (st : Int), .int .i64 (n : Int)] 58)) := (Below.refl _ w).alloc hbw _
  rw [hgs] at hN1 ⊢
  generalize w.alloc (.cells #[.int .i64 (st : Int), .int .i64 (n : Int)] 58) = w1 at *
  have q0 := hU1.c0
  have q1 : w1.cell? ⟨gs, 1, none⟩ = some (.int .i64 (n : Int)) := by rw [cell_of_row w1 _ 1 _ _ _ hN1]; rfl
  obtain ⟨hst, hn, hol, hj2⟩ := HF.out
  have HI := Lib.hid (And.intro hU1 (And.intro hP1 (And.intro hO1 (And.intro hN1 (And.intro hF1 hB1)))))
  have hoI : (out.length : Int) ≤ 1073741824 := by omega
  have hnI : (n : Int) ≤ 1073741824 := by omega
  clear hU1 hP1 hO1 hN1 hF1 hB1 c0 c1 e1 e2 h1 h2 h3 h3' h4 h5 HSP HO HU hst hn hol hj2
  go_quiet (fail)
  by_cases hq : out.length + n ≤ 200
  · have hqI : (out.length : Int) + (n : Int) ≤ 200 := by omega
    have HR2 : Hid (apS out sp (257 + j) = some (copyN out st n)) := Lib.hid (by rw [HR.out, if_pos hq])
    clear hq
    go_wp2_with fail
    go_loopw [57] (fun i wr => ∃ k : Nat, k ≤ n ∧ i = .int .i64 k ∧ ∃ vo', UnB wr gu vo' (.slice (some ⟨gp, 0, none⟩) sp.length cs) p s ∧ OwnSp wr base (.slice (some ⟨gp, 0, none⟩) sp.length cs) sp ∧ Own wr base vo' (copyN out st k) ∧ wr.heap[gs]? = some (.cells #[.int .i64 (st : Int), .int .i64 (n : Int)] 58 (0, 0)) ∧ FrT w wr ∧ Below base w wr) (fun i _ => n - (intOf i).toNat)
    case atStart => exact ⟨0, Nat.zero_le _, rfl, _, HI.out.1, HI.out.2.1, HI.out.2.2.1, HI.out.2.2.2.1, HI.out.2.2.2.2.1, below_draws HI.out.2.2.2.2.2 _⟩
    case round =>
      clear HI q0 q1
      obtain ⟨k, hk, rfl, vo', hU, hP, hO, hN, hF, hB⟩ := hrel
      by_cases hlt : k < n
      · obtain ⟨Aq, co', rfl, -, -⟩ := hO.has
        obtain ⟨m, hm⟩ : ∃ m, (copyN out st k).length = m := ⟨_, rfl⟩
        have hml : m = out.length + k := by rw [← hm, copyN_length]
        obtain ⟨go, rfl, -, -⟩ := hO.nonnil (by rw [hm]; have := HF.out.1; omega)
        obtain ⟨x, hx⟩ : ∃ x, (copyN out st k)[st + k]? = some x := ⟨_, List.getElem?_eq_getElem (by rw [hm]; have := HF.out.1; omega)⟩
        have hxc : wr.cell? ⟨go, st + k, none⟩ = some (.int .u8 (x.toNat : Int)) := by
          rw [World.ownsRow.cellAt hO (st + k) (by rw [hm]; have := HF.out.1; omega)]
          simp [hx, bv]
        rw [hm] at hU
        have HO := Lib.hid hO
        have HCN : Hid (copyN out st (k + 1) = copyN out st k ++ [x]) := Lib.hid (by rw [copyN, hx]; rfl)
        have HM := Lib.hid hm
        obtain ⟨ix, hix⟩ : ∃ ix, st + k = ix := ⟨_, rfl⟩
        have px : 0 ≤ (ix : Int) ∧ (ix : Int) < (m : Int) := by have := HF.out.1; omega
        have hst2 : IntKind.i64.wrap ((st : Int) + (k : Int)) = (ix : Int) := by rw [IntWalk.i64_in _ (by have := HF.out; omega)]; omega
        rw [hix] at hxc
        have HML := Lib.hid hml
        clear hix hml
        have g0 : wr.cell? ⟨gs, 0, none⟩ = some (.int .i64 (st : Int)) := by rw [cell_of_row wr _ 0 _ _ _ hN]; rfl
        have HS0 : wr.drew.cell? ⟨gu, 0, none⟩ = some (.slice (some ⟨go, 0, none⟩) m co') ∧ wr.drew.cell? ⟨gu, 1, none⟩ = some (.slice (some ⟨gp, 0, none⟩) sp.length cs) ∧ wr.drew.cell? ⟨gu, 2, none⟩ = some (.int .i64 (p : Int)) ∧ wr.drew.cell? ⟨gu, 3, none⟩ = some (.int .i64 (s : Int)) ∧ wr.drew.cell? ⟨gs, 0, none⟩ = some (.int .i64 (st : Int)) := ⟨hU.c0, hU.c1, hU.c2, hU.c3, g0⟩
        have hxd : wr.drew.cell? ⟨go, ix, none⟩ = some (.int .u8 (x.toNat : Int)) := hxc
        clear hO hx hm g0 hxc
        go_upto_region 12 with fail
        obtain ⟨co, hco⟩ : ∃ co, co = co' := ⟨_, rfl⟩
        subst hco
        refine wp_region_T (fun w' => w'.cell? ⟨gu, 0, none⟩ = some (.slice (some ⟨go, 0, none⟩) m co) ∧ w'.cell? ⟨gu, 1, none⟩ = some (.slice (some ⟨gp, 0, none⟩) sp.length cs) ∧ w'.cell? ⟨gu, 2, none⟩ = some (.int .i64 (p : Int)) ∧ w'.cell? ⟨gu, 3, none⟩ = some (.int .i64 (s : Int)) ∧ w'.cell? ⟨gs, 0, none⟩ = some (.int .i64 (st : Int))) 19 (by kernel_rfl) ?_
        refine wpAnyT_take (i := 0) (d := 60) (v := .pointer (some ⟨gu, 0, none⟩)) rfl rfl (by kernel_rfl) (by kernel_rfl) (by kernel_rfl) (by kernel_rfl) (by kernel_rfl) (fun _ _ _ h => h) HS0 (Or.inl ⟨by rfl, fun w' hS' => ?_⟩) ?_
        · obtain ⟨z0, z1, z2, z3, z4⟩ := hS'
          go_simp
        simp only [Act.put, List.setIfInBounds_toArray, List.set_cons_zero, List.set_cons_succ]
        refine wpAnyT_take (i := 1) (d := 61) (v := .pointer (some ⟨gu, 0, none⟩)) rfl rfl (by kernel_rfl) (by kernel_rfl) (by kernel_rfl) (by kernel_rfl) (by kernel_rfl) (fun _ _ _ h => h) HS0 (Or.inl ⟨by rfl, fun w' hS' => ?_⟩) ?_
        · obtain ⟨z0, z1, z2, z3, z4⟩ := hS'
          go_simp
        simp only [Act.put, List.setIfInBounds_toArray, List.set_cons_zero, List.set_cons_succ]
        refine wpAnyT_take (i := 2) (d := 62) (v := .pointer (some ⟨gu, 0, none⟩)) rfl rfl (by kernel_rfl) (by kernel_rfl) (by kernel_rfl) (by kernel_rfl) (by kernel_rfl) (fun _ _ _ h => h) HS0 (Or.inl ⟨by rfl, fun w' hS' => ?_⟩) ?_
        · obtain ⟨z0, z1, z2, z3, z4⟩ := hS'
          go_simp
        simp only [Act.put, List.setIfInBounds_toArray, List.set_cons_zero, List.set_cons_succ]
        refine wpAnyT_take (i := 3) (d := 63) (v := .pointer (some ⟨gu, 0, none⟩)) rfl rfl (by kernel_rfl) (by kernel_rfl) (by kernel_rfl) (by kernel_rfl) (by kernel_rfl) (fun _ _ _ h => h) HS0 (Or.inl ⟨by rfl, fun w' hS' => ?_⟩) ?_
        · obtain ⟨z0, z1, z2, z3, z4⟩ := hS'
          go_simp
        simp only [Act.put, List.setIfInBounds_toArray, List.set_cons_zero, List.set_cons_succ]
        refine wpAnyT_take (i := 4) (d := 64) (v := .slice (some ⟨go, 0, none⟩) m co) rfl rfl (by kernel_rfl) (by kernel_rfl) (by kernel_rfl) (by kernel_rfl) (by kernel_rfl) (fun _ _ _ h => h) HS0 (Or.inl ⟨by rfl, fun w' hS' => ?_⟩) ?_
        · obtain ⟨z0, z1, z2, z3, z4⟩ := hS'
          go_simp
        simp only [Act.put, List.setIfInBounds_toArray, List.set_cons_zero, List.set_cons_succ]
        refine wpAnyT_take (i := 5) (d := 65) (v := .pointer (some ⟨gu, 0, none⟩)) rfl rfl (by kernel_rfl) (by kernel_rfl) (by kernel_rfl) (by kernel_rfl) (by kernel_rfl) (fun _ _ _ h => h) HS0 (Or.inl ⟨by rfl, fun w' hS' => ?_⟩) ?_
        · obtain ⟨z0, z1, z2, z3, z4⟩ := hS'
          go_simp
        simp only [Act.put, List.setIfInBounds_toArray, List.set_cons_zero, List.set_cons_succ]
        refine wpAnyT_take (i := 6) (d := 66) (v := .pointer (some ⟨gu, 0, none⟩)) rfl rfl (by kernel_rfl) (by kernel_rfl) (by kernel_rfl) (by kernel_rfl) (by kernel_rfl) (fun _ _ _ h => h) HS0 (Or.inl ⟨by rfl, fun w' hS' => ?_⟩) ?_
        · obtain ⟨z0, z1, z2, z3, z4⟩ := hS'
          go_simp
        simp only [Act.put, List.setIfInBounds_toArray, List.set_cons_zero, List.set_cons_succ]
        refine wpAnyT_take (i := 7) (d := 67) (v := .pointer (some ⟨gu, 0, none⟩)) rfl rfl (by kernel_rfl) (by kernel_rfl) (by kernel_rfl) (by kernel_rfl) (by kernel_rfl) (fun _ _ _ h => h) HS0 (Or.inl ⟨by rfl, fun w' hS' => ?_⟩) ?_
        · obtain ⟨z0, z1, z2, z3, z4⟩ := hS'
          go_simp
        simp only [Act.put, List.setIfInBounds_toArray, List.set_cons_zero, List.set_cons_succ]
        refine wpAnyT_take (i := 8) (d := 68) (v := .slice (some ⟨go, 0, none⟩) m co) rfl rfl (by kernel_rfl) (by kernel_rfl) (by kernel_rfl) (by kernel_rfl) (by kernel_rfl) (fun _ _ _ h => h) HS0 (Or.inl ⟨by rfl, fun w' hS' => ?_⟩) ?_
        · obtain ⟨z0, z1, z2, z3, z4⟩ := hS'
          go_simp
        simp only [Act.put, List.setIfInBounds_toArray, List.set_cons_zero, List.set_cons_succ]
        refine wpAnyT_take (i := 9) (d := 69) (v := .pointer (some ⟨gs, 0, none⟩)) rfl rfl (by kernel_rfl) (by kernel_rfl) (by kernel_rfl) (by kernel_rfl) (by kernel_rfl) (fun _ _ _ h => h) HS0 (Or.inl ⟨by rfl, fun w' hS' => ?_⟩) ?_
        · obtain ⟨z0, z1, z2, z3, z4⟩ := hS'
          go_simp
        simp only [Act.put, List.setIfInBounds_toArray, List.set_cons_zero, List.set_cons_succ]
        refine wpAnyT_take (i := 10) (d := 70) (v := .int .i64 (st : Int)) rfl rfl (by kernel_rfl) (by kernel_rfl) (by kernel_rfl) (by kernel_rfl) (by kernel_rfl) (fun _ _ _ h => h) HS0 (Or.inl ⟨by rfl, fun w' hS' => ?_⟩) ?_
        · obtain ⟨z0, z1, z2, z3, z4⟩ := hS'
          go_simp
        simp only [Act.put, List.setIfInBounds_toArray, List.set_cons_zero, List.set_cons_succ]
        refine wpAnyT_take (i := 11) (d := 71) (v := .int .i64 (k : Int)) rfl rfl (by kernel_rfl) (by kernel_rfl) (by kernel_rfl) (by kernel_rfl) (by kernel_rfl) (fun _ _ _ h => h) HS0 (Or.inl ⟨by rfl, fun w' hS' => ?_⟩) ?_
        · obtain ⟨z0, z1, z2, z3, z4⟩ := hS'
          go_simp
        simp only [Act.put, List.setIfInBounds_toArray, List.set_cons_zero, List.set_cons_succ]
        refine wpAnyT_take (i := 12) (d := 72) (v := .int .i64 (ix : Int)) rfl rfl (by kernel_rfl) (by kernel_rfl) (by kernel_rfl) (by kernel_rfl) (by kernel_rfl) (fun _ _ _ h => h) HS0 (Or.inl ⟨by rfl, fun w' hS' => ?_⟩) ?_
        · obtain ⟨z0, z1, z2, z3, z4⟩ := hS'
          go_simp
        simp only [Act.put, List.setIfInBounds_toArray, List.set_cons_zero, List.set_cons_succ]
        refine wpAnyT_one (i := 13) (by kernel_rfl) rfl (fun K hK => ?_)
        go_simp
        refine hK.out _ _ (fun _ => HS0) ?_
        clear hK
        refine wpAnyT_one (i := 14) (by kernel_rfl) rfl (fun K hK => ?_)
        go_simp
        refine hK.out _ _ (fun _ => HS0) ?_
        clear hK
        have hU1 : UnB (wr.alloc (.cells #[.int .u8 (x.toNat : Int)] 5)).drew gu (.slice (some ⟨go, 0, none⟩) m co) (.slice (some ⟨gp, 0, none⟩) sp.length cs) p s := (Below.heap_alloc wr _ gu hU.lt).trans hU
        have hP1 : OwnSp (wr.alloc (.cells #[.int .u8 (x.toNat : Int)] 5)).drew base (.slice (some ⟨gp, 0, none⟩) sp.length cs) sp := World.ownsRow.alloc (w := wr) hP _
        have hO1 : Own (wr.alloc (.cells #[.int .u8 (x.toNat : Int)] 5)).drew base (.slice (some ⟨go, 0, none⟩) m co) (copyN out st k) := by have := World.ownsRow.alloc (w := wr) HO.out (.cells #[.int .u8 (x.toNat : Int)] 5); rw [HM.out] at this; rw [← HM.out] at this ⊢; exact this
        have hN1 : (wr.alloc (.cells #[.int .u8 (x.toNat : Int)] 5)).drew.heap[gs]? = some (.cells #[.int .i64 (st : Int), .int .i64 (n : Int)] 58 (0, 0)) := (Below.heap_alloc wr _ gs (Array.getElem?_eq_some_iff.1 hN).1).trans hN
        have hF1 : FrT w (wr.alloc (.cells #[.int .u8 (x.toNat : Int)] 5)).drew := hF.trans (FrT.alloc wr _)
        have hB1 : Below base w (wr.alloc (.cells #[.int .u8 (x.toNat : Int)] 5)).drew := below_drew1 (hB.alloc (Nat.le_trans hbw hB.size) _)
        have hX1 : (wr.alloc (.cells #[.int .u8 (x.toNat : Int)] 5)).drew.heap[wr.heap.size]? = some (.cells #[.int .u8 (x.toNat : Int)] 5 (0, 0)) := heap_alloc_new wr _
        have r1 : (wr.alloc (.cells #[.int .u8 (x.toNat : Int)] 5)).drew.cell? ⟨gs, 0, none⟩ = some (.int .i64 (st : Int)) := by rw [cell_of_row _ _ 0 _ _ _ hN1]; rfl
        refine wpAnyT_one (i := 15) (by kernel_rfl) rfl (fun K hK => ?_)
        go_simp
        refine hK.out _ _ (fun _ => ⟨hU1.c0, hU1.c1, hU1.c2, hU1.c3, r1⟩) ?_
        clear hK HS0 hxd hU hP hN hF hB r1
        generalize (wr.alloc (.cells #[.int .u8 (x.toNat : Int)] 5)).drew = w2 at *
        refine wpAnyT_one (i := 16) (by kernel_rfl) rfl (fun K hK => ?_)
        refine step_push rfl (.tmp 64) (.tmp 75) rfl base (.slice (some ⟨go, 0, none⟩) m co) (copyN out st k) rfl hO1 ⟨wr.heap.size, 0, none⟩ 1 [x] rfl (fun j u hu => World.news_of_block hX1 j _ (by
          match j, hu with
          | 0, hu => simp at hu; subst hu; rfl)) (by simp) (by rw [HM.out, HML.out]; have := HF.out; simp; omega) (Nat.le_trans hbw hB1.size) ?_
        intro g5 c5 w5 hO5 hg5
        obtain ⟨hU5, hP5, hF5, hB5⟩ := grown_out hU1 hP1 hO1 hF1 hB1 hbw hg5
        have hN5 := (row_ne hO1 hg5 hN1 (by decide)).trans hN1
        have r5 : w5.cell? ⟨gs, 0, none⟩ = some (.int .i64 (st : Int)) := by rw [cell_of_row _ _ 0 _ _ _ hN5]; rfl
        refine hK.out _ _ (fun _ => ⟨hU5.c0, hU5.c1, hU5.c2, hU5.c3, r5⟩) ?_
        clear hK hU1 hP1 hO1 hN1 hF1 hB1 hX1 hg5
        try simp only [Act.put, List.setIfInBounds_toArray]
        refine wpAnyT_one (i := 17) (by kernel_rfl) rfl (fun K hK => ?_)
        go_simp
        refine hK.out _ _ (fun _ => ⟨hU5.c0, hU5.c1, hU5.c2, hU5.c3, r5⟩) ?_
        clear hK
        refine wpAnyT_one (i := 18) (by kernel_rfl) rfl (fun K hK => ?_)
        go_simp
        refine hK.out _ _ (fun _ => ⟨hU5.c0, hU5.c1, hU5.c2, hU5.c3, r5⟩) ?_
        clear hK r5
        have hQ6 := set_out hU5 hP5 hO5 hF5 hB5 hg
        have HN6 := Lib.hid ((setU_other (i := 0) (x := .slice (some ⟨g5, 0, none⟩) ((copyN out st k).length + [x].length) c5) hU5 hN5 (by decide)).trans hN5)
        rw [← HCN.out] at hQ6
        have HQ6 := Lib.hid hQ6
        have k0 := hU5.c0
        have f0 := hU5.free 0
        clear hQ6 hU5 hP5 hO5 hF5 hB5 hN5
        refine wpAnyT_one (i := 19) (by kernel_rfl) rfl (fun K hK => ?_)
        go_simp
        refine hK.out _ _ (fun h => last_out h) ?_
        clear hK k0 f0
        refine wpAnyT_done (by kernel_rfl) ?_ _
        go_wp2_with fail
        go_roundw
        case rel => exact ⟨k + 1, by omega, by go_num, _, HQ6.out.1.1, HQ6.out.1.2.1, HQ6.out.1.2.2, HN6.out, HQ6.out.2.1, HQ6.out.2.2⟩
        case measure => simp [intOf]; omega
      · obtain rfl : k = n := by omega
        have HE : Hid (ApOut base gu (.slice (some ⟨gp, 0, none⟩) sp.length cs) sp p s (apS out sp (257 + j)) w (.returned (.bool true)) wr) := Lib.hid (by
          unfold ApOut
          rw [HR2.out]
          refine ⟨rfl, fun o' ho' => ?_, hF, hB⟩
          injection ho' with ho'
          subst ho'
          exact ⟨_, hU, hP, hO⟩)
        clear hU hP hO hN hF hB
        go_wp2_with fail
        go_ret
        exact HE.out
  · have hqI : 200 < (out.length : Int) + (n : Int) := by omega
    have HE : Hid (∀ m, ApOut base gu (.slice (some ⟨gp, 0, none⟩) sp.length cs) sp p s (apS out sp (257 + j)) w (.returned (.bool false)) (w1.drewN m)) := Lib.hid (fun m => by
      unfold ApOut
      rw [HR.out, if_neg hq]
      exact ⟨rfl, fun o' ho' => (by cases ho'), HI.out.2.2.2.2.1, below_draws HI.out.2.2.2.2.2 _⟩)
    clear hq
    go_wp2_with fail
    go_ret
    exact HE.out _
end Go.Proofs.YtofphjfgaihjhaaDoor
