/-
  The scanner finds the kind of a name, and reads an operation. Condition: the scanner's block holds a text; the listed variables hold what they must.
-/
import Derived.Test.YtbejafbpipdbjaaDoorUrlN
import Derived.Test.YtbejafbpipdbjaaDoorRanI
import Derived.Deep.MidRow
import Derived.Laws.CopyOwn
namespace Go.Proofs.YtbejafbpipdbjaaDoor
set_option maxRecDepth 4000
open Go.RowKit

theorem kindFrom_hit {w : List UInt8} {i n : Nat} (h : formN i = w) : kindFrom w i (n + 1) = i := by
  rw [kindFrom, if_pos h]
theorem kindFrom_miss {w : List UInt8} {i n : Nat} (h : ¬ formN i = w) : kindFrom w i (n + 1) = kindFrom w (i + 1) n := by
  rw [kindFrom, if_neg h]
def formsL : List Value := [.string (bs []), .int .i64 0, .string (bs [99, 114, 111, 112]), .int .i64 4, .string (bs [102, 108, 105, 112, 120]), .int .i64 0, .string (bs [102, 108, 105, 112, 121]), .int .i64 0, .string (bs [116, 117, 114, 110]), .int .i64 0, .string (bs [103, 114, 97, 121]), .int .i64 0, .string (bs [98, 108, 117, 114]), .int .i64 0, .string (bs [115, 105, 122, 101]), .int .i64 2, .string (bs [102, 108, 97, 116]), .int .i64 3]
theorem forms_range {w : World} (hF : FormsIn w) : w.rangeAt 0 0 formsL := by
  intro j v hv
  have hj : j < 18 := (List.getElem?_eq_some_iff.1 hv).1
  rw [Nat.zero_add]
  have hcases : j = 2 * (j / 2) ∨ j = 2 * (j / 2) + 1 := by omega
  obtain ⟨k, hk⟩ : ∃ k, j / 2 = k := ⟨_, rfl⟩
  rw [hk] at hcases
  have hk9 : k < 9 := by omega
  have key : ∀ k : Nat, k < 9 → formsL[2 * k]? = some (.string (bs (formN k))) ∧ formsL[2 * k + 1]? = some (.int .i64 (formK k : Int)) := by
    intro k h
    match k, h with
    | 0, _ | 1, _ | 2, _ | 3, _ | 4, _ | 5, _ | 6, _ | 7, _ | 8, _ => exact ⟨rfl, rfl⟩
  obtain ⟨k1, k2⟩ := key k hk9
  obtain ⟨c1, c2⟩ := hF.2 k hk9
  rcases hcases with e | e
  · rw [e] at hv ⊢
    rw [k1] at hv
    injection hv with hv
    rw [← hv, Nat.mul_comm]
    exact c1
  · rw [e] at hv ⊢
    rw [k2] at hv
    injection hv with hv
    rw [← hv, Nat.mul_comm]
    exact c2
theorem forms_index0 (w : World) : (Instr.index 63 (.agg formsL.toArray) (.int .i64 ((0 : Nat) : Int))).run Tryd.prog w = .ok (.agg #[.string (bs (formN 0)), .int .i64 ((formK 0 : Nat) : Int)]) w := by kernel_rfl
theorem forms_index1 (w : World) : (Instr.index 63 (.agg formsL.toArray) (.int .i64 ((1 : Nat) : Int))).run Tryd.prog w = .ok (.agg #[.string (bs (formN 1)), .int .i64 ((formK 1 : Nat) : Int)]) w := by kernel_rfl
theorem forms_index2 (w : World) : (Instr.index 63 (.agg formsL.toArray) (.int .i64 ((2 : Nat) : Int))).run Tryd.prog w = .ok (.agg #[.string (bs (formN 2)), .int .i64 ((formK 2 : Nat) : Int)]) w := by kernel_rfl
theorem forms_index3 (w : World) : (Instr.index 63 (.agg formsL.toArray) (.int .i64 ((3 : Nat) : Int))).run Tryd.prog w = .ok (.agg #[.string (bs (formN 3)), .int .i64 ((formK 3 : Nat) : Int)]) w := by kernel_rfl
theorem forms_index4 (w : World) : (Instr.index 63 (.agg formsL.toArray) (.int .i64 ((4 : Nat) : Int))).run Tryd.prog w = .ok (.agg #[.string (bs (formN 4)), .int .i64 ((formK 4 : Nat) : Int)]) w := by kernel_rfl
theorem forms_index5 (w : World) : (Instr.index 63 (.agg formsL.toArray) (.int .i64 ((5 : Nat) : Int))).run Tryd.prog w = .ok (.agg #[.string (bs (formN 5)), .int .i64 ((formK 5 : Nat) : Int)]) w := by kernel_rfl
theorem forms_index6 (w : World) : (Instr.index 63 (.agg formsL.toArray) (.int .i64 ((6 : Nat) : Int))).run Tryd.prog w = .ok (.agg #[.string (bs (formN 6)), .int .i64 ((formK 6 : Nat) : Int)]) w := by kernel_rfl
theorem forms_index7 (w : World) : (Instr.index 63 (.agg formsL.toArray) (.int .i64 ((7 : Nat) : Int))).run Tryd.prog w = .ok (.agg #[.string (bs (formN 7)), .int .i64 ((formK 7 : Nat) : Int)]) w := by kernel_rfl
theorem forms_index8 (w : World) : (Instr.index 63 (.agg formsL.toArray) (.int .i64 ((8 : Nat) : Int))).run Tryd.prog w = .ok (.agg #[.string (bs (formN 8)), .int .i64 ((formK 8 : Nat) : Int)]) w := by kernel_rfl
theorem forms_index (k : Nat) (hk : k < 9) (w : World) : (Instr.index 63 (.agg formsL.toArray) (.int .i64 (k : Int))).run Tryd.prog w = .ok (.agg #[.string (bs (formN k)), .int .i64 (formK k : Int)]) w := by
  match k, hk with
  | 0, _ => exact forms_index0 w
  | 1, _ => exact forms_index1 w
  | 2, _ => exact forms_index2 w
  | 3, _ => exact forms_index3 w
  | 4, _ => exact forms_index4 w
  | 5, _ => exact forms_index5 w
  | 6, _ => exact forms_index6 w
  | 7, _ => exact forms_index7 w
  | 8, _ => exact forms_index8 w
set_option maxHeartbeats 4000000 in
/-- opKindOf. -/
theorem kindOf_any (l : List UInt8) (w : World) (hF : FormsIn w) :
    Calls Tryd.prog 72 #[.string (bs l)] w fun e w' => e = .returned (.int .i64 (kindOf l : Int)) ∧ Below w.heap.size w w' := by
  have hq : ∀ a b : List UInt8, ((bs a).toList == (bs b).toList) = decide (a = b) := bs_eq
  have FX := Lib.hid forms_index
  have HR := Lib.hid (forms_range hF)
  have hin : (Tryd.prog.info? 63).map (·.size) = some formsL.length := by kernel_rfl
  obtain ⟨K, hK⟩ : ∃ K, kindOf l = K := ⟨_, rfl⟩
  have HK := Lib.hid hK
  rw [hK]
  clear hF hK
  go_enter Tryd.func72, Tryd.ntmps72
  go_wp2_with (refine wpList_load_mid rfl 63 (.global 0) rfl 0 0 rfl formsL _ HR.out Tryd.underlying63 rfl hin ?_)
  go_loopw [6] (fun v wr => ∃ k : Nat, k ≤ 9 ∧ v = .int .i64 (k : Int) ∧ kindOf l = kindFrom l k (9 - k) ∧ Below w.heap.size w wr) (fun v _ => 9 - (intOf v).toNat)
  case atStart => exact ⟨0, by decide, rfl, rfl, Below.refl _ _⟩
  case round =>
    obtain ⟨k, hk, rfl, hkf, hb⟩ := hrel
    have HB := Lib.hid hb
    have HKF := Lib.hid hkf
    clear hb hkf
    by_cases hlt : k < 9
    · have fx := FX.out k hlt
      have hkI : (k : Int) < 9 := by omega
      obtain ⟨m, hm⟩ : ∃ m, 9 - k = m + 1 := ⟨8 - k, by omega⟩
      have HM := Lib.hid hm
      clear hm
      have HW := Lib.hid ((HB.out.alloc HB.out.size (.cells #[.string (bs (formN k)), .int .i64 (formK k : Int)] 62)))
      by_cases h : formN k = l
      · have HH := Lib.hid (show K = k by rw [← HK.out, HKF.out, HM.out]; exact kindFrom_hit h)
        go_wp2_with fail
        go_ret
        exact ⟨by rw [HH.out]; rfl, HB.out.alloc HB.out.size _⟩
      · have HN := Lib.hid (show kindOf l = kindFrom l (k + 1) m by rw [HKF.out, HM.out]; exact kindFrom_miss h)
        go_wp2_with fail
        go_roundw
        case rel => exact ⟨k + 1, by omega, by go_num, by rw [HN.out, show 9 - (k + 1) = m from by have := HM.out; omega], HW.out⟩
        case measure => simp [intOf]; omega
    · obtain rfl : k = 9 := by omega
      obtain rfl : K = 0 := by rw [← HK.out, HKF.out]; rfl
      go_wp2_with fail
      go_ret
      exact ⟨rfl, HB.out⟩
/-! ### An operation -/
def iv (n : Int) : Value := .int .i64 n
def four0 : List Value := [.int .i64 0, .int .i64 0, .int .i64 0, .int .i64 0]
theorem splice4 (ns : List Int) : splice four0 0 ((ns.take 4).map iv) = [iv (ns.getD 0 0), iv (ns.getD 1 0), iv (ns.getD 2 0), iv (ns.getD 3 0)] := by
  match ns with
  | [] => rfl
  | [a] => rfl
  | [a, b] => rfl
  | [a, b, c] => rfl
  | a :: b :: c :: d :: l => simp [splice, four0, iv]
theorem ints_src {w : World} {B : Nat} {A : Option Addr} {ns : List Int} (h : intE.Has w B A ns) (hp : 0 < ((ns.take 4).map iv).length) : ∃ ad, A = some ad ∧ ∀ j v, ((ns.take 4).map iv)[j]? = some v → w.cell? (ad.add j) = some v := by
  rcases h with rfl | ⟨b, o, rfl, hb, hc⟩
  · simp at hp
  · refine ⟨⟨b, o, none⟩, rfl, fun j v hv => ?_⟩
    rw [List.getElem?_map, Option.map_eq_some_iff] at hv
    obtain ⟨x, hx, rfl⟩ := hv
    rw [List.getElem?_take] at hx
    split at hx
    · have := hc j x hx 0 (iv x) rfl
      rw [plain_add]
      simpa [intE] using this
    · cases hx
theorem ivs_one (l : List Int) : ∀ u ∈ l.map iv, u.oneCell' = true := by
  intro u hu
  obtain ⟨b, _, rfl⟩ := List.mem_map.1 hu
  rfl
theorem cells4 {w : World} {P : Nat} {a b c d : Value} (h : w.heap[P]? = some (.cells [a, b, c, d].toArray 91 (0, 0))) : w.cell? ⟨P, 0, none⟩ = some a ∧ w.cell? ⟨P, 1, none⟩ = some b ∧ w.cell? ⟨P, 2, none⟩ = some c ∧ w.cell? ⟨P, 3, none⟩ = some d :=
  ⟨by rw [cell_of_row w P 0 _ _ _ h]; rfl, by rw [cell_of_row w P 1 _ _ _ h]; rfl, by rw [cell_of_row w P 2 _ _ _ h]; rfl, by rw [cell_of_row w P 3 _ _ _ h]; rfl⟩
theorem fin_ur {W : World} {R : Nat} {v0 v1 v2 v3 v4 : Value} (h : Box W R #[v0, v1, v2, v3, v4] 25) (a b c d e : Value) :
    Box (((((W.setCell ⟨R, 0, none⟩ a).setCell ⟨R, 1, none⟩ b).setCell ⟨R, 2, none⟩ c).setCell ⟨R, 3, none⟩ d).setCell ⟨R, 4, none⟩ e) R #[a, b, c, d, e] 25 := ((((h.set 0 a).set 1 b).set 2 c).set 3 d).set 4 e
theorem grown_ur (W : World) (R : Nat) (a b c d e : Value) : W.grownBy (((((W.setCell ⟨R, 0, none⟩ a).setCell ⟨R, 1, none⟩ b).setCell ⟨R, 2, none⟩ c).setCell ⟨R, 3, none⟩ d).setCell ⟨R, 4, none⟩ e) (some R) :=
  grown_trans (grown_trans (grown_trans (grown_trans (grown_cell _ _ _ _) (grown_cell _ _ _ _)) (grown_cell _ _ _ _)) (grown_cell _ _ _ _)) (grown_cell _ _ _ _)
theorem Sc.low {w : World} {g R : Nat} {m : List UInt8} {ok : Bool} {cs : Array Value} (h : Sc w g m ok) (hx : Box w R cs 25) (hg : g ≠ R) {a b c d e : Value} :
    Sc (((((w.setCell ⟨R, 0, none⟩ a).setCell ⟨R, 1, none⟩ b).setCell ⟨R, 2, none⟩ c).setCell ⟨R, 3, none⟩ d).setCell ⟨R, 4, none⟩ e) g m ok := by
  obtain ⟨ev, hs, hb⟩ := h
  have hgr := grown_ur w R a b c d e
  refine ⟨ev, Box.grown hs hgr (fun e => hg (Option.some.inj e).symm), ?_⟩
  rcases hb with hb | ⟨k1, p, y, k2, k3⟩
  · exact .inl hb
  · refine .inr ⟨k1, p, y, k2, k3.grown hgr ?_⟩
    intro e
    have e := Option.some.inj e
    subst e
    unfold Box at hx k3
    rw [hx] at k3
    injection k3 with k3
    injection k3 with _ k4 _
    cases k4
theorem take4_len (ns : List Int) : ((ns.take 4).map iv).length = Nat.min ns.length 4 := by
  rw [List.length_map, List.length_take, Nat.min_comm]
theorem FormsIn.lt5 {w : World} (h : FormsIn w) (k : Nat) (hk : k < 9) : w.cell? ⟨0, k * 2 + 1, none⟩ = some (.int .i64 (formK k : Int)) := (h.2 k hk).2
theorem grown_then {a b c : World} {row : Option Nat} {B : Nat} (h : a.grownBy b row) (k : Below B b c) (hB : a.heap.size ≤ B) : a.grownBy c row :=
  ⟨k.os.trans h.os, k.tape.trans h.tape, k.output.trans h.output, Nat.le_trans h.size k.size, fun i hi hne => (k.block i (Nat.lt_of_lt_of_le hi hB)).trans (h.block i hi hne)⟩
set_option maxHeartbeats 4000000 in
/-- (*urlScanner).op. -/
theorem op_any (g B : Nat) (l : List UInt8) (ok : Bool) (w : World) (hl : l.length ≤ 1048576) (h : Sc w g l ok) (hE : Env w B) (hB : B ≤ g) :
    Calls Tryd.prog 46 #[.pointer (some ⟨g, 0, none⟩)] w fun e w' => ∃ o r q, OpR l o r q ∧ e = .returned o.v ∧ r.length ≤ l.length ∧ Sc w' g r (ok && q) ∧ w.grownBy w' (some g) := by
  have hgw : g < w.heap.size := by
    obtain ⟨ev, hs, _⟩ := h
    exact Box.lt hs
  have hg0 : w.grownBy (w.alloc (.cells #[.int .i64 0, .int .i64 0, .int .i64 0, .int .i64 0, .int .i64 0] 25)) (some g) := World.grownBy_alloc _ _ _
  have HG0 := Lib.hid hg0
  have HS0 := Lib.hid (h.next ((Below.refl _ w).alloc (Nat.le_refl _) (.cells #[.int .i64 0, .int .i64 0, .int .i64 0, .int .i64 0, .int .i64 0] 25)))
  have HX0 : Hid (Box (w.alloc (.cells #[.int .i64 0, .int .i64 0, .int .i64 0, .int .i64 0, .int .i64 0] 25)) w.heap.size #[.int .i64 0, .int .i64 0, .int .i64 0, .int .i64 0, .int .i64 0] 25) := Lib.hid (heap_alloc_new w _)
  have HT := Lib.hid fun (u : World) (hg : w.grownBy u (some g)) => hE.below (below_of_grown_at hg hB (by omega))
  have HL := Lib.hid hl
  have HBB := Lib.hid (And.intro hB hgw)
  have CW := Lib.hid (word_sc g l)
  obtain ⟨K, hK⟩ : ∃ K, kindOf (wd l) = K := ⟨_, rfl⟩
  have HK := Lib.hid hK
  have hK9 : (K : Int) < 9 := by have := kindOf_lt (wd l); omega
  have CK := Lib.hid (kindOf_any (wd l))
  rw [hK] at CK
  clear hK
  have CF := Lib.hid (follows_any g (rst l) [46])
  have CB := Lib.hid fun (m : List UInt8) => fail_any g m
  have CS := Lib.hid fun (m : List UInt8) (u : World) (hm : m.length ≤ 1048576) (hs : Sc u g m ok) (hg : w.grownBy u (some g)) => scanInts_any g B m ok u hm hs (HT.out u hg) hB
  clear h hE hl hB hgw hg0
  go_enter Tryd.func46, Tryd.ntmps46
  go_wp2_with fail
  refine (CW.out ok _ (by have := HL.out; omega) HS0.out).mono ?_
  rintro e w1 ⟨rfl, s1, g1⟩
  have HS1 := Lib.hid s1
  have HG1 := Lib.hid (grown_trans HG0.out g1)
  have HX1 := Lib.hid (HX0.out.grown g1 (by have := HBB.out.2; intro e; injection e; omega))
  clear s1 g1 HS0 HX0
  go_wp2_with fail
  refine (CK.out _ (HT.out _ HG1.out).frm).mono ?_
  rintro e w2 ⟨rfl, b2⟩
  have HS2 := Lib.hid (HS1.out.next b2)
  have HG2 := Lib.hid (grown_trans HG1.out (grown_of_below b2))
  have HX2 := Lib.hid (HX1.out.next b2)
  clear b2 HS1 HG1 HX1
  go_wp2_with fail
  refine (CF.out ok _ HS2.out).mono ?_
  rintro e w3 ⟨rfl, s3, g3⟩
  have HS3 := Lib.hid s3
  have HG3 := Lib.hid (grown_trans HG2.out g3)
  have HX3 := Lib.hid (HX2.out.grown g3 (by have := HBB.out.2; intro e; injection e; omega))
  clear s3 g3 HS2 HG2 HX2
  obtain ⟨p, hp⟩ : ∃ p, List.isPrefixOf [46] (rst l) = p := ⟨_, rfl⟩
  rw [hp]
  cases p
  · obtain ⟨h1, h2⟩ := head_no hp
    rw [h2] at HS3
    have HM : Hid (Many 46 NumR (rst l) [] (rst l) true) := Lib.hid (.stop h1)
    have HS3 : Hid (Sc w3 g (rst l) (ok && true)) := Lib.hid (by rw [Bool.and_true]; exact HS3.out)
    have HON := Lib.hid (El.own_nil intE w3 w.heap.size)
    have HRL := Lib.hid (rst_le l)
    clear h1 h2 hp

    have hin : (Tryd.prog.info? 3).map (·.size) = some 1 := by kernel_rfl
    obtain ⟨P, hP⟩ : ∃ P, w3.heap.size = P := ⟨_, rfl⟩
    have HWP := Lib.hid (show w.heap.size < P by rw [← hP]; exact HX3.out.lt)
    have HPB : Hid ((w3.alloc (.cells four0.toArray 91)).heap[P]? = some (.cells four0.toArray 91 (0, 0))) := Lib.hid (by rw [← hP]; exact heap_alloc_new w3 _)
    have HAS := Lib.hid ((El.Own.alloc (E := intE) HON.out (.cells four0.toArray 91)).reads)
    obtain ⟨O, hO⟩ : ∃ O, mkOp K ([] : List Int) = O := ⟨_, rfl⟩
    have HO := Lib.hid hO
    have HSP : Hid (splice four0 0 ((([] : List Int).take 4).map iv) = [.int .i64 O.a, .int .i64 O.b, .int .i64 O.c, .int .i64 O.d]) := Lib.hid (by rw [splice4, ← hO]; rfl)
    have CO : Hid (∀ u, RangesIn u → Calls Tryd.prog 34 #[.agg #[.int .i64 (K : Int), .int .i64 O.a, .int .i64 O.b, .int .i64 O.c, .int .i64 O.d]] u fun e u' => e = .returned (.bool (opB O)) ∧ Below u.heap.size u u') := Lib.hid (fun u hR => by
      have := implOpOk_any O u hR
      unfold Op.v at this
      rwa [show O.k = (K : Int) from by rw [← hO]; rfl] at this)
    have HMN := Lib.hid (take4_len ([] : List Int))
    clear hO
    have h4f : 0 + ((([] : List Int).take 4).map iv).length ≤ four0.length := by rw [take4_len]; exact (by rw [Nat.zero_add]; exact Nat.min_le_right _ _)
    have HFIT := Lib.hid h4f
    clear h4f
    go_wp2_with (refine wpList_copy_splice rfl (.tmp 14) (.tmp 15) 59 59 rfl 3 Tryd.underlying59 hin (some ⟨P, 0, none⟩) none 4 4 ([] : List Int).length 0 (by rw [← hP]; rfl) rfl P 0 four0 91 HPB.out ((([] : List Int).take 4).map iv) HMN.out (fun hp => ⟨rfl, ints_src HAS.out hp⟩) HFIT.out (ivs_one _) P _ (Below.refl _ _) (Nat.le_refl _) ?_; intro w5 HG5 hb5; rw [HSP.out] at HG5; obtain ⟨c0, c1, c2, c3⟩ := cells4 HG5.out; have HG6 := Lib.hid (grown_then (grown_trans HG3.out (World.grownBy_alloc w3 _ (some g))) hb5 (Nat.le_of_lt HWP.out)); have fw5 := (HT.out _ HG6.out).frm.lt5 K (by omega); have gl5 := (HT.out _ HG6.out).frm.1)
    all_goals
      have hb7 : Below w3.heap.size w3 (w5.alloc (.cells #[.int .i64 (K : Int), .int .i64 O.a, .int .i64 O.b, .int .i64 O.c, .int .i64 O.d] 25)) := (((Below.refl _ w3).alloc (Nat.le_refl _) (.cells four0.toArray 91)).trans (hb5.mono (Nat.le_of_eq hP))).alloc (Nat.le_trans (by simp) hb5.size) _
      have HG7 := Lib.hid (grown_then HG3.out hb7 HG3.out.size)
      have HS7 := Lib.hid (HS3.out.next hb7)
      have HX7 := Lib.hid (HX3.out.next hb7)
      have HR7 := Lib.hid (HT.out _ HG7.out).ran
      have HQ7 : Hid (Box (w5.alloc (.cells #[.int .i64 (K : Int), .int .i64 O.a, .int .i64 O.b, .int .i64 O.c, .int .i64 O.d] 25)) w5.heap.size #[.int .i64 (K : Int), .int .i64 O.a, .int .i64 O.b, .int .i64 O.c, .int .i64 O.d] 25) := Lib.hid (Box.new w5 _ _)
      have HPQ : Hid (P < w5.heap.size) := Lib.hid (Nat.lt_of_lt_of_le (by rw [← hP]; simp) hb5.size)
      clear c0 c1 c2 c3 fw5 gl5 hb5 hb7 HG5 HG6 HPB HAS HMN HFIT HSP hin HON
    · have HLEN : Hid (([] : List Int).length = formK K) := Lib.hid (by simp; omega)
      obtain ⟨QB, hQB⟩ : ∃ q, w5.heap.size = q := ⟨_, rfl⟩
      have HRQ : Hid (w.heap.size < QB) := Lib.hid (by have := HWP.out; have := HPQ.out; omega)
      rw [hQB] at HQ7
      refine (CO.out _ HR7.out).mono ?_
      rintro e w8 ⟨rfl, b8⟩
      have HS8 := Lib.hid (HS7.out.next b8)
      have HG8 := Lib.hid (grown_trans HG7.out (grown_of_below b8))
      have HX8 := Lib.hid (HX7.out.next b8)
      have HQ8 := Lib.hid (HQ7.out.next b8)
      clear b8 HS7 HG7 HX7 HQ7 HR7
      obtain ⟨z, hz⟩ : ∃ z, opB O = z := ⟨_, rfl⟩
      have HZ := Lib.hid hz
      rw [hz]
      rw [hQB]
      clear hz hQB
      cases z
      · go_wp2_with fail
        refine (CB.out (rst l) (ok && true) _ _ HS8.out).mono ?_
        rintro e w9 ⟨rfl, s9, g9⟩
        have HS9 := Lib.hid s9
        have HG9 := Lib.hid (grown_trans HG8.out g9)
        have HX9 := Lib.hid (HX8.out.grown g9 (by have := HBB.out.2; intro e; injection e; omega))
        have HQ9 := Lib.hid (HQ8.out.grown g9 (by have := HBB.out.2; have := HRQ.out; intro e; injection e; omega))
        clear s9 g9 HS8 HG8 HX8 HQ8
        have q0 := HQ9.out.cell (i := 0) (v := .int .i64 (K : Int)) rfl
        have q1 := HQ9.out.cell (i := 1) (v := .int .i64 O.a) rfl
        have q2 := HQ9.out.cell (i := 2) (v := .int .i64 O.b) rfl
        have q3 := HQ9.out.cell (i := 3) (v := .int .i64 O.c) rfl
        have q4 := HQ9.out.cell (i := 4) (v := .int .i64 O.d) rfl
        have r0 := HX9.out.cell (i := 0) (v := .int .i64 0) rfl
        have z0 := HX9.out.free 0
        have r1 := HX9.out.cell (i := 1) (v := .int .i64 0) rfl
        have z1 := HX9.out.free 1
        have r2 := HX9.out.cell (i := 2) (v := .int .i64 0) rfl
        have z2 := HX9.out.free 2
        have r3 := HX9.out.cell (i := 3) (v := .int .i64 0) rfl
        have z3 := HX9.out.free 3
        have r4 := HX9.out.cell (i := 4) (v := .int .i64 0) rfl
        have z4 := HX9.out.free 4
        have hRQ : w.heap.size < QB := HRQ.out
        clear HQ9
        go_wp2_with fail
        exact bodyPost_ret (results_cell_row rfl _ _ w.heap.size 25 #[.int .i64 (K : Int), .int .i64 O.a, .int .i64 O.b, .int .i64 O.c, .int .i64 O.d] (0, 0) _ rfl (fin_ur HX9.out _ _ _ _ _) Tryd.underlying25 rfl (by kernel_rfl)) rfl ⟨O, (rst l), false, ⟨([] : List Int), true, HM.out, by rw [HK.out]; exact HO.out.symm, by rw [HK.out, HZ.out]; simp⟩, by unfold Op.v; rw [show O.k = (K : Int) from by rw [← HO.out]; rfl], HRL.out, by rw [Bool.and_false]; exact HS9.out.low HX9.out (by have := HBB.out.2; omega), grown_own HG9.out (grown_ur _ _ _ _ _ _ _) (fun q hq => by injection hq with hq; omega)⟩
      · have q0 := HQ8.out.cell (i := 0) (v := .int .i64 (K : Int)) rfl
        have q1 := HQ8.out.cell (i := 1) (v := .int .i64 O.a) rfl
        have q2 := HQ8.out.cell (i := 2) (v := .int .i64 O.b) rfl
        have q3 := HQ8.out.cell (i := 3) (v := .int .i64 O.c) rfl
        have q4 := HQ8.out.cell (i := 4) (v := .int .i64 O.d) rfl
        have r0 := HX8.out.cell (i := 0) (v := .int .i64 0) rfl
        have z0 := HX8.out.free 0
        have r1 := HX8.out.cell (i := 1) (v := .int .i64 0) rfl
        have z1 := HX8.out.free 1
        have r2 := HX8.out.cell (i := 2) (v := .int .i64 0) rfl
        have z2 := HX8.out.free 2
        have r3 := HX8.out.cell (i := 3) (v := .int .i64 0) rfl
        have z3 := HX8.out.free 3
        have r4 := HX8.out.cell (i := 4) (v := .int .i64 0) rfl
        have z4 := HX8.out.free 4
        have hRQ : w.heap.size < QB := HRQ.out
        clear HQ8
        go_wp2_with fail
        exact bodyPost_ret (results_cell_row rfl _ _ w.heap.size 25 #[.int .i64 (K : Int), .int .i64 O.a, .int .i64 O.b, .int .i64 O.c, .int .i64 O.d] (0, 0) _ rfl (fin_ur HX8.out _ _ _ _ _) Tryd.underlying25 rfl (by kernel_rfl)) rfl ⟨O, (rst l), true, ⟨([] : List Int), true, HM.out, by rw [HK.out]; exact HO.out.symm, by rw [HK.out, HZ.out, HLEN.out]; simp⟩, by unfold Op.v; rw [show O.k = (K : Int) from by rw [← HO.out]; rfl], HRL.out, HS8.out.low HX8.out (by have := HBB.out.2; omega), grown_own HG8.out (grown_ur _ _ _ _ _ _ _) (fun q hq => by injection hq with hq; omega)⟩
    · have HLEN : Hid (¬ ([] : List Int).length = formK K) := Lib.hid (by simp; omega)
      obtain ⟨QB, hQB⟩ : ∃ q, w5.heap.size = q := ⟨_, rfl⟩
      have HRQ : Hid (w.heap.size < QB) := Lib.hid (by have := HWP.out; have := HPQ.out; omega)
      rw [hQB] at HQ7 ⊢
      clear hQB
      refine (CB.out (rst l) (ok && true) _ _ HS7.out).mono ?_
      rintro e w8 ⟨rfl, s8, g8⟩
      have HS8 := Lib.hid s8
      have HG8 := Lib.hid (grown_trans HG7.out g8)
      have HX8 := Lib.hid (HX7.out.grown g8 (by have := HBB.out.2; intro e; injection e; omega))
      have HQ8 := Lib.hid (HQ7.out.grown g8 (by have := HBB.out.2; have := HRQ.out; intro e; injection e; omega))
      clear s8 g8 HS7 HG7 HX7 HQ7
      have q0 := HQ8.out.cell (i := 0) (v := .int .i64 (K : Int)) rfl
      have q1 := HQ8.out.cell (i := 1) (v := .int .i64 O.a) rfl
      have q2 := HQ8.out.cell (i := 2) (v := .int .i64 O.b) rfl
      have q3 := HQ8.out.cell (i := 3) (v := .int .i64 O.c) rfl
      have q4 := HQ8.out.cell (i := 4) (v := .int .i64 O.d) rfl
      have r0 := HX8.out.cell (i := 0) (v := .int .i64 0) rfl
      have z0 := HX8.out.free 0
      have r1 := HX8.out.cell (i := 1) (v := .int .i64 0) rfl
      have z1 := HX8.out.free 1
      have r2 := HX8.out.cell (i := 2) (v := .int .i64 0) rfl
      have z2 := HX8.out.free 2
      have r3 := HX8.out.cell (i := 3) (v := .int .i64 0) rfl
      have z3 := HX8.out.free 3
      have r4 := HX8.out.cell (i := 4) (v := .int .i64 0) rfl
      have z4 := HX8.out.free 4
      have hRQ : w.heap.size < QB := HRQ.out
      clear HQ8
      go_wp2_with fail
      exact bodyPost_ret (results_cell_row rfl _ _ w.heap.size 25 #[.int .i64 (K : Int), .int .i64 O.a, .int .i64 O.b, .int .i64 O.c, .int .i64 O.d] (0, 0) _ rfl (fin_ur HX8.out _ _ _ _ _) Tryd.underlying25 rfl (by kernel_rfl)) rfl ⟨O, (rst l), false, ⟨([] : List Int), true, HM.out, by rw [HK.out]; exact HO.out.symm, by rw [HK.out, decide_eq_false HLEN.out]; simp⟩, by unfold Op.v; rw [show O.k = (K : Int) from by rw [← HO.out]; rfl], HRL.out, by rw [Bool.and_false]; exact HS8.out.low HX8.out (by have := HBB.out.2; omega), grown_own HG8.out (grown_ur _ _ _ _ _ _ _) (fun q hq => by injection hq with hq; omega)⟩
  · obtain ⟨t, ht⟩ := head_pre.mp hp
    rw [ht, cutP_cons] at HS3
    have htl := rst_le l
    rw [ht] at htl
    have HTL := Lib.hid htl
    have HTT := Lib.hid ht
    clear ht htl hp
    go_wp2_with fail
    refine (CS.out t _ (by have := HL.out; have := HTL.out; rw [List.length_cons] at this; omega) HS3.out HG3.out).mono ?_
    rintro e w4 ⟨A, c, ns, r, q, hm, rfl, hnl, hrl, ho, s4, g4⟩
    have HM : Hid (Many 46 NumR (rst l) ns r q) := Lib.hid (by rw [HTT.out]; exact hm)
    have HRL : Hid (r.length ≤ l.length) := Lib.hid (by have := HTL.out; rw [List.length_cons] at this; omega)
    have HON : Hid (intE.Own w4 w.heap.size (.slice A ns.length c) ns) := Lib.hid (ho.lower HG3.out.size)
    have HS4 := Lib.hid s4
    have HG4 := Lib.hid (grown_trans HG3.out g4)
    have HX4 := Lib.hid (HX3.out.grown g4 (by have := HBB.out.2; intro e; injection e; omega))
    clear hm hnl hrl ho s4 g4 HS3 HG3 HX3 HTL HTT

    have hin : (Tryd.prog.info? 3).map (·.size) = some 1 := by kernel_rfl
    obtain ⟨P, hP⟩ : ∃ P, w4.heap.size = P := ⟨_, rfl⟩
    have HWP := Lib.hid (show w.heap.size < P by rw [← hP]; exact HX4.out.lt)
    have HPB : Hid ((w4.alloc (.cells four0.toArray 91)).heap[P]? = some (.cells four0.toArray 91 (0, 0))) := Lib.hid (by rw [← hP]; exact heap_alloc_new w4 _)
    have HAS := Lib.hid ((El.Own.alloc (E := intE) HON.out (.cells four0.toArray 91)).reads)
    obtain ⟨O, hO⟩ : ∃ O, mkOp K ns = O := ⟨_, rfl⟩
    have HO := Lib.hid hO
    have HSP : Hid (splice four0 0 ((ns.take 4).map iv) = [.int .i64 O.a, .int .i64 O.b, .int .i64 O.c, .int .i64 O.d]) := Lib.hid (by rw [splice4, ← hO]; rfl)
    have CO : Hid (∀ u, RangesIn u → Calls Tryd.prog 34 #[.agg #[.int .i64 (K : Int), .int .i64 O.a, .int .i64 O.b, .int .i64 O.c, .int .i64 O.d]] u fun e u' => e = .returned (.bool (opB O)) ∧ Below u.heap.size u u') := Lib.hid (fun u hR => by
      have := implOpOk_any O u hR
      unfold Op.v at this
      rwa [show O.k = (K : Int) from by rw [← hO]; rfl] at this)
    have HMN := Lib.hid (take4_len ns)
    clear hO
    have h4f : 0 + ((ns.take 4).map iv).length ≤ four0.length := by rw [take4_len]; exact (by rw [Nat.zero_add]; exact Nat.min_le_right _ _)
    have HFIT := Lib.hid h4f
    clear h4f
    go_wp2_with (refine wpList_copy_splice rfl (.tmp 14) (.tmp 15) 59 59 rfl 3 Tryd.underlying59 hin (some ⟨P, 0, none⟩) A 4 4 ns.length c (by rw [← hP]; rfl) rfl P 0 four0 91 HPB.out ((ns.take 4).map iv) HMN.out (fun hp => ⟨rfl, ints_src HAS.out hp⟩) HFIT.out (ivs_one _) P _ (Below.refl _ _) (Nat.le_refl _) ?_; intro w5 HG5 hb5; rw [HSP.out] at HG5; obtain ⟨c0, c1, c2, c3⟩ := cells4 HG5.out; have HG6 := Lib.hid (grown_then (grown_trans HG4.out (World.grownBy_alloc w4 _ (some g))) hb5 (Nat.le_of_lt HWP.out)); have fw5 := (HT.out _ HG6.out).frm.lt5 K (by omega); have gl5 := (HT.out _ HG6.out).frm.1)
    all_goals
      have hb7 : Below w4.heap.size w4 (w5.alloc (.cells #[.int .i64 (K : Int), .int .i64 O.a, .int .i64 O.b, .int .i64 O.c, .int .i64 O.d] 25)) := (((Below.refl _ w4).alloc (Nat.le_refl _) (.cells four0.toArray 91)).trans (hb5.mono (Nat.le_of_eq hP))).alloc (Nat.le_trans (by simp) hb5.size) _
      have HG7 := Lib.hid (grown_then HG4.out hb7 HG4.out.size)
      have HS7 := Lib.hid (HS4.out.next hb7)
      have HX7 := Lib.hid (HX4.out.next hb7)
      have HR7 := Lib.hid (HT.out _ HG7.out).ran
      have HQ7 : Hid (Box (w5.alloc (.cells #[.int .i64 (K : Int), .int .i64 O.a, .int .i64 O.b, .int .i64 O.c, .int .i64 O.d] 25)) w5.heap.size #[.int .i64 (K : Int), .int .i64 O.a, .int .i64 O.b, .int .i64 O.c, .int .i64 O.d] 25) := Lib.hid (Box.new w5 _ _)
      have HPQ : Hid (P < w5.heap.size) := Lib.hid (Nat.lt_of_lt_of_le (by rw [← hP]; simp) hb5.size)
      clear c0 c1 c2 c3 fw5 gl5 hb5 hb7 HG5 HG6 HPB HAS HMN HFIT HSP hin HON
    · have HLEN : Hid (ns.length = formK K) := Lib.hid (by omega)
      obtain ⟨QB, hQB⟩ : ∃ q, w5.heap.size = q := ⟨_, rfl⟩
      have HRQ : Hid (w.heap.size < QB) := Lib.hid (by have := HWP.out; have := HPQ.out; omega)
      rw [hQB] at HQ7
      refine (CO.out _ HR7.out).mono ?_
      rintro e w8 ⟨rfl, b8⟩
      have HS8 := Lib.hid (HS7.out.next b8)
      have HG8 := Lib.hid (grown_trans HG7.out (grown_of_below b8))
      have HX8 := Lib.hid (HX7.out.next b8)
      have HQ8 := Lib.hid (HQ7.out.next b8)
      clear b8 HS7 HG7 HX7 HQ7 HR7
      obtain ⟨z, hz⟩ : ∃ z, opB O = z := ⟨_, rfl⟩
      have HZ := Lib.hid hz
      rw [hz]
      rw [hQB]
      clear hz hQB
      cases z
      · go_wp2_with fail
        refine (CB.out r (ok && q) _ _ HS8.out).mono ?_
        rintro e w9 ⟨rfl, s9, g9⟩
        have HS9 := Lib.hid s9
        have HG9 := Lib.hid (grown_trans HG8.out g9)
        have HX9 := Lib.hid (HX8.out.grown g9 (by have := HBB.out.2; intro e; injection e; omega))
        have HQ9 := Lib.hid (HQ8.out.grown g9 (by have := HBB.out.2; have := HRQ.out; intro e; injection e; omega))
        clear s9 g9 HS8 HG8 HX8 HQ8
        have q0 := HQ9.out.cell (i := 0) (v := .int .i64 (K : Int)) rfl
        have q1 := HQ9.out.cell (i := 1) (v := .int .i64 O.a) rfl
        have q2 := HQ9.out.cell (i := 2) (v := .int .i64 O.b) rfl
        have q3 := HQ9.out.cell (i := 3) (v := .int .i64 O.c) rfl
        have q4 := HQ9.out.cell (i := 4) (v := .int .i64 O.d) rfl
        have r0 := HX9.out.cell (i := 0) (v := .int .i64 0) rfl
        have z0 := HX9.out.free 0
        have r1 := HX9.out.cell (i := 1) (v := .int .i64 0) rfl
        have z1 := HX9.out.free 1
        have r2 := HX9.out.cell (i := 2) (v := .int .i64 0) rfl
        have z2 := HX9.out.free 2
        have r3 := HX9.out.cell (i := 3) (v := .int .i64 0) rfl
        have z3 := HX9.out.free 3
        have r4 := HX9.out.cell (i := 4) (v := .int .i64 0) rfl
        have z4 := HX9.out.free 4
        have hRQ : w.heap.size < QB := HRQ.out
        clear HQ9
        go_wp2_with fail
        exact bodyPost_ret (results_cell_row rfl _ _ w.heap.size 25 #[.int .i64 (K : Int), .int .i64 O.a, .int .i64 O.b, .int .i64 O.c, .int .i64 O.d] (0, 0) _ rfl (fin_ur HX9.out _ _ _ _ _) Tryd.underlying25 rfl (by kernel_rfl)) rfl ⟨O, r, false, ⟨ns, q, HM.out, by rw [HK.out]; exact HO.out.symm, by rw [HK.out, HZ.out]; simp⟩, by unfold Op.v; rw [show O.k = (K : Int) from by rw [← HO.out]; rfl], HRL.out, by rw [Bool.and_false]; exact HS9.out.low HX9.out (by have := HBB.out.2; omega), grown_own HG9.out (grown_ur _ _ _ _ _ _ _) (fun q hq => by injection hq with hq; omega)⟩
      · have q0 := HQ8.out.cell (i := 0) (v := .int .i64 (K : Int)) rfl
        have q1 := HQ8.out.cell (i := 1) (v := .int .i64 O.a) rfl
        have q2 := HQ8.out.cell (i := 2) (v := .int .i64 O.b) rfl
        have q3 := HQ8.out.cell (i := 3) (v := .int .i64 O.c) rfl
        have q4 := HQ8.out.cell (i := 4) (v := .int .i64 O.d) rfl
        have r0 := HX8.out.cell (i := 0) (v := .int .i64 0) rfl
        have z0 := HX8.out.free 0
        have r1 := HX8.out.cell (i := 1) (v := .int .i64 0) rfl
        have z1 := HX8.out.free 1
        have r2 := HX8.out.cell (i := 2) (v := .int .i64 0) rfl
        have z2 := HX8.out.free 2
        have r3 := HX8.out.cell (i := 3) (v := .int .i64 0) rfl
        have z3 := HX8.out.free 3
        have r4 := HX8.out.cell (i := 4) (v := .int .i64 0) rfl
        have z4 := HX8.out.free 4
        have hRQ : w.heap.size < QB := HRQ.out
        clear HQ8
        go_wp2_with fail
        exact bodyPost_ret (results_cell_row rfl _ _ w.heap.size 25 #[.int .i64 (K : Int), .int .i64 O.a, .int .i64 O.b, .int .i64 O.c, .int .i64 O.d] (0, 0) _ rfl (fin_ur HX8.out _ _ _ _ _) Tryd.underlying25 rfl (by kernel_rfl)) rfl ⟨O, r, q, ⟨ns, q, HM.out, by rw [HK.out]; exact HO.out.symm, by rw [HK.out, HZ.out, HLEN.out]; simp⟩, by unfold Op.v; rw [show O.k = (K : Int) from by rw [← HO.out]; rfl], HRL.out, HS8.out.low HX8.out (by have := HBB.out.2; omega), grown_own HG8.out (grown_ur _ _ _ _ _ _ _) (fun q hq => by injection hq with hq; omega)⟩
    · have HLEN : Hid (¬ ns.length = formK K) := Lib.hid (by omega)
      obtain ⟨QB, hQB⟩ : ∃ q, w5.heap.size = q := ⟨_, rfl⟩
      have HRQ : Hid (w.heap.size < QB) := Lib.hid (by have := HWP.out; have := HPQ.out; omega)
      rw [hQB] at HQ7 ⊢
      clear hQB
      refine (CB.out r (ok && q) _ _ HS7.out).mono ?_
      rintro e w8 ⟨rfl, s8, g8⟩
      have HS8 := Lib.hid s8
      have HG8 := Lib.hid (grown_trans HG7.out g8)
      have HX8 := Lib.hid (HX7.out.grown g8 (by have := HBB.out.2; intro e; injection e; omega))
      have HQ8 := Lib.hid (HQ7.out.grown g8 (by have := HBB.out.2; have := HRQ.out; intro e; injection e; omega))
      clear s8 g8 HS7 HG7 HX7 HQ7
      have q0 := HQ8.out.cell (i := 0) (v := .int .i64 (K : Int)) rfl
      have q1 := HQ8.out.cell (i := 1) (v := .int .i64 O.a) rfl
      have q2 := HQ8.out.cell (i := 2) (v := .int .i64 O.b) rfl
      have q3 := HQ8.out.cell (i := 3) (v := .int .i64 O.c) rfl
      have q4 := HQ8.out.cell (i := 4) (v := .int .i64 O.d) rfl
      have r0 := HX8.out.cell (i := 0) (v := .int .i64 0) rfl
      have z0 := HX8.out.free 0
      have r1 := HX8.out.cell (i := 1) (v := .int .i64 0) rfl
      have z1 := HX8.out.free 1
      have r2 := HX8.out.cell (i := 2) (v := .int .i64 0) rfl
      have z2 := HX8.out.free 2
      have r3 := HX8.out.cell (i := 3) (v := .int .i64 0) rfl
      have z3 := HX8.out.free 3
      have r4 := HX8.out.cell (i := 4) (v := .int .i64 0) rfl
      have z4 := HX8.out.free 4
      have hRQ : w.heap.size < QB := HRQ.out
      clear HQ8
      go_wp2_with fail
      exact bodyPost_ret (results_cell_row rfl _ _ w.heap.size 25 #[.int .i64 (K : Int), .int .i64 O.a, .int .i64 O.b, .int .i64 O.c, .int .i64 O.d] (0, 0) _ rfl (fin_ur HX8.out _ _ _ _ _) Tryd.underlying25 rfl (by kernel_rfl)) rfl ⟨O, r, false, ⟨ns, q, HM.out, by rw [HK.out]; exact HO.out.symm, by rw [HK.out, decide_eq_false HLEN.out]; simp⟩, by unfold Op.v; rw [show O.k = (K : Int) from by rw [← HO.out]; rfl], HRL.out, by rw [Bool.and_false]; exact HS8.out.low HX8.out (by have := HBB.out.2; omega), grown_own HG8.out (grown_ur _ _ _ _ _ _ _) (fun q hq => by injection hq with hq; omega)⟩
end Go.Proofs.YtbejafbpipdbjaaDoor
