/-
  bytes.Repeat of four bytes. Conditions: the bytes are read from memory that was there; at least one copy and at most 36.
-/
import Derived.Test.YtnnpjcbdcjdojaaPushAll
import Derived.Test.YtnnpjcbdcjdojaaRegT
import Derived.Laws.CopyOwn
import Derived.Laws.Externs
import Derived.Lib.MakeNoZero
import Derived.Lib.Repeat
namespace Go.Proofs.Ytnnpjcbdcjdojaa
set_option maxRecDepth 4000
open Go.RowKit

theorem and_u64 (c : Nat) (h : c ≤ 36) : bits .and .u64 (c : Int) 4294967295 = (c : Int) := by
  have : ∀ k : Fin 37, bits .and .u64 ((k.val : Nat) : Int) 4294967295 = ((k.val : Nat) : Int) := by decide
  exact this ⟨c, by omega⟩
set_option maxHeartbeats 1000000 in
theorem mul64_four (c : Nat) (hc : c ≤ 36) (w : World) :
    Calls Try.prog 118 #[.int .u64 4, .int .u64 (c : Int)] w fun e w' => e = .returned (.tuple #[.int .u64 0, .int .u64 (4 * (c : Int))]) ∧ w = w' := by
  have h1 := and_u64 c hc
  have h2 : (c : Int) / 4294967296 = 0 := by omega
  have h3 : (4 * (c : Int)) / 4294967296 = 0 := by omega
  have h4 : bits .and .u64 4 4294967295 = 4 := by decide
  have h6 : bits .and .u64 0 4294967295 = 0 := by decide
  have h7 : IntKind.u64.wrap (4 * (c : Int)) = 4 * (c : Int) := IntWalk.u64_in _ (by omega)
  have h5 : (c : Int) ≤ 36 := by omega
  go_enter Try.func118, Try.ntmps118
  go_wp2_with fail
  go_ret2
  exact ⟨rfl, rfl⟩
set_option maxHeartbeats 1000000 in
theorem mul_four (c : Nat) (hc : c ≤ 36) (w : World) :
    Calls Try.prog 115 #[.int .u64 4, .int .u64 (c : Int)] w fun e w' => e = .returned (.tuple #[.int .u64 0, .int .u64 (4 * (c : Int))]) ∧ w = w' := by
  have C := Lib.hid fun w => mul64_four c hc w
  go_enter Try.func115, Try.ntmps115
  go_wp2_with fail
  refine (C.out _).mono ?_
  rintro e w' ⟨rfl, rfl⟩
  go_wp2_with fail
  go_ret2
  exact ⟨rfl, rfl⟩
theorem addr_add (b o j : Nat) : (⟨b, o, none⟩ : Addr).add j = ⟨b, o + j, none⟩ := by
  unfold Addr.add
  split
  · rename_i h
    rw [h]
    rfl
  · rfl
theorem below_drew1r {B : Nat} {a w : World} (h : Below B a w) : Below B a w.drew := ⟨h.os, h.tape, h.output, h.size, h.block⟩
/-- The first cells of a row. -/
theorem has_row {w : World} {g : Nat} {cur : List Value} {t : TypeId} {l : List UInt8} {B : Nat} (h : w.heap[g]? = some (.cells cur.toArray t (0, 0))) (hB : g < B) (hl : cur.take l.length = l.map bv) : Has w B (some ⟨g, 0, none⟩) l := by
  refine .inr ⟨g, 0, rfl, hB, fun j y hy => ?_⟩
  have hj : j < l.length := (List.getElem?_eq_some_iff.1 hy).1
  show w.cell? ⟨g, 0 + j, none⟩ = _
  rw [cell_of_row w g (0 + j) _ _ _ h, Nat.zero_add]
  have e : (cur.take l.length)[j]? = (l.map bv)[j]? := by rw [hl]
  rw [List.getElem?_take_of_lt hj, List.getElem?_map, hy] at e
  simpa [bv] using e
set_option maxHeartbeats 4000000 in
theorem repeat_four (b o c' c : Nat) (x : List UInt8) (w : World) (hx : x.length = 4) (hc1 : 1 ≤ c) (hc : c ≤ 36) (h : Has w w.heap.size (some ⟨b, o, none⟩) x) :
    Calls Try.prog 113 #[.slice (some ⟨b, o, none⟩) 4 c', .int .i64 (c : Int)] w fun e w' => e = .returned (.slice (some ⟨w.heap.size, 0, none⟩) (4 * c) (4 * c)) ∧ Has w' w'.heap.size (some ⟨w.heap.size, 0, none⟩) (Lib.repeatL x c) ∧ Below w.heap.size w w' := by
  obtain ⟨n, hn⟩ : ∃ n, 4 * c = n := ⟨_, rfl⟩
  have C := Lib.hid fun w => mul_four c hc w
  obtain ⟨cs, hrunM, hle, -⟩ := Lib.run_makeNoZero (P := Try.prog) w #[3] 22 5 Try.underlying22 n (by omega)
  have hcall : (callFunc 116 #[.int .i64 (n : Int)]).run Try.prog w = .ok (.value (.slice (some ⟨w.heap.size, 0, none⟩) n cs.size)) (w.drew.drew.alloc (.cells cs 5)) := by
    rw [run_callFunc_extern Try.func116 (by kernel_rfl) (by kernel_rfl) (by kernel_rfl) (e := Extern.BytealgMakeNoZero.makeNoZero #[3] #[22]) (by kernel_rfl), hrunM]
    rfl
  clear hrunM
  have hnI : 4 * (c : Int) = (n : Int) := by omega
  have hcn : (c : Int) ≤ 36 := by omega
  have hc1I : 1 ≤ (c : Int) := by omega
  have hnn : (n : Int) ≤ 144 := by omega
  have hn4 : 4 ≤ (n : Int) := by omega
  have i1 : (n : Int) ≤ (cs.size : Int) := by omega
  rw [hnI] at C
  rw [hn]
  have HX := Lib.hid hx
  have HH := Lib.hid h
  have HN := Lib.hid hn
  have HLE := Lib.hid hle
  have hx1 : ∀ v ∈ x.map bv, v.oneCell' = true := bvs_one x
  obtain ⟨X, hX⟩ : ∃ X, x.map bv = X := ⟨_, rfl⟩
  have hXl : X.length = 4 := by rw [← hX, List.length_map, hx]
  have hsrc : ∀ (j : Nat) v, X[j]? = some v → (w.alloc (.cells cs 5)).drew.drew.cell? ((⟨b, o, none⟩ : Addr).add j) = some v := fun j v hv => by
    rw [← hX, List.getElem?_map] at hv
    obtain ⟨y, hy, rfl⟩ := Option.map_eq_some_iff.1 hv
    have hj : j < x.length := (List.getElem?_eq_some_iff.1 hy).1
    obtain ⟨b', o', y', e, -, hy', hcl⟩ := (h.below ((Below.refl _ w).alloc (Nat.le_refl _) (.cells cs 5))).spot hj
    injection e with e
    injection e with e1 e2 _
    subst e1 e2
    rw [hy] at hy'
    injection hy' with hy'
    subst hy'
    rw [addr_add]
    exact hcl
  have hcp := run_copy_row (P := Try.prog) ((w.alloc (.cells cs 5)).drew.drew) 22 22 3 5 w.heap.size 0 n n ⟨b, o, none⟩ 4 c' cs 5 X Try.underlying22 (by kernel_rfl) (heap_alloc_new w _) (by rw [hXl]; exact (Nat.min_eq_left (by omega)).symm) hsrc (by omega) (by rw [← hX]; exact hx1)
  have hrow := setRow_heap ((w.alloc (.cells cs 5)).drew.drew) w.heap.size cs (cs.toList.take 0 ++ X ++ cs.toList.drop (0 + X.length)).toArray 5 (0, 0) (heap_alloc_new w _)
  have hbel : Below w.heap.size w (((w.alloc (.cells cs 5)).drew.drew).setRow w.heap.size (cs.toList.take 0 ++ X ++ cs.toList.drop (0 + X.length)).toArray) := below_setRow (below_draws (below_draws ((Below.refl _ w).alloc (Nat.le_refl _) _) 1) 1) (Nat.le_refl _) _
  obtain ⟨w2, hw2⟩ : ∃ w2, ((w.alloc (.cells cs 5)).drew.drew).setRow w.heap.size (cs.toList.take 0 ++ X ++ cs.toList.drop (0 + X.length)).toArray = w2 := ⟨_, rfl⟩
  rw [hw2] at hcp hrow hbel
  rw [hXl] at hcp
  have HROW : Hid (∃ cur : List Value, w2.heap[w.heap.size]? = some (.cells cur.toArray 5 (0, 0)) ∧ n ≤ cur.length ∧ cur.take (4 * 1) = (Lib.repeatL x 1).map bv) := Lib.hid ⟨_, hrow, by simp; omega, by
    rw [Lib.repeatL_one, hX, List.take_zero, List.nil_append, List.take_append_of_le_length (by omega), ← hXl, Nat.mul_one, List.take_length]⟩
  have HBEL := Lib.hid hbel
  clear hx h hn hle hnI hrow hbel hw2 hsrc hx1 hX hXl
  go_enter Try.func113, Try.ntmps113
  go_wp2_with fail
  refine (C.out _).mono ?_
  rintro e w' ⟨rfl, rfl⟩
  go_wp2_with fail
  clear hcall hcp
  go_loopw [10, 11] (fun v10 _ wr => ∃ q : Nat, 1 ≤ q ∧ q ≤ c ∧ v10 = .int .i64 ((4 * q : Nat) : Int) ∧ (∃ cur : List Value, wr.heap[w.heap.size]? = some (.cells cur.toArray 5 (0, 0)) ∧ n ≤ cur.length ∧ cur.take (4 * q) = (Lib.repeatL x q).map bv) ∧ Below w.heap.size w wr) (fun v10 _ _ => n - (intOf v10).toNat)
  case atStart => exact ⟨1, Nat.le_refl _, by omega, rfl, HROW.out, HBEL.out⟩
  case round =>
    clear HROW HBEL
    obtain ⟨q, hq1, hqc, rfl, ⟨cur, hcur, hcl, htk⟩, hB⟩ := hrel
    obtain ⟨m, hm⟩ : ∃ m, 4 * q = m := ⟨_, rfl⟩
    rw [hm] at htk ⊢
    have hN := HN.out
    have HM := Lib.hid hm
    have HCUR := Lib.hid hcur
    have HCL := Lib.hid hcl
    have HTK := Lib.hid htk
    have HB := Lib.hid hB
    clear hcur hcl htk hB hm
    by_cases hlt : q < c
    · have hmn : (m : Int) < (n : Int) := by have := HM.out; omega
      have hmi : ¬ (n : Int) < (m : Int) := by omega
      obtain ⟨k, hk⟩ : ∃ k, min q (c - q) = k := ⟨_, rfl⟩
      have hk1 : 1 ≤ k := by omega
      have hkq : k ≤ q := by omega
      have hkc : q + k ≤ c := by omega
      have hkm : 4 * k = Nat.min m (n - m) := by
        have e1 := HM.out
        have : min m (n - m) = 4 * k := by omega
        exact this.symm
      obtain ⟨X, hX⟩ : ∃ X, (Lib.repeatL x k).map bv = X := ⟨_, rfl⟩
      have hrl : ∀ j, (Lib.repeatL x j).length = 4 * j := fun j => by rw [Lib.repeatL_length, HX.out, Nat.mul_comm]
      have hXl : X.length = 4 * k := by rw [← hX, List.length_map, hrl]
      have HXO : Hid (∀ v ∈ X, v.oneCell' = true) := Lib.hid (by rw [← hX]; exact bvs_one _)
      have HXS : Hid (cur.take (4 * k) = X) := Lib.hid (by
        have h1 : (cur.take m).take (4 * k) = cur.take (4 * k) := by rw [List.take_take, Nat.min_eq_left (by have := HM.out; omega)]
        rw [← h1, HTK.out, ← List.map_take, ← hX]
        have := Lib.repeatL_take x q k hkq
        rw [HX.out, Nat.mul_comm] at this
        rw [this])
      have HSR : Hid (∀ (j : Nat) v, X[j]? = some v → wr.cell? ((⟨w.heap.size, 0, none⟩ : Addr).add j) = some v) := Lib.hid fun j v hv => by
        have hj := (List.getElem?_eq_some_iff.1 hv).1
        rw [← HXS.out, List.getElem?_take_of_lt (by rw [HXS.out] at hv; omega)] at hv
        have := cell_of_row wr w.heap.size j _ _ _ HCUR.out
        rw [addr_add, Nat.zero_add, this]
        simpa using hv
      have HNX : Hid ((splice cur m X).take (4 * (q + k)) = (Lib.repeatL x (q + k)).map bv ∧ n ≤ (splice cur m X).length) := Lib.hid (by
        have hc := HCL.out
        have e1 := HM.out
        refine ⟨?_, by rw [length_splice _ _ _ (by omega)]; exact hc⟩
        unfold splice
        rw [← List.append_assoc, List.take_append_of_le_length (by simp; omega), List.take_of_length_le (by simp; omega), HTK.out, ← hX, ← List.map_append, ← Lib.repeatL_add])
      have hXI : (X.length : Int) = 4 * (k : Int) := by omega
      have HXL := Lib.hid hXl
      have HKM := Lib.hid hkm
      have hpm : 0 ≤ (m : Int) := by omega
      clear hX hrl hXl hk hkm
      go_wp2_with fail
      have hpn : 0 ≤ (n : Int) := by omega
      have hmn2 : m < n := by omega
      have hmn3 : m ≤ n := by omega
      have hmn4 : ¬ n = m := by omega
      have hwk : IntKind.i64.wrap ((m : Int) + 4 * (k : Int)) = (m : Int) + 4 * (k : Int) := IntWalk.i64_in _ (by have := HN.out; have := HM.out; omega)
      refine wp_region_T (fun _ => True) 9 (by kernel_rfl) ?_
      refine wpAnyT_take (i := 0) (d := 67) (v := .int .i64 (m : Int)) rfl rfl (by kernel_rfl) (by kernel_rfl) (by kernel_rfl) (by kernel_rfl) (by kernel_rfl) (fun _ _ _ h => h) trivial (Or.inl ⟨by rfl, fun w' hS' => ?_⟩) ?_
      · go_simp
      simp only [Act.put, List.setIfInBounds_toArray, List.set_cons_zero, List.set_cons_succ]
      refine wpAnyT_take (i := 1) (d := 68) (v := .slice (some ⟨w.heap.size, 0, none⟩) n n) rfl rfl (by kernel_rfl) (by kernel_rfl) (by kernel_rfl) (by kernel_rfl) (by kernel_rfl) (fun _ _ _ h => h) trivial (Or.inl ⟨by rfl, fun w' hS' => ?_⟩) ?_
      · go_simp
      simp only [Act.put, List.setIfInBounds_toArray, List.set_cons_zero, List.set_cons_succ]
      refine wpAnyT_take (i := 2) (d := 69) (v := .int .i64 (m : Int)) rfl rfl (by kernel_rfl) (by kernel_rfl) (by kernel_rfl) (by kernel_rfl) (by kernel_rfl) (fun _ _ _ h => h) trivial (Or.inl ⟨by rfl, fun w' hS' => ?_⟩) ?_
      · go_simp
      simp only [Act.put, List.setIfInBounds_toArray, List.set_cons_zero, List.set_cons_succ]
      refine wpAnyT_take (i := 3) (d := 70) (v := .slice (some ⟨w.heap.size, m, none⟩) (n - m) (n - m)) rfl rfl (by kernel_rfl) (by kernel_rfl) (by kernel_rfl) (by kernel_rfl) (by kernel_rfl) (fun _ _ _ h => h) trivial (Or.inl ⟨by rfl, fun w' hS' => ?_⟩) ?_
      · go_simp
      simp only [Act.put, List.setIfInBounds_toArray, List.set_cons_zero, List.set_cons_succ]
      refine wpAnyT_take (i := 4) (d := 71) (v := .slice (some ⟨w.heap.size, 0, none⟩) n n) rfl rfl (by kernel_rfl) (by kernel_rfl) (by kernel_rfl) (by kernel_rfl) (by kernel_rfl) (fun _ _ _ h => h) trivial (Or.inl ⟨by rfl, fun w' hS' => ?_⟩) ?_
      · go_simp
      simp only [Act.put, List.setIfInBounds_toArray, List.set_cons_zero, List.set_cons_succ]
      refine wpAnyT_take (i := 5) (d := 72) (v := .int .i64 (m : Int)) rfl rfl (by kernel_rfl) (by kernel_rfl) (by kernel_rfl) (by kernel_rfl) (by kernel_rfl) (fun _ _ _ h => h) trivial (Or.inl ⟨by rfl, fun w' hS' => ?_⟩) ?_
      · go_simp
      simp only [Act.put, List.setIfInBounds_toArray, List.set_cons_zero, List.set_cons_succ]
      refine wpAnyT_take (i := 6) (d := 73) (v := .slice (some ⟨w.heap.size, 0, none⟩) m n) rfl rfl (by kernel_rfl) (by kernel_rfl) (by kernel_rfl) (by kernel_rfl) (by kernel_rfl) (fun _ _ _ h => h) trivial (Or.inl ⟨by rfl, fun w' hS' => ?_⟩) ?_
      · go_simp
      simp only [Act.put, List.setIfInBounds_toArray, List.set_cons_zero, List.set_cons_succ]
      refine wpAnyT_one (i := 7) (by kernel_rfl) rfl (fun K hK => ?_)
      refine step_copy_splice rfl (.tmp 70) (.tmp 73) 22 22 rfl 5 Try.underlying22 (by kernel_rfl) (some ⟨w.heap.size, m, none⟩) (some ⟨w.heap.size, 0, none⟩) (n - m) (n - m) m n rfl rfl w.heap.size m cur 5 HCUR.out X (by rw [HXL.out]; exact HKM.out) (fun _ => ⟨rfl, _, rfl, HSR.out⟩) (by have := HCL.out; have := HXL.out; have := HM.out; have := HN.out; omega) HXO.out w.heap.size w (below_drew1r HB.out) (Nat.le_refl _) ?_
      intro w4 hg4 hb4
      refine hK.out _ _ (fun _ => trivial) ?_
      clear hK
      have HB4 := Lib.hid hb4
      clear hb4
      refine wpAnyT_one (i := 8) (by kernel_rfl) rfl (fun K hK => ?_)
      go_simp
      refine hK.out _ _ (fun _ => trivial) ?_
      clear hK
      refine wpAnyT_one (i := 9) (by kernel_rfl) rfl (fun K hK => ?_)
      go_simp
      refine hK.out _ _ (fun h => last_out h) ?_
      clear hK
      refine wpAnyT_done (by kernel_rfl) ?_ _
      go_wp2_with fail
      go_roundw
      case rel =>
        refine ⟨q + k, by omega, by omega, ?_, ⟨_, hg4.out, HNX.out.2, HNX.out.1⟩, HB4.out⟩
        have e1 := HM.out
        rw [show ((4 * (q + k) : Nat) : Int) = (m : Int) + 4 * (k : Int) from by omega]
      case measure =>
        have e1 := HM.out
        simp [intOf]
        omega
    · obtain rfl : q = c := by omega
      obtain rfl : m = n := by have := HM.out; omega
      have HR : Hid (Has wr wr.heap.size (some ⟨w.heap.size, 0, none⟩) (Lib.repeatL x q)) := Lib.hid (has_row HCUR.out ((Array.getElem?_eq_some_iff.1 HCUR.out).1) (by rw [Lib.repeatL_length, HX.out, Nat.mul_comm, HM.out]; exact HTK.out))
      go_wp2_with fail
      go_ret
      exact ⟨rfl, HR.out, HB.out⟩
end Go.Proofs.Ytnnpjcbdcjdojaa
