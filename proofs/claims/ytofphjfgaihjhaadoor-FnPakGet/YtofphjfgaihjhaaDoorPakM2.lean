/-
  The reference's PakGet. Condition: the bytes are read from memory that was there.
-/
import Derived.Test.YtofphjfgaihjhaaDoorPakSA
import Derived.Test.YtofphjfgaihjhaaDoorBitG
import Derived.Test.YtofphjfgaihjhaaDoorRegT
import Derived.Test.YtofphjfgaihjhaaDoorDrawTurn
import Derived.Test.YtofphjfgaihjhaaDoorBitPI
import Derived.Deep.CutRange
import Derived.Test.YtofphjfgaihjhaaDoorPakM1
namespace Go.Proofs.YtofphjfgaihjhaaDoor
open Go.RowKit

theorem bit_u8 (x s : Nat) : ((x : Int) / 2 ^ s).tmod 2 = ((x / 2 ^ s % 2 : Nat) : Int) := by
  rw [show (x : Int) / 2 ^ s = ((x / 2 ^ s : Nat) : Int) from by simp]
  exact tmod_cast2 _ 2
set_option maxRecDepth 100000 in
set_option maxHeartbeats 1000000 in
theorem l4Rest_any (A : Option Addr) (c : Nat) (l : List UInt8) (a : Nat) (w : World) (hs : l.length ≤ 1048576) (h : Has w w.heap.size A l) :
    Calls Tryd.prog 39 #[.slice A l.length c, .int .i64 (a : Int)] w fun e w' => e = .returned (.bool (restB l a)) ∧ w' = w := by
  have hsI : (l.length : Int) ≤ 1048576 := by omega
  have HH := Lib.hid h
  clear h hs
  by_cases ha : 8 * l.length < a
  · have haI : ¬ (a : Int) < 8 * (l.length : Int) := by omega
    have HR : Hid (restB l a = true) := Lib.hid (by unfold restB; rw [decide_eq_true_eq]; intro k hk h2; omega)
    go_enter Tryd.func39, Tryd.ntmps39
    go_wp2
    go_loop [5] (fun i => i = .int .i64 (a : Int)) (fun _ => 0)
    case atStart => rfl
    case round =>
      obtain rfl := hrel
      go_wp2
      go_ret
      exact ⟨by rw [HR.out]; rfl, rfl⟩
  · go_enter Tryd.func39, Tryd.ntmps39
    go_wp2
    go_loop [5] (fun i => ∃ k : Nat, a ≤ k ∧ k ≤ 8 * l.length ∧ i = .int .i64 k ∧ ∀ j, a ≤ j → j < k → bitAt l j = 0) (fun i => 8 * l.length - (intOf i).toNat)
    case atStart => exact ⟨a, Nat.le_refl _, by omega, rfl, fun j h1 h2 => by omega⟩
    case round =>
      obtain ⟨k, hk1, hk2, rfl, hz⟩ := hrel
      have HZ := Lib.hid hz
      clear hz
      by_cases hlt : k < 8 * l.length
      · have hltI : (k : Int) < 8 * (l.length : Int) := by omega
        obtain ⟨i, hi⟩ : ∃ i, k / 8 = i := ⟨_, rfl⟩
        obtain ⟨s, hs'⟩ : ∃ s, k % 8 = s := ⟨_, rfl⟩
        obtain ⟨bb, o, x, rfl, hbB, hx, hc⟩ := HH.out.spot (k := i) (by omega)
        have hbit := bitAt_of (l := l) (a := k) (x := x) (by rw [hi]; exact hx)
        rw [hs'] at hbit
        have t1 : (k : Int) / 8 = (i : Int) := by omega
        have t2 : (k : Int) % 8 = (s : Int) := by omega
        have hv := bit_u8 x.toNat s
        rw [hbit] at hv
        have hb2 := bitAt_lt l k
        obtain ⟨bt, hbt⟩ : ∃ bt, bitAt l k = bt := ⟨_, rfl⟩
        rw [hbt] at hv hb2
        have HBT := Lib.hid hbt
        have HK := Lib.hid (And.intro hk1 (And.intro hk2 hlt))
        have hs8 : (s : Int) < 8 := by omega
        clear hx hbit hi hs' hbt hk1 hk2 hlt
        have h01 : bt = 0 ∨ bt = 1 := by omega
        clear hb2
        rcases h01 with rfl | rfl
        · have hv0 : ((x.toNat : Int) / 2 ^ s).tmod 2 = 0 := hv
          clear hv
          go_wp2
          go_round
          case rel =>
            refine ⟨k + 1, by have := HK.out; omega, by have := HK.out; omega, by go_num, fun j h1 h2 => ?_⟩
            rcases Nat.lt_succ_iff_lt_or_eq.1 h2 with h | rfl
            · exact HZ.out j h1 h
            · exact HBT.out
          case measure => have := HK.out; simp [intOf]; omega
        · have HR : Hid (restB l a = false) := Lib.hid (by
            unfold restB
            rw [decide_eq_false_iff_not]
            intro hh
            have := hh k HK.out.2.2 HK.out.1
            rw [HBT.out] at this
            cases this)
          have hv1 : ((x.toNat : Int) / 2 ^ s).tmod 2 = 1 := hv
          clear hv
          go_wp2
          go_ret
          exact ⟨by rw [HR.out]; rfl, rfl⟩
      · obtain rfl : k = 8 * l.length := by omega
        have HR : Hid (restB l a = true) := Lib.hid (by unfold restB; rw [decide_eq_true_eq]; intro j hj h2; exact HZ.out j h2 hj)
        clear hlt hk1 hk2
        go_wp2
        go_ret
        exact ⟨by rw [HR.out]; rfl, rfl⟩
end Go.Proofs.YtofphjfgaihjhaaDoor
namespace Go.Proofs.YtofphjfgaihjhaaDoor
open Go.RowKit

theorem Has.byte0 {w : World} {B lb lo : Nat} {l : List UInt8} {x : UInt8} (h : Has w B (some ⟨lb, lo, none⟩) l) (hx : l[0]? = some x) : w.cell? ⟨lb, lo, none⟩ = some (.int .u8 (x.toNat : Int)) := by
  rcases h with rfl | ⟨b, o, e, _, hc⟩
  · simp at hx
  · injection e with e
    injection e with e1 e2 _
    subst e1 e2
    exact hc 0 x hx
/-- What l4Bytes answers. -/
def BytesOut (X : Option Nat) (b : List UInt8) (w : World) (e : Ending) (w' : World) : Prop := ∃ A c, e = .returned (.slice A b.length c) ∧ b.length ≤ c ∧ HasV w' X A b ∧ Below w.heap.size w w'
theorem own_ne_X {w w' : World} {X : Option Nat} {v : Value} {l : List UInt8} (hX : ∀ q, X = some q → q < w.heap.size) (ho : Own w' w.heap.size v l) : v.ownBlock ≠ X ∨ X = none := by
  cases hx : X with
  | none => exact .inr rfl
  | some q =>
    refine .inl fun e => ?_
    have h1 := hX q hx
    have h2 := (World.ownsRow.lt ho q e).1
    omega
set_option maxRecDepth 100000 in
set_option maxHeartbeats 2000000 in
theorem l4Bytes_new (cA : Nat) (A : Option Addr) (met : List (List UInt8)) (lb lo lc : Nat) (last : List UInt8) (x : UInt8) (X : Option Nat) (w : World) (hx : last[0]? = some x) (hll : last.length ≤ 300) (hm : met.length < 255) (hl : Has w w.heap.size (some ⟨lb, lo, none⟩) last) (hX : ∀ q, X = some q → q < w.heap.size) :
    Calls Tryd.prog 40 #[.slice A met.length cA, .slice (some ⟨lb, lo, none⟩) last.length lc, .int .i64 ((257 + met.length : Nat) : Int)] w (BytesOut X (last ++ [x]) w) := by
  have hlen : 0 < last.length := (List.getElem?_eq_some_iff.1 hx).1
  have HL := Lib.hid hl
  have HX := Lib.hid hx
  have HLL := Lib.hid hll
  have HFIN : Hid (∀ (w7 : World) g7 c7, Own w7 w.heap.size (.slice (some ⟨g7, 0, none⟩) (last.length + [x].length) c7) (last ++ [x]) → Below w.heap.size w w7 → BytesOut X (last ++ [x]) w (.returned (.slice (some ⟨g7, 0, none⟩) (last.length + [x].length) c7)) w7) := Lib.hid (fun w7 g7 c7 ho hb => by
    obtain ⟨A8, c8, e8, hc8, -⟩ := ho.has
    injection e8 with e1 e2 e3
    subst e1 e3
    exact ⟨_, _, by rw [List.length_append], hc8, ho.hasV (own_ne_X hX ho), hb⟩)
  obtain ⟨cd, hcd⟩ : ∃ cd : Int, ((257 + met.length : Nat) : Int) = cd := ⟨_, rfl⟩
  rw [hcd]
  have h1 : ¬ cd < 256 := by omega
  have h3' : cd - 257 = (met.length : Int) := by omega
  have h3 : (met.length : Int) < 255 := by omega
  have h5 : cd < 512 := by omega
  have hlI : 0 < (last.length : Int) := by omega
  have HS0 : w.drew.cell? ⟨lb, lo, none⟩ = some (.int .u8 (x.toNat : Int)) := hl.byte0 hx
  clear hl hx hll hm hcd hX
  go_enter Tryd.func40, Tryd.ntmps40
  go_upto_region 7 with fail
  refine wp_region_T (fun w' => w'.cell? ⟨lb, lo, none⟩ = some (.int .u8 (x.toNat : Int))) 8 (by kernel_rfl) ?_
  refine wpAnyT_take (i := 1) (d := 37) (v := .slice (some ⟨lb, lo, none⟩) last.length lc) rfl rfl (by kernel_rfl) (by kernel_rfl) (by kernel_rfl) (by kernel_rfl) (by kernel_rfl) (fun _ _ _ h => h) HS0 (Or.inl ⟨by rfl, fun w' hS' => ?_⟩) ?_
  · go_simp
  simp only [Act.put, List.setIfInBounds_toArray, List.set_cons_zero, List.set_cons_succ]
  refine wpAnyT_take (i := 3) (d := 39) (v := .slice (some ⟨lb, lo, none⟩) last.length lc) rfl rfl (by kernel_rfl) (by kernel_rfl) (by kernel_rfl) (by kernel_rfl) (by kernel_rfl) (fun _ _ _ h => h) HS0 (Or.inl ⟨by rfl, fun w' hS' => ?_⟩) ?_
  · go_simp
  simp only [Act.put, List.setIfInBounds_toArray, List.set_cons_zero, List.set_cons_succ]
  refine wpAnyT_take (i := 4) (d := 40) (v := .pointer (some ⟨lb, lo, none⟩)) rfl rfl (by kernel_rfl) (by kernel_rfl) (by kernel_rfl) (by kernel_rfl) (by kernel_rfl) (fun _ _ _ h => h) HS0 (Or.inl ⟨by rfl, fun w' hS' => ?_⟩) ?_
  · go_simp
  simp only [Act.put, List.setIfInBounds_toArray, List.set_cons_zero, List.set_cons_succ]
  refine wpAnyT_take (i := 5) (d := 41) (v := .int .u8 (x.toNat : Int)) rfl rfl (by kernel_rfl) (by kernel_rfl) (by kernel_rfl) (by kernel_rfl) (by kernel_rfl) (fun _ _ _ h => h) HS0 (Or.inl ⟨by rfl, fun w' hS' => ?_⟩) ?_
  · go_simp
  simp only [Act.put, List.setIfInBounds_toArray, List.set_cons_zero, List.set_cons_succ]
  refine wpAnyT_two (i := 0) (j := 6) (by kernel_rfl) rfl rfl (fun K hK => ?_) (fun K hK => ?_)
  · go_simp
    have hbwa : Below w.heap.size w (w.alloc (.cells #[] 5)).drew := below_drew1 ((Below.refl _ w).alloc (Nat.le_refl _) _)
    obtain ⟨g0, hg0⟩ : ∃ g0, w.heap.size = g0 := ⟨_, rfl⟩
    have howa : Own (w.alloc (.cells #[] 5)).drew w.heap.size (.slice (some ⟨g0, 0, none⟩) 0 0) [] := by rw [← hg0]; exact own_empty (w := w) (Nat.le_refl _)
    rw [hg0]
    refine hK.out _ _ (fun _ => (HL.out.below hbwa).byte0 HX.out) ?_
    clear hK hg0
    generalize (w.alloc (.cells #[] 5)).drew = wa at *
    refine wpAnyT_two (i := 2) (j := 6) (by kernel_rfl) rfl rfl (fun K hK => ?_) (fun K hK => ?_)
    · refine step_pushAllB rfl (.tmp 36) (.tmp 37) rfl w.heap.size (.slice (some ⟨g0, 0, none⟩) 0 0) [] rfl howa w.heap.size ⟨lb, lo, none⟩ lc last.length last rfl rfl (HL.out.below hbwa) (by have := HLL.out; simp; omega) hbwa.size ?_
      intro vwb wb howb hgwb
      rw [List.nil_append] at howb
      obtain ⟨Awb, cwb, rfl, -, -⟩ := howb.has
      have hbwb := hbwa.grown hgwb hbwa.size (fun q hq => (World.ownsRow.lt howa q hq).1)
      refine hK.out _ _ (fun _ => (HL.out.below hbwb).byte0 HX.out) ?_
      clear hK
      try simp only [Act.put, List.setIfInBounds_toArray]
      refine wpAnyT_one (i := 6) (by kernel_rfl) rfl (fun K hK => ?_)
      go_simp
      have hbwc : Below w.heap.size w (wb.alloc (.cells #[.int .u8 (x.toNat : Int)] 5)) := (hbwb.alloc hbwb.size _)
      have hxwc : (wb.alloc (.cells #[.int .u8 (x.toNat : Int)] 5)).heap[wb.heap.size]? = some (.cells #[.int .u8 (x.toNat : Int)] 5 (0, 0)) := heap_alloc_new wb _
      have howc : Own (wb.alloc (.cells #[.int .u8 (x.toNat : Int)] 5)) w.heap.size (.slice Awb last.length cwb) last := World.ownsRow.alloc (w := wb) howb _
      have hnewc : ∀ q, ((.slice Awb last.length cwb) : Value).ownBlock = some q → wb.heap.size ≠ q := fun q hq e => by have := (World.ownsRow.lt howb q hq).2; omega
      obtain ⟨H, hH⟩ : ∃ H, wb.heap.size = H := ⟨_, rfl⟩
      rw [hH] at hxwc hnewc ⊢
      refine hK.out _ _ (fun _ => (HL.out.below hbwc).byte0 HX.out) ?_
      clear hK hH
      generalize (wb.alloc (.cells #[.int .u8 (x.toNat : Int)] 5)) = wc at *
      refine wpAnyT_one (i := 7) (by kernel_rfl) rfl (fun K hK => ?_)
      refine step_push rfl (.tmp 38) (.tmp 42) rfl w.heap.size (.slice Awb last.length cwb) last rfl howc ⟨H, 0, none⟩ 1 [x] rfl (fun j u hu => World.news_of_block hxwc j _ (by
        match j, hu with
        | 0, hu => simp at hu; subst hu; rfl)) (by simp) (by have := HLL.out; simp; omega) hbwc.size ?_
      intro g7 c7 w7 ho7 hg7
      have hb7 := hbwc.grown hg7 hbwc.size (fun q hq => (World.ownsRow.lt howc q hq).1)
      refine hK.out _ _ (fun _ => (HL.out.below hb7).byte0 HX.out) ?_
      clear hK
      try simp only [Act.put, List.setIfInBounds_toArray]
      have HF := Lib.hid (HFIN.out w7 g7 c7 ho7 hb7)
      refine wpAnyT_one (i := 8) (by kernel_rfl) rfl (fun K hK => ?_)
      go_simp
      refine hK.out _ _ (fun _ => (HL.out.below hb7).byte0 HX.out) ?_
      clear hK ho7 hg7 hb7
      refine wpAnyT_done (by kernel_rfl) ?_ _
      go_wp2_with fail
      go_ret
      exact HF.out
    · go_simp
      have hbwb : Below w.heap.size w (wa.alloc (.cells #[.int .u8 (x.toNat : Int)] 5)) := (hbwa.alloc hbwa.size _)
      have hxwb : (wa.alloc (.cells #[.int .u8 (x.toNat : Int)] 5)).heap[wa.heap.size]? = some (.cells #[.int .u8 (x.toNat : Int)] 5 (0, 0)) := heap_alloc_new wa _
      have howb : Own (wa.alloc (.cells #[.int .u8 (x.toNat : Int)] 5)) w.heap.size (.slice (some ⟨g0, 0, none⟩) 0 0) [] := World.ownsRow.alloc (w := wa) howa _
      have hnewb : ∀ q, ((.slice (some ⟨g0, 0, none⟩) 0 0) : Value).ownBlock = some q → wa.heap.size ≠ q := fun q hq e => by have := (World.ownsRow.lt howa q hq).2; omega
      obtain ⟨H, hH⟩ : ∃ H, wa.heap.size = H := ⟨_, rfl⟩
      rw [hH] at hxwb hnewb ⊢
      refine hK.out _ _ (fun _ => (HL.out.below hbwb).byte0 HX.out) ?_
      clear hK hH
      generalize (wa.alloc (.cells #[.int .u8 (x.toNat : Int)] 5)) = wb at *
      refine wpAnyT_one (i := 2) (by kernel_rfl) rfl (fun K hK => ?_)
      refine step_pushAllB rfl (.tmp 36) (.tmp 37) rfl w.heap.size (.slice (some ⟨g0, 0, none⟩) 0 0) [] rfl howb w.heap.size ⟨lb, lo, none⟩ lc last.length last rfl rfl (HL.out.below hbwb) (by have := HLL.out; simp; omega) hbwb.size ?_
      intro vwc wc howc hgwc
      rw [List.nil_append] at howc
      obtain ⟨Awc, cwc, rfl, -, -⟩ := howc.has
      have hbwc := hbwb.grown hgwc hbwb.size (fun q hq => (World.ownsRow.lt howb q hq).1)
      have hxwc : wc.heap[H]? = some (.cells #[.int .u8 (x.toNat : Int)] 5 (0, 0)) := (hgwc.block H (Array.getElem?_eq_some_iff.1 hxwb).1 (fun e => by simp [Value.ownBlock] at e; exact (hnewb g0 rfl) e)).trans hxwb
      refine hK.out _ _ (fun _ => (HL.out.below hbwc).byte0 HX.out) ?_
      clear hK
      simp only [Act.put]
      refine wpAnyT_one (i := 7) (by kernel_rfl) rfl (fun K hK => ?_)
      refine step_push rfl (.tmp 38) (.tmp 42) rfl w.heap.size (.slice Awc last.length cwc) last rfl howc ⟨H, 0, none⟩ 1 [x] rfl (fun j u hu => World.news_of_block hxwc j _ (by
        match j, hu with
        | 0, hu => simp at hu; subst hu; rfl)) (by simp) (by have := HLL.out; simp; omega) hbwc.size ?_
      intro g7 c7 w7 ho7 hg7
      have hb7 := hbwc.grown hg7 hbwc.size (fun q hq => (World.ownsRow.lt howc q hq).1)
      refine hK.out _ _ (fun _ => (HL.out.below hb7).byte0 HX.out) ?_
      clear hK
      try simp only [Act.put, List.setIfInBounds_toArray]
      have HF := Lib.hid (HFIN.out w7 g7 c7 ho7 hb7)
      refine wpAnyT_one (i := 8) (by kernel_rfl) rfl (fun K hK => ?_)
      go_simp
      refine hK.out _ _ (fun _ => (HL.out.below hb7).byte0 HX.out) ?_
      clear hK ho7 hg7 hb7
      refine wpAnyT_done (by kernel_rfl) ?_ _
      go_wp2_with fail
      go_ret
      exact HF.out
  · go_simp
    have hbwa : Below w.heap.size w (w.alloc (.cells #[.int .u8 (x.toNat : Int)] 5)).drew := below_drew1 ((Below.refl _ w).alloc (Nat.le_refl _) _)
    have hxwa : (w.alloc (.cells #[.int .u8 (x.toNat : Int)] 5)).drew.heap[w.heap.size]? = some (.cells #[.int .u8 (x.toNat : Int)] 5 (0, 0)) := heap_alloc_new w _
    obtain ⟨H, hH⟩ : ∃ H, w.heap.size = H := ⟨_, rfl⟩
    rw [hH] at hxwa ⊢
    refine hK.out _ _ (fun _ => (HL.out.below hbwa).byte0 HX.out) ?_
    clear hK hH
    generalize (w.alloc (.cells #[.int .u8 (x.toNat : Int)] 5)).drew = wa at *
    refine wpAnyT_one (i := 0) (by kernel_rfl) rfl (fun K hK => ?_)
    go_simp
    have hbwb : Below w.heap.size w (wa.alloc (.cells #[] 5)) := (hbwa.alloc hbwa.size _)
    have hxwb : (wa.alloc (.cells #[] 5)).heap[H]? = some (.cells #[.int .u8 (x.toNat : Int)] 5 (0, 0)) := (Below.heap_alloc wa _ H (Array.getElem?_eq_some_iff.1 hxwa).1).trans hxwa
    have hnewb : H ≠ wa.heap.size := by have := (Array.getElem?_eq_some_iff.1 hxwa).1; omega
    obtain ⟨g0, hg0⟩ : ∃ g0, wa.heap.size = g0 := ⟨_, rfl⟩
    have howb : Own (wa.alloc (.cells #[] 5)) w.heap.size (.slice (some ⟨g0, 0, none⟩) 0 0) [] := by rw [← hg0]; exact own_empty (w := wa) hbwa.size
    rw [hg0] at hnewb ⊢
    refine hK.out _ _ (fun _ => (HL.out.below hbwb).byte0 HX.out) ?_
    clear hK hg0
    generalize (wa.alloc (.cells #[] 5)) = wb at *
    refine wpAnyT_one (i := 2) (by kernel_rfl) rfl (fun K hK => ?_)
    refine step_pushAllB rfl (.tmp 36) (.tmp 37) rfl w.heap.size (.slice (some ⟨g0, 0, none⟩) 0 0) [] rfl howb w.heap.size ⟨lb, lo, none⟩ lc last.length last rfl rfl (HL.out.below hbwb) (by have := HLL.out; simp; omega) hbwb.size ?_
    intro vwc wc howc hgwc
    rw [List.nil_append] at howc
    obtain ⟨Awc, cwc, rfl, -, -⟩ := howc.has
    have hbwc := hbwb.grown hgwc hbwb.size (fun q hq => (World.ownsRow.lt howb q hq).1)
    have hxwc : wc.heap[H]? = some (.cells #[.int .u8 (x.toNat : Int)] 5 (0, 0)) := (hgwc.block H (Array.getElem?_eq_some_iff.1 hxwb).1 (fun e => by simp [Value.ownBlock] at e; exact hnewb e)).trans hxwb
    refine hK.out _ _ (fun _ => (HL.out.below hbwc).byte0 HX.out) ?_
    clear hK
    simp only [Act.put]
    refine wpAnyT_one (i := 7) (by kernel_rfl) rfl (fun K hK => ?_)
    refine step_push rfl (.tmp 38) (.tmp 42) rfl w.heap.size (.slice Awc last.length cwc) last rfl howc ⟨H, 0, none⟩ 1 [x] rfl (fun j u hu => World.news_of_block hxwc j _ (by
      match j, hu with
      | 0, hu => simp at hu; subst hu; rfl)) (by simp) (by have := HLL.out; simp; omega) hbwc.size ?_
    intro g7 c7 w7 ho7 hg7
    have hb7 := hbwc.grown hg7 hbwc.size (fun q hq => (World.ownsRow.lt howc q hq).1)
    refine hK.out _ _ (fun _ => (HL.out.below hb7).byte0 HX.out) ?_
    clear hK
    try simp only [Act.put, List.setIfInBounds_toArray]
    have HF := Lib.hid (HFIN.out w7 g7 c7 ho7 hb7)
    refine wpAnyT_one (i := 8) (by kernel_rfl) rfl (fun K hK => ?_)
    go_simp
    refine hK.out _ _ (fun _ => (HL.out.below hb7).byte0 HX.out) ?_
    clear hK ho7 hg7 hb7
    refine wpAnyT_done (by kernel_rfl) ?_ _
    go_wp2_with fail
    go_ret
    exact HF.out
end Go.Proofs.YtofphjfgaihjhaaDoor
namespace Go.Proofs.YtofphjfgaihjhaaDoor
open Go.RowKit

theorem take1_at {l : List UInt8} {x : UInt8} (h : l[0]? = some x) : l.take 1 = [x] := by
  cases l with
  | nil => simp at h
  | cons y l => simp at h; subst h; rfl
set_option maxRecDepth 100000 in
set_option maxHeartbeats 1000000 in
theorem l4Bytes_any (base cA : Nat) (A : Option Addr) (met : List (List UInt8)) (A' : Option Addr) (c' : Nat) (last : List UInt8) (cd : Nat) (X : Option Nat) (w : World) (hbb : OwnBB w base X (.slice A met.length cA) met) (hl : HasV w X A' last) (hll : last.length ≤ 300) (hm : met.length < 255) (h5 : cd < 512) (h6 : cd ≠ 256) (hX : ∀ q, X = some q → q < w.heap.size) :
    Calls Tryd.prog 40 #[.slice A met.length cA, .slice A' last.length c', .int .i64 (cd : Int)] w (BytesOut X (bytes4 met last cd) w) := by
  by_cases hc : cd < 256
  · obtain ⟨x, rfl⟩ : ∃ x : UInt8, cd = x.toNat := ⟨UInt8.ofNat cd, by simp; omega⟩
    have hx1 : ((x.toNat : Int) < 256) = True := eq_true (by omega)
    have hx2 : IntKind.u8.wrap (x.toNat : Int) = (x.toNat : Int) := by
      show (x.toNat : Int) % 256 = (x.toNat : Int)
      omega
    have hx3 : (x.toNat : Int) % 256 = (x.toNat : Int) := by omega
    have ho : Own (w.alloc (.cells #[.int .u8 (x.toNat : Int)] 5)) w.heap.size (.slice (some ⟨w.heap.size, 0, none⟩) 1 1) [x] := own_lit w x
    have HF : Hid (BytesOut X (bytes4 met last x.toNat) w (.returned (.slice (some ⟨w.heap.size, 0, none⟩) 1 1)) (w.alloc (.cells #[.int .u8 (x.toNat : Int)] 5))) := Lib.hid (by
      have e : bytes4 met last x.toNat = [x] := by unfold bytes4; rw [if_pos hc]; simp
      rw [e]
      exact ⟨_, _, rfl, by simp, ho.hasV (own_ne_X hX ho), (Below.refl _ w).alloc (Nat.le_refl _) _⟩)
    clear hbb hl hll hm h5 h6 hX hc ho
    go_enter Tryd.func40, Tryd.ntmps40
    go_wp2
    go_ret
    exact HF.out
  · obtain ⟨j, rfl⟩ : ∃ j, cd = 257 + j := ⟨cd - 257, by omega⟩
    by_cases hj : j < met.length
    · obtain ⟨g, b, Ab, cb, rfl, hb, hcell, hcb, hbv⟩ := hbb.spot hj
      have HF : Hid (BytesOut X (bytes4 met last (257 + j)) w (.returned (.slice Ab b.length cb)) w) := Lib.hid (by
        have e : bytes4 met last (257 + j) = b := by unfold bytes4; rw [if_neg hc, show 257 + j - 257 = j from by omega, if_pos hj, hb]; rfl
        rw [e]
        exact ⟨_, _, rfl, hcb, hbv, Below.refl _ w⟩)
      obtain ⟨cd, hcd⟩ : ∃ cd : Int, ((257 + j : Nat) : Int) = cd := ⟨_, rfl⟩
      rw [hcd]
      have h1 : ¬ cd < 256 := by omega
      have h3' : cd - 257 = (j : Int) := by omega
      have h3 : (j : Int) < (met.length : Int) := by omega
      have h4 : (met.length : Int) < 255 := by omega
      clear hbb hl hll hm h5 h6 hX hc hb hbv hcb hcd
      go_enter Tryd.func40, Tryd.ntmps40
      go_wp2
      go_ret
      exact HF.out
    · by_cases hq : j = met.length ∧ 0 < last.length
      · obtain ⟨rfl, hlen⟩ := hq
        obtain ⟨lb, lo, x, rfl, -, hx, -⟩ := hl.has.spot hlen
        have e : bytes4 met last (257 + met.length) = last ++ [x] := by
          unfold bytes4
          rw [if_neg hc, show 257 + met.length - 257 = met.length from by omega, if_neg hj, if_pos ⟨rfl, hlen, h5⟩, take1_at hx]
        rw [e]
        exact l4Bytes_new cA A met lb lo c' last x X w hx hll hm hl.has hX
      · have ho : Own (w.alloc (.cells #[] 5)) w.heap.size (.slice (some ⟨w.heap.size, 0, none⟩) 0 0) [] := own_empty (Nat.le_refl _)
        have HF : Hid (BytesOut X (bytes4 met last (257 + j)) w (.returned (.slice (some ⟨w.heap.size, 0, none⟩) 0 0)) (w.alloc (.cells #[] 5))) := Lib.hid (by
          have e : bytes4 met last (257 + j) = [] := by
            unfold bytes4
            rw [if_neg hc, show 257 + j - 257 = j from by omega, if_neg hj, if_neg (fun q => hq ⟨q.1, q.2.1⟩)]
          rw [e]
          exact ⟨_, _, rfl, by simp, .inl rfl, (Below.refl _ w).alloc (Nat.le_refl _) _⟩)
        obtain ⟨cd, hcd⟩ : ∃ cd : Int, ((257 + j : Nat) : Int) = cd := ⟨_, rfl⟩
        rw [hcd]
        have h1 : ¬ cd < 256 := by omega
        have h3' : cd - 257 = (j : Int) := by omega
        have h3 : ¬ (j : Int) < (met.length : Int) := by omega
        have h4 : (j : Int) < 255 := by omega
        by_cases hjm : j = met.length
        · have hl0 : ¬ 0 < (last.length : Int) := by omega
          have hjI : ((j : Int) == (met.length : Int)) = true := beq_iff_eq.2 (by omega)
          clear hbb hl hll hm h5 h6 hX hc hq hcd ho hj hjm
          go_enter Tryd.func40, Tryd.ntmps40
          go_wp2
          go_ret
          exact HF.out
        · have hjI : ((j : Int) == (met.length : Int)) = false := beq_eq_false_iff_ne.2 (by omega)
          clear hbb hl hll hm h5 h6 hX hc hq hcd ho hj hjm
          go_enter Tryd.func40, Tryd.ntmps40
          go_wp2
          go_ret
          exact HF.out
end Go.Proofs.YtofphjfgaihjhaaDoor
namespace Go.Proofs.YtofphjfgaihjhaaDoor
open Go.RowKit

/-- 'append(v, m...)' of some bytes, v the call's own; its block is the old one, or new. -/
theorem wpList_pushAllL {w : World} {ops : Array Oper} {rest : List Oper} {o : Oper} {a : Act} {Q : Exit → Act → World → Prop} (hgd : o.guard = none) (s x : Operand)
    (ho : o.op = .call { callee := .builtin .append, args := #[s, x], argTypes := #[22, 22] })
    (base : Nat) (v : Value) (l : List UInt8) (hs : a.eval s = v) (hown : Own w base v l) (B : Nat) (A : Option Addr) (c : Nat) (m : List UInt8)
    (hx : a.eval x = .slice A m.length c) (hm : Has w B A m) (hm0 : 0 < m.length) (hb : l.length + m.length ≤ 1000000000) (hbase : base ≤ w.heap.size)
    (h : ∀ g cap w', Own w' base (.slice (some ⟨g, 0, none⟩) (l.length + m.length) cap) (l ++ m) → w.grownBy w' v.ownBlock → (v.ownBlock = some g ∨ g = w.heap.size) → wpList Tryd.prog ops Q rest (a.put o.dst (.slice (some ⟨g, 0, none⟩) (l.length + m.length) cap)) w') :
    wpList Tryd.prog ops Q (o :: rest) a w := by
  obtain ⟨i0, hi, hz0, hz1, hz2⟩ := info_parts info8
  obtain ⟨b, o', -, rfl, -⟩ := hm.spot hm0
  refine wpList_append_lies _ hgd s x 22 ho base 5 i0 (.int .u8 0) 1 1 Tryd.underlying22 hi hz0 hz1 hz2 rfl (by omega) v l.length (l.map bv) hs hown ⟨b, o', none⟩ m.length c (m.map bv) hx (by simp) ?_ (bvs_one _) hm0 (by unfold maxLen; omega) (by omega) hbase _ rfl ?_
  · intro j u hu
    simp only [List.getElem?_map, Option.map_eq_some_iff] at hu
    obtain ⟨y, hy, rfl⟩ := hu
    rcases hm with rfl | ⟨b2, o2, e, _, hc⟩
    · simp at hy
    · injection e with e
      injection e with e1 e2 _
      subst e1 e2
      rw [plain_add]
      exact hc j y hy
  · intro g cap w' h1 h2 h3 _
    refine h g cap w' ?_ h2 h3
    unfold Own
    rw [List.length_append, List.map_append]
    exact h1
/-- 'append(v, s)' of one slice of bytes, v the call's own: as one step of a region that draws its order. -/
theorem step_pushBB {w : World} {ops : Array Oper} {o : Oper} {a : Act} {K : Act → World → Prop} {Q : Exit → Act → World → Prop} {E : Prop} (hgd : o.guard = none) (s x : Operand)
    (ho : o.op = .call { callee := .builtin .append, args := #[s, x], argTypes := #[49, 49] })
    (base : Nat) (X : Option Nat) (v : Value) (m : List (List UInt8)) (hs : a.eval s = v) (hown : OwnBB w base X v m) (A : Option Addr) (n c : Nat) (l : List UInt8) (hn : n = l.length) (hc : l.length ≤ c) (hl : HasV w X A l) (H : Nat) (hH : w.heap[H]? = some (.cells #[.slice A n c] 22 (0, 0)))
    (hx : a.eval x = .slice (some ⟨H, 0, none⟩) 1 1) (hb : m.length + 1 ≤ 1073741824) (hbase : base ≤ w.heap.size)
    (h : ∀ g cap w', OwnBB w' base X (.slice (some ⟨g, 0, none⟩) (m.length + 1) cap) (m ++ [l]) → w.grownBy w' v.ownBlock → (∀ (b : Nat) cs t fr, w.heap[b]? = some (.cells cs t fr) → t ≠ 22 → w'.heap[b]? = w.heap[b]?) → K (a.put o.dst (.slice (some ⟨g, 0, none⟩) (m.length + 1) cap)) w') :
    if Region.wanted o (yielded ops a.tmps) = true then Oper.wp Tryd.prog o a w K Q else E := by
  obtain ⟨i0, hi, hz0, hz1, hz2⟩ := info_parts info22
  obtain ⟨vs, hr, hv⟩ := hown
  subst hn
  refine step_append_lies w hgd s x 49 ho base 22 i0 (.slice none 0 0) 1 24 Tryd.underlying49 hi hz0 hz1 hz2 rfl (by omega) v m.length vs hs hr ⟨H, 0, none⟩ 1 1 [.slice A l.length c] hx (by simp) ?_ (by intro u hu; simp at hu; subst hu; rfl) (by omega) (by unfold maxLen; omega) (by omega) hbase _ rfl ?_
  · intro j u hu
    match j, hu with
    | 0, hu =>
      simp at hu
      subst hu
      exact World.news_of_block hH 0 _ rfl
  · intro g cap w' h1 h2 h3 _
    have hvl : vs.length = m.length := by have := hr.1; omega
    have hkeep : ∀ (b : Nat) cs t fr, w.heap[b]? = some (.cells cs t fr) → t ≠ 22 → w'.heap[b]? = w.heap[b]? := by
      intro b cs t fr hbk ht
      have hlt := (Array.getElem?_eq_some_iff.1 hbk).1
      refine h2.block b hlt fun e => ?_
      rcases hr.2 with ⟨rfl, _⟩ | ⟨g0, cap0, cur0, rfl, _, hh, _⟩
      · cases e
      · simp [Value.ownBlock] at e
        subst e
        rw [hbk] at hh
        injection hh with hh
        injection hh with _ ht2 _
        exact ht ht2
    have hinV : ∀ A' x, HasV w X A' x → HasV w' X A' x := fun A' x hq => hq.move (fun b cs fr hbk _ => hkeep b cs _ fr hbk (by decide)) (.inl rfl)
    refine h g cap w' ⟨vs ++ [.slice A l.length c], by rw [List.length_append]; exact h1, fun i x hx => ?_⟩ h2 hkeep
    by_cases hi2 : i < m.length
    · rw [List.getElem?_append_left hi2] at hx
      obtain ⟨A', c', k1, k2, k3⟩ := hv i x hx
      exact ⟨A', c', by rw [List.getElem?_append_left (by omega)]; exact k1, k2, hinV _ _ k3⟩
    · rw [List.getElem?_append_right (by omega)] at hx
      have hi3 := (List.getElem?_eq_some_iff.1 hx).1
      simp at hi3
      have hi4 : i = m.length := by omega
      subst hi4
      simp at hx
      subst hx
      exact ⟨A, c, by rw [← hvl]; simp, hc, hinV A l hl⟩
/-- What is read stays where out has grown. -/
theorem out_grown {w w' : World} {base g n cap : Nat} {v : Value} {l : List UInt8} (ho : Own w base v l) (hg : w.grownBy w' v.ownBlock) (hloc : v.ownBlock = some g ∨ g = w.heap.size) :
    (∀ A b, HasV w v.ownBlock A b → HasV w' (Value.slice (some ⟨g, 0, none⟩) n cap).ownBlock A b) ∧ ∀ base' vm m, OwnBB w base' v.ownBlock vm m → OwnBB w' base' (Value.slice (some ⟨g, 0, none⟩) n cap).ownBlock vm m := by
  have hk : ∀ (b : Nat) cs fr, w.heap[b]? = some (.cells cs 5 fr) → some b ≠ v.ownBlock → w'.heap[b]? = w.heap[b]? := fun b cs fr hb hne => hg.block b (Array.getElem?_eq_some_iff.1 hb).1 hne
  have hX : (Value.slice (some ⟨g, 0, none⟩) n cap).ownBlock = v.ownBlock ∨ (Value.slice (some ⟨g, 0, none⟩) n cap).ownBlock = none ∨ ∃ q, (Value.slice (some ⟨g, 0, none⟩) n cap).ownBlock = some q ∧ w.heap.size ≤ q := by
    rcases hloc with h | h
    · exact .inl h.symm
    · exact .inr (.inr ⟨g, rfl, by omega⟩)
  refine ⟨fun A b h => h.move hk hX, fun base' vm m h => h.move hk (fun b cs fr hb => ?_) hX⟩
  refine hg.block b (Array.getElem?_eq_some_iff.1 hb).1 fun e => ?_
  rcases ho.2 with ⟨rfl, _⟩ | ⟨g0, cap0, cur0, rfl, _, hh, _⟩
  · cases e
  · simp [Value.ownBlock] at e
    subst e
    rw [hb] at hh
    injection hh with hh
    injection hh with _ ht2 _
    revert ht2
    decide
end Go.Proofs.YtofphjfgaihjhaaDoor
namespace Go.Proofs.YtofphjfgaihjhaaDoor
open Go.RowKit

theorem get4_out {l : List UInt8} {i : Nat} {out : List UInt8} {met : List (List UInt8)} {last : List UInt8} (hi : i < 356) (h : 8 * l.length < 9 * i + 9) : get4 l (356 - i) (9 * i) out met last = none := by
  obtain ⟨f, hf⟩ : ∃ f, 356 - i = f + 1 := ⟨355 - i, by omega⟩
  rw [hf, get4, if_pos h]
theorem get4_fin {l : List UInt8} {i : Nat} {out : List UInt8} {met : List (List UInt8)} {last : List UInt8} (hi : i < 356) (h : ¬ 8 * l.length < 9 * i + 9) (hc : getN l (9 * i) 9 = 256) : get4 l (356 - i) (9 * i) out met last = if (9 * i + 9 + 7) / 8 = l.length ∧ restB l (9 * i + 9) = true then some out else none := by
  obtain ⟨f, hf⟩ : ∃ f, 356 - i = f + 1 := ⟨355 - i, by omega⟩
  rw [hf, get4, if_neg h, if_pos hc]
theorem get4_go {l : List UInt8} {i : Nat} {out : List UInt8} {met : List (List UInt8)} {last b : List UInt8} (hi : i < 356) (h : ¬ 8 * l.length < 9 * i + 9) (hc : getN l (9 * i) 9 ≠ 256) (hb : bytes4 met last (getN l (9 * i) 9) = b) : get4 l (356 - i) (9 * i) out met last = if b.length ≠ 0 ∧ out.length + b.length ≤ 200 then get4 l (356 - (i + 1)) (9 * (i + 1)) (out ++ b) (meet4 met last b) b else none := by
  obtain ⟨f, hf⟩ : ∃ f, 356 - i = f + 1 := ⟨355 - i, by omega⟩
  rw [hf, get4, if_neg h, if_neg hc, hb, show 356 - (i + 1) = f from by omega]
  by_cases hq : b.length ≠ 0 ∧ out.length + b.length ≤ 200
  · rw [if_pos hq, if_neg (by omega)]
    rfl
  · rw [if_neg hq, if_pos (by omega)]
theorem bytes4_le {met : List (List UInt8)} {last : List UInt8} {c : Nat} (h : ∀ e ∈ met, e.length ≤ 300) (hl : last.length ≤ 200) : (bytes4 met last c).length ≤ 301 := by
  unfold bytes4
  split
  · simp
  · split
    · rename_i h2
      rw [List.getElem?_eq_getElem h2]
      have := h _ (List.getElem_mem h2)
      simp only [Option.getD_some]
      omega
    · split
      · simp
        omega
      · simp
theorem pakGOut_new {l : List UInt8} {w wr : World} (h : pakGetO l = none) (hb : Below w.heap.size w wr) : PakGOut l w (.returned (.tuple #[.slice (some ⟨wr.heap.size, 0, none⟩) 0 0, .bool false])) (wr.alloc (.cells #[] 5)) := ⟨_, by rw [h]; rfl, by rw [h]; exact own_empty hb.size, hb.alloc hb.size _⟩
/-- What stands at the head of a round. -/
def RoundS (l : List UInt8) (w : World) (v4 v5 v6 : Value) (i : Nat) (wr : World) : Prop :=
  ∃ (out : List UInt8) (met : List (List UInt8)) (last : List UInt8) (g4 c4 : Nat) (A5 : Option Addr) (c5 : Nat) (A6 : Option Addr) (c6 : Nat), v4 = .slice (some ⟨g4, 0, none⟩) out.length c4 ∧ v5 = .slice A5 met.length c5 ∧ v6 = .slice A6 last.length c6 ∧
    Own wr w.heap.size v4 out ∧ OwnBB wr w.heap.size (some g4) v5 met ∧ HasV wr (some g4) A6 last ∧ Below w.heap.size w wr ∧ get4 l (356 - i) (9 * i) out met last = pakGetO l ∧ out.length ≤ 200 ∧ met.length ≤ out.length ∧ last.length ≤ out.length ∧ ∀ e ∈ met, e.length ≤ 300
set_option maxRecDepth 100000 in
set_option maxHeartbeats 4000000 in
theorem specPakGet_any (A : Option Addr) (c : Nat) (l : List UInt8) (w : World) (hs : l.length ≤ 1048576) (h : Has w w.heap.size A l) :
    Calls Tryd.prog 16 #[.slice A l.length c] w (PakGOut l w) := by
  have HH := Lib.hid h
  have hsI : (l.length : Int) ≤ 1048576 := by omega
  have HS := Lib.hid hs
  have HR0 : Hid (RoundS l w (.slice (some ⟨w.heap.size, 0, none⟩) 0 0) (.slice (some ⟨w.heap.size + 1, 0, none⟩) 0 0) (.slice (some ⟨w.heap.size + 1 + 1, 0, none⟩) 0 0) 0 (((w.alloc (.cells #[] 5)).alloc (.cells #[] 22)).alloc (.cells #[] 5))) := Lib.hid (by
    have o1 : Own (w.alloc (.cells #[] 5)) w.heap.size (.slice (some ⟨w.heap.size, 0, none⟩) 0 0) [] := own_empty (Nat.le_refl _)
    have o2 : OwnBB ((w.alloc (.cells #[] 5)).alloc (.cells #[] 22)) w.heap.size (some w.heap.size) (.slice (some ⟨(w.alloc (.cells #[] 5)).heap.size, 0, none⟩) 0 0) [] := ownBB_empty (by simp)
    rw [show (w.alloc (.cells #[] 5)).heap.size = w.heap.size + 1 from by simp] at o2
    exact ⟨[], [], [], w.heap.size, 0, some ⟨w.heap.size + 1, 0, none⟩, 0, some ⟨w.heap.size + 1 + 1, 0, none⟩, 0, rfl, rfl, rfl, (o1.alloc _).alloc _, o2.alloc _, .inl rfl, (((Below.refl _ w).alloc (Nat.le_refl _) _).alloc (by simp) _).alloc (by simp; omega) _, rfl, by simp, by simp, by simp, fun e he => by simp at he⟩)
  clear h hs
  go_enter Tryd.func16, Tryd.ntmps16
  go_wp2_with fail
  go_loopw [4, 5, 6, 7] (fun v4 v5 v6 v7 wr => ∃ i : Nat, i ≤ 356 ∧ v7 = .int .i64 ((9 * i : Nat) : Int) ∧ RoundS l w v4 v5 v6 i wr) (fun _ _ _ v7 _ => 4000 - (intOf v7).toNat)
  case atStart => exact ⟨0, by omega, rfl, HR0.out⟩
  case round =>
    clear HR0
    obtain ⟨i, hi, rfl, out, met, last, g4, c4, A5, c5, A6, c6, rfl, rfl, rfl, hO, hBB, hL, hB, hget, hol, hml, hll, hel⟩ := hrel
    have HO := Lib.hid hO
    have HBB := Lib.hid hBB
    have HL := Lib.hid hL
    have HB := Lib.hid hB
    have HG := Lib.hid hget
    have HN := Lib.hid (And.intro hol (And.intro hml hll))
    have HEL := Lib.hid hel
    clear hO hBB hL hB hget hol hml hll hel
    by_cases hlt : i < 356
    · have hiI : ((9 * i : Nat) : Int) < 3200 := by omega
      obtain ⟨a, ha⟩ : ∃ a, 9 * i = a := ⟨_, rfl⟩
      have CB := Lib.hid (specBitGet_any A c l (a : Int) 9 w.heap.size wr (by have := HS.out; omega) (HH.out.below HB.out))
      have HI := Lib.hid (And.intro hlt ha)
      rw [ha] at hiI ⊢
      clear hi hlt ha
      go_wp2_with fail
      refine CB.out.mono ?_
      rintro e w2 ⟨rfl, hw2⟩
      subst hw2
      clear CB
      cases hbt : bitGetB l (a : Int) 9
      · have hlen : 8 * l.length < 9 * i + 9 := by
          have := of_decide_eq_false hbt
          have := HI.out.2
          omega
        have HF := Lib.hid (pakGOut_new (l := l) (w := w) (wr := w2) (by rw [← HG.out]; exact get4_out HI.out.1 hlen) HB.out)
        clear hlen hbt
        go_wp2_with fail
        go_ret2
        exact HF.out
      · have hlen : ¬ 8 * l.length < 9 * i + 9 := by
          have := of_decide_eq_true hbt
          have := HI.out.2
          omega
        have hN : bitGetN l (a : Int) 9 = getN l (9 * i) 9 := by rw [HI.out.2]; unfold bitGetN; rw [hbt, if_pos rfl]; rfl
        rw [hN]
        have hcl := getN_lt l (9 * i) 9
        by_cases hc : getN l (9 * i) 9 = 256
        · rw [hc]
          have hend := get4_fin (out := out) (met := met) (last := last) HI.out.1 hlen hc
          rw [HG.out] at hend
          have HEN := Lib.hid hend
          obtain ⟨a9, ha9⟩ : ∃ a9, a + 9 = a9 := ⟨_, rfl⟩
          have CR := Lib.hid (l4Rest_any A c l a9 w2 HS.out ((HH.out.below HB.out).wider HB.out.size))
          have HA9 := Lib.hid ha9
          have hI9 : (a : Int) + 9 = (a9 : Int) := by omega
          obtain ⟨z, hz⟩ : ∃ z, (a9 + 7) / 8 = z := ⟨_, rfl⟩
          have hzI : ((a9 : Int) + 7) / 8 = (z : Int) := by omega
          have HZ := Lib.hid hz
          have haI : (a : Int) < 3200 := hiI
          have ha9I : (a9 : Int) < 3300 := by omega
          clear hc hN hcl hlen hbt hend ha9 hz
          by_cases hzl : z = l.length
          · have hzl' : ((z : Int) != (l.length : Int)) = false := by rw [bne_eq_false_iff_eq]; omega
            cases hr : restB l a9
            · rw [hr] at CR
              have HF := Lib.hid (pakGOut_new (l := l) (w := w) (wr := w2) (by
                rw [HEN.out, if_neg]
                intro q
                have q2 := q.2
                rw [HI.out.2, HA9.out, hr] at q2
                cases q2) HB.out)
              clear hr
              go_wp2_with fail
              refine CR.out.mono ?_
              rintro e w3 ⟨rfl, hw3⟩
              subst hw3
              go_wp2_with fail
              go_ret2
              exact HF.out
            · rw [hr] at CR
              have HF : Hid (PakGOut l w (.returned (.tuple #[.slice (some ⟨g4, 0, none⟩) out.length c4, .bool true])) w2) := Lib.hid (by
                have e : pakGetO l = some out := by
                  rw [HEN.out, if_pos]
                  rw [HI.out.2, HA9.out]
                  exact ⟨HZ.out.trans hzl, hr⟩
                exact ⟨_, by rw [e]; rfl, by rw [e]; exact HO.out, HB.out⟩)
              clear hr
              go_wp2_with fail
              refine CR.out.mono ?_
              rintro e w3 ⟨rfl, hw3⟩
              subst hw3
              go_wp2_with fail
              go_ret2
              exact HF.out
          · have hzl' : ((z : Int) != (l.length : Int)) = true := by rw [bne_iff_ne]; omega
            have HF := Lib.hid (pakGOut_new (l := l) (w := w) (wr := w2) (by
              rw [HEN.out, if_neg]
              intro q
              have q1 := q.1
              rw [HI.out.2, HA9.out, HZ.out] at q1
              exact hzl q1) HB.out)
            clear CR
            go_wp2_with fail
            go_ret2
            exact HF.out
        · obtain ⟨cd, hcd⟩ : ∃ cd, getN l (9 * i) 9 = cd := ⟨_, rfl⟩
          have hst := get4_go (out := out) (met := met) (last := last) HI.out.1 hlen hc rfl
          rw [HG.out, hcd] at hst
          rw [hcd] at hc hcl ⊢
          have CY := Lib.hid (l4Bytes_any w.heap.size c5 A5 met A6 c6 last cd (some g4) w2 HBB.out HL.out (by have := HN.out; omega) (by have := HN.out; omega) (by omega) hc (fun q hq => by injection hq with hq; subst hq; exact (World.ownsRow.lt HO.out g4 rfl).2))
          have hcB : ((cd : Int) == 256) = false := beq_eq_false_iff_ne.2 (by omega)
          have HST := Lib.hid hst
          have HBL := Lib.hid (bytes4_le (met := met) (last := last) (c := cd) HEL.out (by have := HN.out; omega))
          generalize bytes4 met last cd = b at *
          clear hc hN hcl hlen hbt hst hcd
          unfold BytesOut at CY
          go_wp2_with fail
          refine CY.out.mono ?_
          rintro e w3 ⟨Ab, cb, rfl, hcb, hvb, hb3⟩
          have hO3 := HO.out.below hb3 (Nat.le_refl _)
          have hBB3 := HBB.out.below hb3 (Nat.le_refl _)
          have hL3 := HL.out.below hb3 (Nat.le_refl _)
          have hB3 := HB.out.trans (hb3.mono HB.out.size)
          clear CY hb3
          by_cases hq : b.length ≠ 0 ∧ out.length + b.length ≤ 200
          · obtain ⟨hb0, hb2⟩ := hq
            obtain ⟨bb, bo, y, rfl, -, hy, -⟩ := hvb.has.spot (k := 0) (by omega)
            have HY := Lib.hid hy
            have HO3 := Lib.hid hO3
            have HVB3 := Lib.hid hvb
            have HBB3 := Lib.hid hBB3
            have HL3 := Lib.hid hL3
            have HB3 := Lib.hid hB3
            have HQ := Lib.hid (And.intro hb0 (And.intro hb2 hcb))
            have HST2 : Hid (get4 l (356 - (i + 1)) (9 * (i + 1)) (out ++ b) (meet4 met last b) b = pakGetO l) := Lib.hid (by rw [HST.out, if_pos ⟨hb0, hb2⟩])
            have hb0I : ((b.length : Int) == 0) = false := beq_eq_false_iff_ne.2 (by omega)
            have hb1I : ¬ (200 : Int) < (out.length : Int) + (b.length : Int) := by omega
            have hb2I : (out.length : Int) + (b.length : Int) ≤ 200 := by omega
            clear hy hO3 hvb hBB3 hL3 hB3 hcb HST hb0 hb2
            go_upto_region 18 with (at_builtin; refine wpList_pushAllL rfl (.tmp 61) (.tmp 62) rfl w.heap.size (.slice (some ⟨g4, 0, none⟩) out.length c4) out rfl HO3.out w3.heap.size (some ⟨bb, bo, none⟩) cb b rfl HVB3.out.has (by have := HQ.out.1; omega) (by have := HQ.out.2.1; omega) HB3.out.size ?_; intro gq cq wq hoq hgq hlq)
            obtain ⟨hvk, hbk⟩ := out_grown (n := out.length + b.length) (cap := cq) HO3.out hgq hlq
            have HVb : Hid (HasV wq (some gq) (some ⟨bb, bo, none⟩) b) := Lib.hid (hvk _ _ HVB3.out)
            have HBq : Hid (OwnBB wq w.heap.size (some gq) (.slice A5 met.length c5) met) := Lib.hid (hbk _ _ _ HBB3.out)
            have HLq : Hid (HasV wq (some gq) A6 last) := Lib.hid (hvk _ _ HL3.out)
            have HOq := Lib.hid hoq
            have HBw := Lib.hid (HB3.out.grown hgq HB3.out.size (fun q hq => (World.ownsRow.lt HO3.out q hq).1))
            have HXL : Hid (∀ q, (some gq : Option Nat) = some q → q < wq.heap.size) := Lib.hid (fun q hq => by injection hq with hq; subst hq; exact (World.ownsRow.lt hoq gq rfl).2)
            have HMEAS : Hid (4000 - (intOf (.int .i64 ((a : Int) + 9))).toNat < 4000 - (intOf (.int .i64 (a : Int))).toNat) := Lib.hid (by simp [intOf]; omega)
            have HBb := Lib.hid HVb.out.has
            clear hoq hgq hlq hvk hbk HO3 HVB3 HBB3 HL3 HB3 hb0I hb1I
            have hmI : 257 + (met.length : Int) < 512 := by have := HN.out; omega
            by_cases hl0 : 0 < last.length
            · have hl0I : 0 < (last.length : Int) := by omega
              obtain ⟨lb, lo, -, rfl, -, -, -⟩ := HLq.out.has.spot hl0
              have HLa := Lib.hid HLq.out.has
              have HREL : Hid (∀ (w9 : World) (g9 c9 : Nat), OwnBB w9 w.heap.size (some gq) (.slice (some ⟨g9, 0, none⟩) (met.length + 1) c9) (met ++ [last ++ [y]]) → Own w9 w.heap.size (.slice (some ⟨gq, 0, none⟩) (out.length + b.length) cq) (out ++ b) → HasV w9 (some gq) (some ⟨bb, bo, none⟩) b → Below w.heap.size w w9 →
                  ∃ i : Nat, i ≤ 356 ∧ Value.int .i64 ((a : Int) + 9) = .int .i64 ((9 * i : Nat) : Int) ∧ RoundS l w (.slice (some ⟨gq, 0, none⟩) (out.length + b.length) cq) (.slice (some ⟨g9, 0, none⟩) (met.length + 1) c9) (.slice (some ⟨bb, bo, none⟩) b.length cb) i w9) := Lib.hid (fun w9 g9 c9 k1 k2 k3 k4 => by
                have em : meet4 met last b = met ++ [last ++ [y]] := by unfold meet4; rw [if_pos ⟨hl0, by have := HN.out; omega⟩, take1_at HY.out]
                refine ⟨i + 1, by have := HI.out.1; omega, by congr 1; have := HI.out.2; omega, out ++ b, met ++ [last ++ [y]], b, gq, cq, _, c9, _, cb, by rw [List.length_append], by rw [List.length_append]; rfl, rfl, k2, k1, k3, k4, by rw [← em]; exact HST2.out, by have := HQ.out.2.1; simp; omega, by have := HN.out; have := HQ.out.1; simp; omega, by simp, fun e he => ?_⟩
                rcases List.mem_append.1 he with he | he
                · exact HEL.out e he
                · simp at he
                  subst he
                  have := HN.out
                  simp
                  omega)
              have HS0 : wq.drew.cell? ⟨bb, bo, none⟩ = some (.int .u8 (y.toNat : Int)) := HBb.out.byte0 HY.out
              have hbne : ¬ b = [] := fun e => by have := HQ.out.1; rw [e] at this; exact this rfl
              clear hl0
              go_upto_region 19 with fail
              refine wp_region_T (fun w' => w'.cell? ⟨bb, bo, none⟩ = some (.int .u8 (y.toNat : Int))) 11 (by kernel_rfl) ?_
              refine wpAnyT_take (i := 0) (d := 73) (v := .slice A5 met.length c5) rfl rfl (by kernel_rfl) (by kernel_rfl) (by kernel_rfl) (by kernel_rfl) (by kernel_rfl) (fun _ _ _ h => h) HS0 (Or.inl ⟨by rfl, fun w' hS' => ?_⟩) ?_
              · go_simp
              simp only [Act.put, List.setIfInBounds_toArray, List.set_cons_zero, List.set_cons_succ]
              refine wpAnyT_take (i := 2) (d := 75) (v := .slice (some ⟨lb, lo, none⟩) last.length c6) rfl rfl (by kernel_rfl) (by kernel_rfl) (by kernel_rfl) (by kernel_rfl) (by kernel_rfl) (fun _ _ _ h => h) HS0 (Or.inl ⟨by rfl, fun w' hS' => ?_⟩) ?_
              · go_simp
              simp only [Act.put, List.setIfInBounds_toArray, List.set_cons_zero, List.set_cons_succ]
              refine wpAnyT_take (i := 4) (d := 77) (v := .slice (some ⟨bb, bo, none⟩) b.length cb) rfl rfl (by kernel_rfl) (by kernel_rfl) (by kernel_rfl) (by kernel_rfl) (by kernel_rfl) (fun _ _ _ h => h) HS0 (Or.inl ⟨by rfl, fun w' hS' => ?_⟩) ?_
              · go_simp
              simp only [Act.put, List.setIfInBounds_toArray, List.set_cons_zero, List.set_cons_succ]
              refine wpAnyT_take (i := 5) (d := 78) (v := .pointer (some ⟨bb, bo, none⟩)) rfl rfl (by kernel_rfl) (by kernel_rfl) (by kernel_rfl) (by kernel_rfl) (by kernel_rfl) (fun _ _ _ h => h) HS0 (Or.inl ⟨by rfl, fun w' hS' => ?_⟩) ?_
              · go_simp
              simp only [Act.put, List.setIfInBounds_toArray, List.set_cons_zero, List.set_cons_succ]
              refine wpAnyT_take (i := 6) (d := 79) (v := .int .u8 (y.toNat : Int)) rfl rfl (by kernel_rfl) (by kernel_rfl) (by kernel_rfl) (by kernel_rfl) (by kernel_rfl) (fun _ _ _ h => h) HS0 (Or.inl ⟨by rfl, fun w' hS' => ?_⟩) ?_
              · go_simp
              simp only [Act.put, List.setIfInBounds_toArray, List.set_cons_zero, List.set_cons_succ]
              refine wpAnyT_two (i := 1) (j := 7) (by kernel_rfl) rfl rfl (fun K hK => ?_) (fun K hK => ?_)
              · go_simp
                have hbwa : Below wq.heap.size wq (wq.alloc (.cells #[] 5)).drew := below_drew1 ((Below.refl _ wq).alloc (Nat.le_refl _) _)
                obtain ⟨g0, hg0⟩ : ∃ g0, wq.heap.size = g0 := ⟨_, rfl⟩
                have howa : Own (wq.alloc (.cells #[] 5)).drew wq.heap.size (.slice (some ⟨g0, 0, none⟩) 0 0) [] := by rw [← hg0]; exact own_empty (w := wq) (Nat.le_refl _)
                rw [hg0]
                refine hK.out _ _ (fun _ => (HBb.out.below hbwa).byte0 HY.out) ?_
                clear hK hg0
                generalize (wq.alloc (.cells #[] 5)).drew = wa at *
                refine wpAnyT_two (i := 3) (j := 7) (by kernel_rfl) rfl rfl (fun K hK => ?_) (fun K hK => ?_)
                · refine step_pushAllB rfl (.tmp 74) (.tmp 75) rfl wq.heap.size (.slice (some ⟨g0, 0, none⟩) 0 0) [] rfl howa wq.heap.size ⟨lb, lo, none⟩ c6 last.length last rfl rfl (HLa.out.below hbwa) (by have := HN.out; simp; omega) hbwa.size ?_
                  intro vwb wb howb hgwb
                  rw [List.nil_append] at howb
                  obtain ⟨Awb, cwb, rfl, -, -⟩ := howb.has
                  have hbwb := hbwa.grown hgwb hbwa.size (fun q hq => (World.ownsRow.lt howa q hq).1)
                  refine hK.out _ _ (fun _ => (HBb.out.below hbwb).byte0 HY.out) ?_
                  clear hK
                  try simp only [Act.put, List.setIfInBounds_toArray]
                  refine wpAnyT_one (i := 7) (by kernel_rfl) rfl (fun K hK => ?_)
                  go_simp
                  have hbwc : Below wq.heap.size wq (wb.alloc (.cells #[.int .u8 (y.toNat : Int)] 5)) := (hbwb.alloc hbwb.size _)
                  have hxwc : (wb.alloc (.cells #[.int .u8 (y.toNat : Int)] 5)).heap[wb.heap.size]? = some (.cells #[.int .u8 (y.toNat : Int)] 5 (0, 0)) := heap_alloc_new wb _
                  have howc : Own (wb.alloc (.cells #[.int .u8 (y.toNat : Int)] 5)) wq.heap.size (.slice Awb last.length cwb) last := World.ownsRow.alloc (w := wb) howb _
                  have hnewc : ∀ q, ((.slice Awb last.length cwb) : Value).ownBlock = some q → wb.heap.size ≠ q := fun q hq e => by have := (World.ownsRow.lt howb q hq).2; omega
                  obtain ⟨H, hH⟩ : ∃ H, wb.heap.size = H := ⟨_, rfl⟩
                  rw [hH] at hxwc hnewc ⊢
                  refine hK.out _ _ (fun _ => (HBb.out.below hbwc).byte0 HY.out) ?_
                  clear hK hH
                  generalize (wb.alloc (.cells #[.int .u8 (y.toNat : Int)] 5)) = wc at *
                  refine wpAnyT_one (i := 8) (by kernel_rfl) rfl (fun K hK => ?_)
                  refine step_push rfl (.tmp 76) (.tmp 80) rfl wq.heap.size (.slice Awb last.length cwb) last rfl howc ⟨H, 0, none⟩ 1 [y] rfl (fun j u hu => World.news_of_block hxwc j _ (by
                    match j, hu with
                    | 0, hu => simp at hu; subst hu; rfl)) (by simp) (by have := HN.out; simp; omega) hbwc.size ?_
                  intro g7 c7 w7 ho7 hg7
                  have hb7 := hbwc.grown hg7 hbwc.size (fun q hq => (World.ownsRow.lt howc q hq).1)
                  have hc7 : (last ++ [y]).length ≤ c7 := by
                    obtain ⟨A8, c8, e8, hc8, -⟩ := ho7.has
                    injection e8 with e1 e2 e3
                    subst e3
                    exact hc8
                  have hv7 := ho7.hasV (X := some gq) (own_ne_X HXL.out ho7)
                  obtain ⟨nl, hnl⟩ : ∃ nl, last.length + [y].length = nl := ⟨_, rfl⟩
                  rw [hnl] at ho7 ⊢
                  have hnl' : nl = (last ++ [y]).length := by rw [List.length_append, hnl]
                  clear hnl
                  refine hK.out _ _ (fun _ => (HBb.out.below hb7).byte0 HY.out) ?_
                  clear hK
                  try simp only [Act.put, List.setIfInBounds_toArray]
                  have hbb8 := (HBq.out.below hb7 (Nat.le_refl _)).alloc (.cells #[.slice (some ⟨g7, 0, none⟩) nl c7] 22)
                  have hv8 : HasV (w7.alloc (.cells #[.slice (some ⟨g7, 0, none⟩) nl c7] 22)) (some gq) (some ⟨g7, 0, none⟩) (last ++ [y]) := hv7.below ((Below.refl _ w7).alloc (Nat.le_refl _) _) (Nat.le_refl _)
                  have hH8 : (w7.alloc (.cells #[.slice (some ⟨g7, 0, none⟩) nl c7] 22)).heap[w7.heap.size]? = some (.cells #[.slice (some ⟨g7, 0, none⟩) nl c7] 22 (0, 0)) := heap_alloc_new w7 _
                  have hb8 : Below wq.heap.size wq (w7.alloc (.cells #[.slice (some ⟨g7, 0, none⟩) nl c7] 22)) := hb7.alloc hb7.size _
                  have HNL := Lib.hid hnl'
                  clear hnl'
                  refine wpAnyT_one (i := 9) (by kernel_rfl) rfl (fun K hK => ?_)
                  go_simp
                  obtain ⟨H8, hHH⟩ : ∃ H8, w7.heap.size = H8 := ⟨_, rfl⟩
                  rw [hHH] at hH8 ⊢
                  refine hK.out _ _ (fun _ => (HBb.out.below hb8).byte0 HY.out) ?_
                  clear hK hHH ho7 hg7 hv7
                  generalize w7.alloc (.cells #[.slice (some ⟨g7, 0, none⟩) nl c7] 22) = w8 at *
                  refine wpAnyT_one (i := 10) (by kernel_rfl) rfl (fun K hK => ?_)
                  refine step_pushBB rfl (.tmp 73) (.tmp 82) rfl w.heap.size (some gq) (.slice A5 met.length c5) met rfl hbb8 (some ⟨g7, 0, none⟩) nl c7 (last ++ [y]) HNL.out hc7 hv8 H8 hH8 rfl (by have := HN.out; omega) (Nat.le_trans HBw.out.size hb8.size) ?_
                  intro g9 c9 w9 hbb9 hg9 hk9
                  have hO9 : Own w9 w.heap.size (.slice (some ⟨gq, 0, none⟩) (out.length + b.length) cq) (out ++ b) := row_move (HOq.out.below hb8 (Nat.le_refl _)) fun b cs fr hb => hk9 b cs _ fr hb (by decide)
                  have hb9 : HasV w9 (some gq) (some ⟨bb, bo, none⟩) b := (HVb.out.below hb8 (Nat.le_refl _)).move (fun q cs fr hb _ => hk9 q cs _ fr hb (by decide)) (.inl rfl)
                  have hB9 : Below w.heap.size w w9 := (HBw.out.trans (hb8.mono HBw.out.size)).grown hg9 (Nat.le_trans HBw.out.size hb8.size) (fun q hq => by obtain ⟨vs, hr, -⟩ := hbb8; exact (World.ownsRow.lt hr q hq).1)
                  have HFIN := Lib.hid (And.intro hbb9 (And.intro hO9 (And.intro hb9 hB9)))
                  refine hK.out _ _ (fun _ => hb9.has.byte0 HY.out) ?_
                  clear hK
                  try simp only [Act.put, List.setIfInBounds_toArray]
                  refine wpAnyT_one (i := 11) (by kernel_rfl) rfl (fun K hK => ?_)
                  go_simp
                  refine hK.out _ _ (fun _ => HFIN.out.2.2.1.has.byte0 HY.out) ?_
                  clear hK hbb8 hv8 hH8 hb8 hbb9 hg9 hk9 hO9 hb9 hB9 hc7 hb7
                  refine wpAnyT_done (by kernel_rfl) ?_ _
                  go_wp2_with fail
                  go_roundw
                  case rel => exact HREL.out w9 g9 c9 HFIN.out.1 HFIN.out.2.1 HFIN.out.2.2.1 HFIN.out.2.2.2
                  case measure => exact HMEAS.out
                · go_simp
                  have hbwb : Below wq.heap.size wq (wa.alloc (.cells #[.int .u8 (y.toNat : Int)] 5)) := (hbwa.alloc hbwa.size _)
                  have hxwb : (wa.alloc (.cells #[.int .u8 (y.toNat : Int)] 5)).heap[wa.heap.size]? = some (.cells #[.int .u8 (y.toNat : Int)] 5 (0, 0)) := heap_alloc_new wa _
                  have howb : Own (wa.alloc (.cells #[.int .u8 (y.toNat : Int)] 5)) wq.heap.size (.slice (some ⟨g0, 0, none⟩) 0 0) [] := World.ownsRow.alloc (w := wa) howa _
                  have hnewb : ∀ q, ((.slice (some ⟨g0, 0, none⟩) 0 0) : Value).ownBlock = some q → wa.heap.size ≠ q := fun q hq e => by have := (World.ownsRow.lt howa q hq).2; omega
                  obtain ⟨H, hH⟩ : ∃ H, wa.heap.size = H := ⟨_, rfl⟩
                  rw [hH] at hxwb hnewb ⊢
                  refine hK.out _ _ (fun _ => (HBb.out.below hbwb).byte0 HY.out) ?_
                  clear hK hH
                  generalize (wa.alloc (.cells #[.int .u8 (y.toNat : Int)] 5)) = wb at *
                  refine wpAnyT_one (i := 3) (by kernel_rfl) rfl (fun K hK => ?_)
                  refine step_pushAllB rfl (.tmp 74) (.tmp 75) rfl wq.heap.size (.slice (some ⟨g0, 0, none⟩) 0 0) [] rfl howb wq.heap.size ⟨lb, lo, none⟩ c6 last.length last rfl rfl (HLa.out.below hbwb) (by have := HN.out; simp; omega) hbwb.size ?_
                  intro vwc wc howc hgwc
                  rw [List.nil_append] at howc
                  obtain ⟨Awc, cwc, rfl, -, -⟩ := howc.has
                  have hbwc := hbwb.grown hgwc hbwb.size (fun q hq => (World.ownsRow.lt howb q hq).1)
                  have hxwc : wc.heap[H]? = some (.cells #[.int .u8 (y.toNat : Int)] 5 (0, 0)) := (hgwc.block H (Array.getElem?_eq_some_iff.1 hxwb).1 (fun e => by simp [Value.ownBlock] at e; exact (hnewb g0 rfl) e)).trans hxwb
                  refine hK.out _ _ (fun _ => (HBb.out.below hbwc).byte0 HY.out) ?_
                  clear hK
                  simp only [Act.put]
                  refine wpAnyT_one (i := 8) (by kernel_rfl) rfl (fun K hK => ?_)
                  refine step_push rfl (.tmp 76) (.tmp 80) rfl wq.heap.size (.slice Awc last.length cwc) last rfl howc ⟨H, 0, none⟩ 1 [y] rfl (fun j u hu => World.news_of_block hxwc j _ (by
                    match j, hu with
                    | 0, hu => simp at hu; subst hu; rfl)) (by simp) (by have := HN.out; simp; omega) hbwc.size ?_
                  intro g7 c7 w7 ho7 hg7
                  have hb7 := hbwc.grown hg7 hbwc.size (fun q hq => (World.ownsRow.lt howc q hq).1)
                  have hc7 : (last ++ [y]).length ≤ c7 := by
                    obtain ⟨A8, c8, e8, hc8, -⟩ := ho7.has
                    injection e8 with e1 e2 e3
                    subst e3
                    exact hc8
                  have hv7 := ho7.hasV (X := some gq) (own_ne_X HXL.out ho7)
                  obtain ⟨nl, hnl⟩ : ∃ nl, last.length + [y].length = nl := ⟨_, rfl⟩
                  rw [hnl] at ho7 ⊢
                  have hnl' : nl = (last ++ [y]).length := by rw [List.length_append, hnl]
                  clear hnl
                  refine hK.out _ _ (fun _ => (HBb.out.below hb7).byte0 HY.out) ?_
                  clear hK
                  try simp only [Act.put, List.setIfInBounds_toArray]
                  have hbb8 := (HBq.out.below hb7 (Nat.le_refl _)).alloc (.cells #[.slice (some ⟨g7, 0, none⟩) nl c7] 22)
                  have hv8 : HasV (w7.alloc (.cells #[.slice (some ⟨g7, 0, none⟩) nl c7] 22)) (some gq) (some ⟨g7, 0, none⟩) (last ++ [y]) := hv7.below ((Below.refl _ w7).alloc (Nat.le_refl _) _) (Nat.le_refl _)
                  have hH8 : (w7.alloc (.cells #[.slice (some ⟨g7, 0, none⟩) nl c7] 22)).heap[w7.heap.size]? = some (.cells #[.slice (some ⟨g7, 0, none⟩) nl c7] 22 (0, 0)) := heap_alloc_new w7 _
                  have hb8 : Below wq.heap.size wq (w7.alloc (.cells #[.slice (some ⟨g7, 0, none⟩) nl c7] 22)) := hb7.alloc hb7.size _
                  have HNL := Lib.hid hnl'
                  clear hnl'
                  refine wpAnyT_one (i := 9) (by kernel_rfl) rfl (fun K hK => ?_)
                  go_simp
                  obtain ⟨H8, hHH⟩ : ∃ H8, w7.heap.size = H8 := ⟨_, rfl⟩
                  rw [hHH] at hH8 ⊢
                  refine hK.out _ _ (fun _ => (HBb.out.below hb8).byte0 HY.out) ?_
                  clear hK hHH ho7 hg7 hv7
                  generalize w7.alloc (.cells #[.slice (some ⟨g7, 0, none⟩) nl c7] 22) = w8 at *
                  refine wpAnyT_one (i := 10) (by kernel_rfl) rfl (fun K hK => ?_)
                  refine step_pushBB rfl (.tmp 73) (.tmp 82) rfl w.heap.size (some gq) (.slice A5 met.length c5) met rfl hbb8 (some ⟨g7, 0, none⟩) nl c7 (last ++ [y]) HNL.out hc7 hv8 H8 hH8 rfl (by have := HN.out; omega) (Nat.le_trans HBw.out.size hb8.size) ?_
                  intro g9 c9 w9 hbb9 hg9 hk9
                  have hO9 : Own w9 w.heap.size (.slice (some ⟨gq, 0, none⟩) (out.length + b.length) cq) (out ++ b) := row_move (HOq.out.below hb8 (Nat.le_refl _)) fun b cs fr hb => hk9 b cs _ fr hb (by decide)
                  have hb9 : HasV w9 (some gq) (some ⟨bb, bo, none⟩) b := (HVb.out.below hb8 (Nat.le_refl _)).move (fun q cs fr hb _ => hk9 q cs _ fr hb (by decide)) (.inl rfl)
                  have hB9 : Below w.heap.size w w9 := (HBw.out.trans (hb8.mono HBw.out.size)).grown hg9 (Nat.le_trans HBw.out.size hb8.size) (fun q hq => by obtain ⟨vs, hr, -⟩ := hbb8; exact (World.ownsRow.lt hr q hq).1)
                  have HFIN := Lib.hid (And.intro hbb9 (And.intro hO9 (And.intro hb9 hB9)))
                  refine hK.out _ _ (fun _ => hb9.has.byte0 HY.out) ?_
                  clear hK
                  try simp only [Act.put, List.setIfInBounds_toArray]
                  refine wpAnyT_one (i := 11) (by kernel_rfl) rfl (fun K hK => ?_)
                  go_simp
                  refine hK.out _ _ (fun _ => HFIN.out.2.2.1.has.byte0 HY.out) ?_
                  clear hK hbb8 hv8 hH8 hb8 hbb9 hg9 hk9 hO9 hb9 hB9 hc7 hb7
                  refine wpAnyT_done (by kernel_rfl) ?_ _
                  go_wp2_with fail
                  go_roundw
                  case rel => exact HREL.out w9 g9 c9 HFIN.out.1 HFIN.out.2.1 HFIN.out.2.2.1 HFIN.out.2.2.2
                  case measure => exact HMEAS.out
              · go_simp
                have hbwa : Below wq.heap.size wq (wq.alloc (.cells #[.int .u8 (y.toNat : Int)] 5)).drew := below_drew1 ((Below.refl _ wq).alloc (Nat.le_refl _) _)
                have hxwa : (wq.alloc (.cells #[.int .u8 (y.toNat : Int)] 5)).drew.heap[wq.heap.size]? = some (.cells #[.int .u8 (y.toNat : Int)] 5 (0, 0)) := heap_alloc_new wq _
                obtain ⟨H, hH⟩ : ∃ H, wq.heap.size = H := ⟨_, rfl⟩
                rw [hH] at hxwa ⊢
                refine hK.out _ _ (fun _ => (HBb.out.below hbwa).byte0 HY.out) ?_
                clear hK hH
                generalize (wq.alloc (.cells #[.int .u8 (y.toNat : Int)] 5)).drew = wa at *
                refine wpAnyT_one (i := 1) (by kernel_rfl) rfl (fun K hK => ?_)
                go_simp
                have hbwb : Below wq.heap.size wq (wa.alloc (.cells #[] 5)) := (hbwa.alloc hbwa.size _)
                have hxwb : (wa.alloc (.cells #[] 5)).heap[H]? = some (.cells #[.int .u8 (y.toNat : Int)] 5 (0, 0)) := (Below.heap_alloc wa _ H (Array.getElem?_eq_some_iff.1 hxwa).1).trans hxwa
                have hnewb : H ≠ wa.heap.size := by have := (Array.getElem?_eq_some_iff.1 hxwa).1; omega
                obtain ⟨g0, hg0⟩ : ∃ g0, wa.heap.size = g0 := ⟨_, rfl⟩
                have howb : Own (wa.alloc (.cells #[] 5)) wq.heap.size (.slice (some ⟨g0, 0, none⟩) 0 0) [] := by rw [← hg0]; exact own_empty (w := wa) hbwa.size
                rw [hg0] at hnewb ⊢
                refine hK.out _ _ (fun _ => (HBb.out.below hbwb).byte0 HY.out) ?_
                clear hK hg0
                generalize (wa.alloc (.cells #[] 5)) = wb at *
                refine wpAnyT_one (i := 3) (by kernel_rfl) rfl (fun K hK => ?_)
                refine step_pushAllB rfl (.tmp 74) (.tmp 75) rfl wq.heap.size (.slice (some ⟨g0, 0, none⟩) 0 0) [] rfl howb wq.heap.size ⟨lb, lo, none⟩ c6 last.length last rfl rfl (HLa.out.below hbwb) (by have := HN.out; simp; omega) hbwb.size ?_
                intro vwc wc howc hgwc
                rw [List.nil_append] at howc
                obtain ⟨Awc, cwc, rfl, -, -⟩ := howc.has
                have hbwc := hbwb.grown hgwc hbwb.size (fun q hq => (World.ownsRow.lt howb q hq).1)
                have hxwc : wc.heap[H]? = some (.cells #[.int .u8 (y.toNat : Int)] 5 (0, 0)) := (hgwc.block H (Array.getElem?_eq_some_iff.1 hxwb).1 (fun e => by simp [Value.ownBlock] at e; exact hnewb e)).trans hxwb
                refine hK.out _ _ (fun _ => (HBb.out.below hbwc).byte0 HY.out) ?_
                clear hK
                simp only [Act.put]
                refine wpAnyT_one (i := 8) (by kernel_rfl) rfl (fun K hK => ?_)
                refine step_push rfl (.tmp 76) (.tmp 80) rfl wq.heap.size (.slice Awc last.length cwc) last rfl howc ⟨H, 0, none⟩ 1 [y] rfl (fun j u hu => World.news_of_block hxwc j _ (by
                  match j, hu with
                  | 0, hu => simp at hu; subst hu; rfl)) (by simp) (by have := HN.out; simp; omega) hbwc.size ?_
                intro g7 c7 w7 ho7 hg7
                have hb7 := hbwc.grown hg7 hbwc.size (fun q hq => (World.ownsRow.lt howc q hq).1)
                have hc7 : (last ++ [y]).length ≤ c7 := by
                  obtain ⟨A8, c8, e8, hc8, -⟩ := ho7.has
                  injection e8 with e1 e2 e3
                  subst e3
                  exact hc8
                have hv7 := ho7.hasV (X := some gq) (own_ne_X HXL.out ho7)
                obtain ⟨nl, hnl⟩ : ∃ nl, last.length + [y].length = nl := ⟨_, rfl⟩
                rw [hnl] at ho7 ⊢
                have hnl' : nl = (last ++ [y]).length := by rw [List.length_append, hnl]
                clear hnl
                refine hK.out _ _ (fun _ => (HBb.out.below hb7).byte0 HY.out) ?_
                clear hK
                try simp only [Act.put, List.setIfInBounds_toArray]
                have hbb8 := (HBq.out.below hb7 (Nat.le_refl _)).alloc (.cells #[.slice (some ⟨g7, 0, none⟩) nl c7] 22)
                have hv8 : HasV (w7.alloc (.cells #[.slice (some ⟨g7, 0, none⟩) nl c7] 22)) (some gq) (some ⟨g7, 0, none⟩) (last ++ [y]) := hv7.below ((Below.refl _ w7).alloc (Nat.le_refl _) _) (Nat.le_refl _)
                have hH8 : (w7.alloc (.cells #[.slice (some ⟨g7, 0, none⟩) nl c7] 22)).heap[w7.heap.size]? = some (.cells #[.slice (some ⟨g7, 0, none⟩) nl c7] 22 (0, 0)) := heap_alloc_new w7 _
                have hb8 : Below wq.heap.size wq (w7.alloc (.cells #[.slice (some ⟨g7, 0, none⟩) nl c7] 22)) := hb7.alloc hb7.size _
                have HNL := Lib.hid hnl'
                clear hnl'
                refine wpAnyT_one (i := 9) (by kernel_rfl) rfl (fun K hK => ?_)
                go_simp
                obtain ⟨H8, hHH⟩ : ∃ H8, w7.heap.size = H8 := ⟨_, rfl⟩
                rw [hHH] at hH8 ⊢
                refine hK.out _ _ (fun _ => (HBb.out.below hb8).byte0 HY.out) ?_
                clear hK hHH ho7 hg7 hv7
                generalize w7.alloc (.cells #[.slice (some ⟨g7, 0, none⟩) nl c7] 22) = w8 at *
                refine wpAnyT_one (i := 10) (by kernel_rfl) rfl (fun K hK => ?_)
                refine step_pushBB rfl (.tmp 73) (.tmp 82) rfl w.heap.size (some gq) (.slice A5 met.length c5) met rfl hbb8 (some ⟨g7, 0, none⟩) nl c7 (last ++ [y]) HNL.out hc7 hv8 H8 hH8 rfl (by have := HN.out; omega) (Nat.le_trans HBw.out.size hb8.size) ?_
                intro g9 c9 w9 hbb9 hg9 hk9
                have hO9 : Own w9 w.heap.size (.slice (some ⟨gq, 0, none⟩) (out.length + b.length) cq) (out ++ b) := row_move (HOq.out.below hb8 (Nat.le_refl _)) fun b cs fr hb => hk9 b cs _ fr hb (by decide)
                have hb9 : HasV w9 (some gq) (some ⟨bb, bo, none⟩) b := (HVb.out.below hb8 (Nat.le_refl _)).move (fun q cs fr hb _ => hk9 q cs _ fr hb (by decide)) (.inl rfl)
                have hB9 : Below w.heap.size w w9 := (HBw.out.trans (hb8.mono HBw.out.size)).grown hg9 (Nat.le_trans HBw.out.size hb8.size) (fun q hq => by obtain ⟨vs, hr, -⟩ := hbb8; exact (World.ownsRow.lt hr q hq).1)
                have HFIN := Lib.hid (And.intro hbb9 (And.intro hO9 (And.intro hb9 hB9)))
                refine hK.out _ _ (fun _ => hb9.has.byte0 HY.out) ?_
                clear hK
                try simp only [Act.put, List.setIfInBounds_toArray]
                refine wpAnyT_one (i := 11) (by kernel_rfl) rfl (fun K hK => ?_)
                go_simp
                refine hK.out _ _ (fun _ => HFIN.out.2.2.1.has.byte0 HY.out) ?_
                clear hK hbb8 hv8 hH8 hb8 hbb9 hg9 hk9 hO9 hb9 hB9 hc7 hb7
                refine wpAnyT_done (by kernel_rfl) ?_ _
                go_wp2_with fail
                go_roundw
                case rel => exact HREL.out w9 g9 c9 HFIN.out.1 HFIN.out.2.1 HFIN.out.2.2.1 HFIN.out.2.2.2
                case measure => exact HMEAS.out
            · have hl0I : ¬ 0 < (last.length : Int) := by omega
              have em : meet4 met last b = met := by unfold meet4; rw [if_neg (fun q => hl0 q.1)]
              have HRE : Hid (∃ i : Nat, i ≤ 356 ∧ Value.int .i64 ((a : Int) + 9) = .int .i64 ((9 * i : Nat) : Int) ∧ RoundS l w (.slice (some ⟨gq, 0, none⟩) (out.length + b.length) cq) (.slice A5 met.length c5) (.slice (some ⟨bb, bo, none⟩) b.length cb) i wq) := Lib.hid (by
                refine ⟨i + 1, by have := HI.out.1; omega, by congr 1; have := HI.out.2; omega, out ++ b, met, b, gq, cq, _, c5, _, cb, by rw [List.length_append], rfl, rfl, HOq.out, HBq.out, HVb.out, HBw.out, by rw [← em]; exact HST2.out, by have := HQ.out.2.1; simp; omega, by have := HN.out; simp; omega, by simp, HEL.out⟩)
              clear em hl0
              go_wp2_with fail
              go_roundw
              case rel => exact HRE.out
              case measure => exact HMEAS.out
          · have HF := Lib.hid (pakGOut_new (l := l) (w := w) (wr := w3) (by rw [HST.out, if_neg hq]) hB3)
            clear hO3 hBB3 hL3 hB3 hvb hcb
            by_cases hb0 : b.length = 0
            · have hb0I : ((b.length : Int) == 0) = true := beq_iff_eq.2 (by omega)
              clear hq
              go_wp2_with fail
              go_ret2
              exact HF.out
            · have hb0I : ((b.length : Int) == 0) = false := beq_eq_false_iff_ne.2 (by omega)
              have hb1I : (200 : Int) < (out.length : Int) + (b.length : Int) := by omega
              have hoI : (out.length : Int) ≤ 200 := by have := HN.out.1; omega
              have hbI : (b.length : Int) ≤ 301 := by have := HBL.out; omega
              clear hq hb0
              go_wp2_with fail
              go_ret2
              exact HF.out
    · obtain rfl : i = 356 := by omega
      have HF := Lib.hid (pakGOut_new (l := l) (w := w) (wr := wr) (by rw [← HG.out]; rfl) HB.out)
      clear hlt hi
      go_wp2_with fail
      go_ret2
      exact HF.out
end Go.Proofs.YtofphjfgaihjhaaDoor
