/-
  The reference's l4Bytes: the bytes of a code. Condition: what was met, and the last string, are read from memory that was there.
-/
import Derived.Test.YtofphjfgaihjhaaDoorPakSA
import Derived.Test.YtofphjfgaihjhaaDoorRegT
import Derived.Test.YtofphjfgaihjhaaDoorDrawTurn
import Derived.Test.YtofphjfgaihjhaaDoorBitPI
import Derived.Deep.CutRange
namespace Go.Proofs.YtofphjfgaihjhaaDoor
open Go.RowKit

theorem Has.byte0 {w : World} {B lb lo : Nat} {l : List UInt8} {x : UInt8} (h : Has w B (some ⟨lb, lo, none⟩) l) (hx : l[0]? = some x) : w.cell? ⟨lb, lo, none⟩ = some (.int .u8 (x.toNat : Int)) := by
  rcases h with rfl | ⟨b, o, e, _, hc⟩
  · simp at hx
  · injection e with e
    injection e with e1 e2 _
    subst e1 e2
    exact hc 0 x hx
/-- What l4Bytes answers. -/
def BytesOut (X : Option Nat) (b : List UInt8) (w : World) (e : Ending) (w' : World) : Prop := ∃ A c, e = .returned (.slice A b.length c) ∧ b.length ≤ c ∧ HasV w' X A b ∧ Below w.heap.size w w'
theorem own_ne_X {w w' : World} {X : Option Nat} {v : Value} {l : List UInt8} (hX : ∀ q, X = some q → q < w.heap.size) (ho : Own w' w.heap.size v l) : v.ownBlock ≠ X ∨ X = none := by
  cases hx : X with
  | none => exact .inr rfl
  | some q =>
    refine .inl fun e => ?_
    have h1 := hX q hx
    have h2 := (World.ownsRow.lt ho q e).1
    omega
set_option maxRecDepth 100000 in
set_option maxHeartbeats 2000000 in
theorem l4Bytes_new (cA : Nat) (A : Option Addr) (met : List (List UInt8)) (lb lo lc : Nat) (last : List UInt8) (x : UInt8) (X : Option Nat) (w : World) (hx : last[0]? = some x) (hll : last.length ≤ 300) (hm : met.length < 255) (hl : Has w w.heap.size (some ⟨lb, lo, none⟩) last) (hX : ∀ q, X = some q → q < w.heap.size) :
    Calls Tryd.prog 40 #[.slice A met.length cA, .slice (some ⟨lb, lo, none⟩) last.length lc, .int .i64 ((257 + met.length : Nat) : Int)] w (BytesOut X (last ++ [x]) w) := by
  have hlen : 0 < last.length := (List.getElem?_eq_some_iff.1 hx).1
  have HL := Lib.hid hl
  have HX := Lib.hid hx
  have HLL := Lib.hid hll
  have HFIN : Hid (∀ (w7 : World) g7 c7, Own w7 w.heap.size (.slice (some ⟨g7, 0, none⟩) (last.length + [x].length) c7) (last ++ [x]) → Below w.heap.size w w7 → BytesOut X (last ++ [x]) w (.returned (.slice (some ⟨g7, 0, none⟩) (last.length + [x].length) c7)) w7) := Lib.hid (fun w7 g7 c7 ho hb => by
    obtain ⟨A8, c8, e8, hc8, -⟩ := ho.has
    injection e8 with e1 e2 e3
    subst e1 e3
    exact ⟨_, _, by rw [List.length_append], hc8, ho.hasV (own_ne_X hX ho), hb⟩)
  obtain ⟨cd, hcd⟩ : ∃ cd : Int, ((257 + met.length : Nat) : Int) = cd := ⟨_, rfl⟩
  rw [hcd]
  have h1 : ¬ cd < 256 := by omega
  have h3' : cd - 257 = (met.length : Int) := by omega
  have h3 : (met.length : Int) < 255 := by omega
  have h5 : cd < 512 := by omega
  have hlI : 0 < (last.length : Int) := by omega
  have HS0 : w.drew.cell? ⟨lb, lo, none⟩ = some (.int .u8 (x.toNat : Int)) := hl.byte0 hx
  clear hl hx hll hm hcd hX
  go_enter Tryd.func40, Tryd.ntmps40
  go_upto_region 7 with fail
  refine wp_region_T (fun w' => w'.cell? ⟨lb, lo, none⟩ = some (.int .u8 (x.toNat : Int))) 8 (by kernel_rfl) ?_
  refine wpAnyT_take (i := 1) (d := 37) (v := .slice (some ⟨lb, lo, none⟩) last.length lc) rfl rfl (by kernel_rfl) (by kernel_rfl) (by kernel_rfl) (by kernel_rfl) (by kernel_rfl) (fun _ _ _ h => h) HS0 (Or.inl ⟨by rfl, fun w' hS' => ?_⟩) ?_
  · go_simp
  simp only [Act.put, List.setIfInBounds_toArray, List.set_cons_zero, List.set_cons_succ]
  refine wpAnyT_take (i := 3) (d := 39) (v := .slice (some ⟨lb, lo, none⟩) last.length lc) rfl rfl (by kernel_rfl) (by kernel_rfl) (by kernel_rfl) (by kernel_rfl) (by kernel_rfl) (fun _ _ _ h => h) HS0 (Or.inl ⟨by rfl, fun w' hS' => ?_⟩) ?_
  · go_simp
  simp only [Act.put, List.setIfInBounds_toArray, List.set_cons_zero, List.set_cons_succ]
  refine wpAnyT_take (i := 4) (d := 40) (v := .pointer (some ⟨lb, lo, none⟩)) rfl rfl (by kernel_rfl) (by kernel_rfl) (by kernel_rfl) (by kernel_rfl) (by kernel_rfl) (fun _ _ _ h => h) HS0 (Or.inl ⟨by rfl, fun w' hS' => ?_⟩) ?_
  · go_simp
  simp only [Act.put, List.setIfInBounds_toArray, List.set_cons_zero, List.set_cons_succ]
  refine wpAnyT_take (i := 5) (d := 41) (v := .int .u8 (x.toNat : Int)) rfl rfl (by kernel_rfl) (by kernel_rfl) (by kernel_rfl) (by kernel_rfl) (by kernel_rfl) (fun _ _ _ h => h) HS0 (Or.inl ⟨by rfl, fun w' hS' => ?_⟩) ?_
  · go_simp
  simp only [Act.put, List.setIfInBounds_toArray, List.set_cons_zero, List.set_cons_succ]
  refine wpAnyT_two (i := 0) (j := 6) (by kernel_rfl) rfl rfl (fun K hK => ?_) (fun K hK => ?_)
  · go_simp
    have hbwa : Below w.heap.size w (w.alloc (.cells #[] 5)).drew := below_drew1 ((Below.refl _ w).alloc (Nat.le_refl _) _)
    obtain ⟨g0, hg0⟩ : ∃ g0, w.heap.size = g0 := ⟨_, rfl⟩
    have howa : Own (w.alloc (.cells #[] 5)).drew w.heap.size (.slice (some ⟨g0, 0, none⟩) 0 0) [] := by rw [← hg0]; exact own_empty (w := w) (Nat.le_refl _)
    rw [hg0]
    refine hK.out _ _ (fun _ => (HL.out.below hbwa).byte0 HX.out) ?_
    clear hK hg0
    generalize (w.alloc (.cells #[] 5)).drew = wa at *
    refine wpAnyT_two (i := 2) (j := 6) (by kernel_rfl) rfl rfl (fun K hK => ?_) (fun K hK => ?_)
    · refine step_pushAllB rfl (.tmp 36) (.tmp 37) rfl w.heap.size (.slice (some ⟨g0, 0, none⟩) 0 0) [] rfl howa w.heap.size ⟨lb, lo, none⟩ lc last.length last rfl rfl (HL.out.below hbwa) (by have := HLL.out; simp; omega) hbwa.size ?_
      intro vwb wb howb hgwb
      rw [List.nil_append] at howb
      obtain ⟨Awb, cwb, rfl, -, -⟩ := howb.has
      have hbwb := hbwa.grown hgwb hbwa.size (fun q hq => (World.ownsRow.lt howa q hq).1)
      refine hK.out _ _ (fun _ => (HL.out.below hbwb).byte0 HX.out) ?_
      clear hK
      try simp only [Act.put, List.setIfInBounds_toArray]
      refine wpAnyT_one (i := 6) (by kernel_rfl) rfl (fun K hK => ?_)
      go_simp
      have hbwc : Below w.heap.size w (wb.alloc (.cells #[.int .u8 (x.toNat : Int)] 5)) := (hbwb.alloc hbwb.size _)
      have hxwc : (wb.alloc (.cells #[.int .u8 (x.toNat : Int)] 5)).heap[wb.heap.size]? = some (.cells #[.int .u8 (x.toNat : Int)] 5 (0, 0)) := heap_alloc_new wb _
      have howc : Own (wb.alloc (.cells #[.int .u8 (x.toNat : Int)] 5)) w.heap.size (.slice Awb last.length cwb) last := World.ownsRow.alloc (w := wb) howb _
      have hnewc : ∀ q, ((.slice Awb last.length cwb) : Value).ownBlock = some q → wb.heap.size ≠ q := fun q hq e => by have := (World.ownsRow.lt howb q hq).2; omega
      obtain ⟨H, hH⟩ : ∃ H, wb.heap.size = H := ⟨_, rfl⟩
      rw [hH] at hxwc hnewc ⊢
      refine hK.out _ _ (fun _ => (HL.out.below hbwc).byte0 HX.out) ?_
      clear hK hH
      generalize (wb.alloc (.cells #[.int .u8 (x.toNat : Int)] 5)) = wc at *
      refine wpAnyT_one (i := 7) (by kernel_rfl) rfl (fun K hK => ?_)
      refine step_push rfl (.tmp 38) (.tmp 42) rfl w.heap.size (.slice Awb last.length cwb) last rfl howc ⟨H, 0, none⟩ 1 [x] rfl (fun j u hu => World.news_of_block hxwc j _ (by
        match j, hu with
        | 0, hu => simp at hu; subst hu; rfl)) (by simp) (by have := HLL.out; simp; omega) hbwc.size ?_
      intro g7 c7 w7 ho7 hg7
      have hb7 := hbwc.grown hg7 hbwc.size (fun q hq => (World.ownsRow.lt howc q hq).1)
      refine hK.out _ _ (fun _ => (HL.out.below hb7).byte0 HX.out) ?_
      clear hK
      try simp only [Act.put, List.setIfInBounds_toArray]
      have HF := Lib.hid (HFIN.out w7 g7 c7 ho7 hb7)
      refine wpAnyT_one (i := 8) (by kernel_rfl) rfl (fun K hK => ?_)
      go_simp
      refine hK.out _ _ (fun _ => (HL.out.below hb7).byte0 HX.out) ?_
      clear hK ho7 hg7 hb7
      refine wpAnyT_done (by kernel_rfl) ?_ _
      go_wp2_with fail
      go_ret
      exact HF.out
    · go_simp
      have hbwb : Below w.heap.size w (wa.alloc (.cells #[.int .u8 (x.toNat : Int)] 5)) := (hbwa.alloc hbwa.size _)
      have hxwb : (wa.alloc (.cells #[.int .u8 (x.toNat : Int)] 5)).heap[wa.heap.size]? = some (.cells #[.int .u8 (x.toNat : Int)] 5 (0, 0)) := heap_alloc_new wa _
      have howb : Own (wa.alloc (.cells #[.int .u8 (x.toNat : Int)] 5)) w.heap.size (.slice (some ⟨g0, 0, none⟩) 0 0) [] := World.ownsRow.alloc (w := wa) howa _
      have hnewb : ∀ q, ((.slice (some ⟨g0, 0, none⟩) 0 0) : Value).ownBlock = some q → wa.heap.size ≠ q := fun q hq e => by have := (World.ownsRow.lt howa q hq).2; omega
      obtain ⟨H, hH⟩ : ∃ H, wa.heap.size = H := ⟨_, rfl⟩
      rw [hH] at hxwb hnewb ⊢
      refine hK.out _ _ (fun _ => (HL.out.below hbwb).byte0 HX.out) ?_
      clear hK hH
      generalize (wa.alloc (.cells #[.int .u8 (x.toNat : Int)] 5)) = wb at *
      refine wpAnyT_one (i := 2) (by kernel_rfl) rfl (fun K hK => ?_)
      refine step_pushAllB rfl (.tmp 36) (.tmp 37) rfl w.heap.size (.slice (some ⟨g0, 0, none⟩) 0 0) [] rfl howb w.heap.size ⟨lb, lo, none⟩ lc last.length last rfl rfl (HL.out.below hbwb) (by have := HLL.out; simp; omega) hbwb.size ?_
      intro vwc wc howc hgwc
      rw [List.nil_append] at howc
      obtain ⟨Awc, cwc, rfl, -, -⟩ := howc.has
      have hbwc := hbwb.grown hgwc hbwb.size (fun q hq => (World.ownsRow.lt howb q hq).1)
      have hxwc : wc.heap[H]? = some (.cells #[.int .u8 (x.toNat : Int)] 5 (0, 0)) := (hgwc.block H (Array.getElem?_eq_some_iff.1 hxwb).1 (fun e => by simp [Value.ownBlock] at e; exact (hnewb g0 rfl) e)).trans hxwb
      refine hK.out _ _ (fun _ => (HL.out.below hbwc).byte0 HX.out) ?_
      clear hK
      simp only [Act.put]
      refine wpAnyT_one (i := 7) (by kernel_rfl) rfl (fun K hK => ?_)
      refine step_push rfl (.tmp 38) (.tmp 42) rfl w.heap.size (.slice Awc last.length cwc) last rfl howc ⟨H, 0, none⟩ 1 [x] rfl (fun j u hu => World.news_of_block hxwc j _ (by
        match j, hu with
        | 0, hu => simp at hu; subst hu; rfl)) (by simp) (by have := HLL.out; simp; omega) hbwc.size ?_
      intro g7 c7 w7 ho7 hg7
      have hb7 := hbwc.grown hg7 hbwc.size (fun q hq => (World.ownsRow.lt howc q hq).1)
      refine hK.out _ _ (fun _ => (HL.out.below hb7).byte0 HX.out) ?_
      clear hK
      try simp only [Act.put, List.setIfInBounds_toArray]
      have HF := Lib.hid (HFIN.out w7 g7 c7 ho7 hb7)
      refine wpAnyT_one (i := 8) (by kernel_rfl) rfl (fun K hK => ?_)
      go_simp
      refine hK.out _ _ (fun _ => (HL.out.below hb7).byte0 HX.out) ?_
      clear hK ho7 hg7 hb7
      refine wpAnyT_done (by kernel_rfl) ?_ _
      go_wp2_with fail
      go_ret
      exact HF.out
  · go_simp
    have hbwa : Below w.heap.size w (w.alloc (.cells #[.int .u8 (x.toNat : Int)] 5)).drew := below_drew1 ((Below.refl _ w).alloc (Nat.le_refl _) _)
    have hxwa : (w.alloc (.cells #[.int .u8 (x.toNat : Int)] 5)).drew.heap[w.heap.size]? = some (.cells #[.int .u8 (x.toNat : Int)] 5 (0, 0)) := heap_alloc_new w _
    obtain ⟨H, hH⟩ : ∃ H, w.heap.size = H := ⟨_, rfl⟩
    rw [hH] at hxwa ⊢
    refine hK.out _ _ (fun _ => (HL.out.below hbwa).byte0 HX.out) ?_
    clear hK hH
    generalize (w.alloc (.cells #[.int .u8 (x.toNat : Int)] 5)).drew = wa at *
    refine wpAnyT_one (i := 0) (by kernel_rfl) rfl (fun K hK => ?_)
    go_simp
    have hbwb : Below w.heap.size w (wa.alloc (.cells #[] 5)) := (hbwa.alloc hbwa.size _)
    have hxwb : (wa.alloc (.cells #[] 5)).heap[H]? = some (.cells #[.int .u8 (x.toNat : Int)] 5 (0, 0)) := (Below.heap_alloc wa _ H (Array.getElem?_eq_some_iff.1 hxwa).1).trans hxwa
    have hnewb : H ≠ wa.heap.size := by have := (Array.getElem?_eq_some_iff.1 hxwa).1; omega
    obtain ⟨g0, hg0⟩ : ∃ g0, wa.heap.size = g0 := ⟨_, rfl⟩
    have howb : Own (wa.alloc (.cells #[] 5)) w.heap.size (.slice (some ⟨g0, 0, none⟩) 0 0) [] := by rw [← hg0]; exact own_empty (w := wa) hbwa.size
    rw [hg0] at hnewb ⊢
    refine hK.out _ _ (fun _ => (HL.out.below hbwb).byte0 HX.out) ?_
    clear hK hg0
    generalize (wa.alloc (.cells #[] 5)) = wb at *
    refine wpAnyT_one (i := 2) (by kernel_rfl) rfl (fun K hK => ?_)
    refine step_pushAllB rfl (.tmp 36) (.tmp 37) rfl w.heap.size (.slice (some ⟨g0, 0, none⟩) 0 0) [] rfl howb w.heap.size ⟨lb, lo, none⟩ lc last.length last rfl rfl (HL.out.below hbwb) (by have := HLL.out; simp; omega) hbwb.size ?_
    intro vwc wc howc hgwc
    rw [List.nil_append] at howc
    obtain ⟨Awc, cwc, rfl, -, -⟩ := howc.has
    have hbwc := hbwb.grown hgwc hbwb.size (fun q hq => (World.ownsRow.lt howb q hq).1)
    have hxwc : wc.heap[H]? = some (.cells #[.int .u8 (x.toNat : Int)] 5 (0, 0)) := (hgwc.block H (Array.getElem?_eq_some_iff.1 hxwb).1 (fun e => by simp [Value.ownBlock] at e; exact hnewb e)).trans hxwb
    refine hK.out _ _ (fun _ => (HL.out.below hbwc).byte0 HX.out) ?_
    clear hK
    simp only [Act.put]
    refine wpAnyT_one (i := 7) (by kernel_rfl) rfl (fun K hK => ?_)
    refine step_push rfl (.tmp 38) (.tmp 42) rfl w.heap.size (.slice Awc last.length cwc) last rfl howc ⟨H, 0, none⟩ 1 [x] rfl (fun j u hu => World.news_of_block hxwc j _ (by
      match j, hu with
      | 0, hu => simp at hu; subst hu; rfl)) (by simp) (by have := HLL.out; simp; omega) hbwc.size ?_
    intro g7 c7 w7 ho7 hg7
    have hb7 := hbwc.grown hg7 hbwc.size (fun q hq => (World.ownsRow.lt howc q hq).1)
    refine hK.out _ _ (fun _ => (HL.out.below hb7).byte0 HX.out) ?_
    clear hK
    try simp only [Act.put, List.setIfInBounds_toArray]
    have HF := Lib.hid (HFIN.out w7 g7 c7 ho7 hb7)
    refine wpAnyT_one (i := 8) (by kernel_rfl) rfl (fun K hK => ?_)
    go_simp
    refine hK.out _ _ (fun _ => (HL.out.below hb7).byte0 HX.out) ?_
    clear hK ho7 hg7 hb7
    refine wpAnyT_done (by kernel_rfl) ?_ _
    go_wp2_with fail
    go_ret
    exact HF.out
end Go.Proofs.YtofphjfgaihjhaaDoor
