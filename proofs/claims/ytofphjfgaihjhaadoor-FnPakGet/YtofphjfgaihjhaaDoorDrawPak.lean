/-
  DrawPakPut draws a list of bytes. Condition: at most 2^30 bytes to draw from.
-/
import Derived.Test.YtofphjfgaihjhaaDoorDrawRas
import Derived.Test.YtofphjfgaihjhaaDoorDrawB
import Derived.Test.YtofphjfgaihjhaaDoorRasBy
namespace Go.Proofs.YtofphjfgaihjhaaDoor
open Go.RowKit

theorem rasOut_le2 (W H : Int) (l : List Px) : (rasOut W H l).length ≤ 146 := by
  unfold rasOut
  cases h : rasB W H l
  · simp
  · obtain ⟨hW, hH, hl, -⟩ := rasB_parts h
    have := mul36 hW hH
    simp only [if_true, rasBy_length]
    omega
theorem own_made2 {w : World} {base n : Nat} {v : Value} (h : w.ownsRow base 5 1 v n (madeCells (Value.int .u8 0).cells (n * 1)).toList) : Own w base v (List.replicate n 0) := by
  unfold Own
  rw [Nat.mul_one] at h
  have e : (madeCells (Value.int .u8 0).cells n).toList = List.replicate n (.int .u8 0) := toList_madeCells_one _ _
  rw [e] at h
  simpa [bv] using h
/-- What DrawPakPut answers. -/
def DrewK (w : World) (e : Ending) (w' : World) : Prop := ∃ A c, ∃ l : List UInt8, e = .returned (.slice A l.length c) ∧ Has w' w'.heap.size A l ∧ l.length ≤ c ∧ l.length ≤ 1000 ∧ Below w.heap.size w w'
set_option maxRecDepth 100000 in
set_option maxHeartbeats 2000000 in
theorem drawPakPut_any (A : Option Addr) (c : Nat) (l : List UInt8) (w : World) (hs : l.length ≤ 1073741824) (hc : l.length ≤ c) (h : Has w w.heap.size A l) :
    Calls Tryd.prog 9 #[.slice A l.length c] w (DrewK w) := by
  go_enter Tryd.func9, Tryd.ntmps9
  go_wp2_with fail
  refine (l20Open_any A c l _ hs hc h).mono ?_
  rintro e w1 ⟨rfl, hr, b1⟩
  have hz1 := hr.lt
  clear h hs hc
  go_wp2_with fail
  refine (pick_any _ 0 _ _ hr (by omega) (by omega) (by omega)).mono ?_
  rintro e w2 ⟨k, rfl, hk, -, hr2, hg2, -⟩
  have B2 := below_of_grown b1 hg2 (Nat.le_refl _) b1.size
  have hk4 : k < 4 := by have := hk (by omega); omega
  have hz2 := hr2.lt
  clear hr hg2 b1 hk
  have h4 : k = 0 ∨ k = 1 ∨ k = 2 ∨ k = 3 := by omega
  clear hk4
  rcases h4 with rfl | rfl | rfl | rfl
  · go_wp2_with fail
    refine (l20Ras_any _ 1 0 _ hr2 (by omega) (by omega) (by omega)).mono ?_
    rintro e w3 ⟨W, H, A3, c3, l3, rfl, hh3, hc3, hl3, -, hg3, -⟩
    have B3 := below_of_grown B2 hg3 (Nat.le_refl _) B2.size
    have CB := Lib.hid (specRasBytes_any W H A3 c3 l3 w3 (by omega) hh3)
    have hrl := rasOut_le2 W H l3
    unfold rasV at *
    generalize rasOut W H l3 = r at *
    clear hr2 hg3 hh3 B2
    go_wp2_with fail
    refine CB.out.mono ?_
    rintro e w4 ⟨v, rfl, ho4, b4⟩
    obtain ⟨A4, c4, rfl, hc4, h4⟩ := ho4.has
    have HF : Hid (DrewK w (.returned (.slice A4 r.length c4)) w4) := Lib.hid ⟨A4, c4, r, rfl, h4, hc4, by omega, B3.trans (b4.mono B3.size)⟩
    clear ho4 h4 hc4 b4 B3 CB
    go_wp2_with fail
    go_ret
    exact HF.out
  · have ho0 : Own (w2.alloc (.cells #[] 5)) w2.heap.size (.slice (some ⟨w2.heap.size, 0, none⟩) 0 0) [] := own_empty (Nat.le_refl _)
    go_wp2_with fail
    refine (pick_any _ 1 _ _ (hr2.alloc _) (by omega) (by omega) (by omega)).mono ?_
    rintro e w3 ⟨k3, rfl, hk3, -, hr3, hg3, -⟩
    have hk3' : k3 < 200 := by have := hk3 (by omega); omega
    have HK3 := Lib.hid hk3'
    have HB3 := Lib.hid (below_of_grown (B2.alloc B2.size (.cells #[] 5)) hg3 (Nat.le_refl _) (by have := B2.size; simp; omega))
    have HO3 := Lib.hid (ho0.keepRd hg3 hz2)
    have HR3 := Lib.hid hr3
    have HZ : Hid (w2.heap.size ≤ w3.heap.size) := Lib.hid (by have := hg3.size; simp at this; omega)
    have HZ2 := Lib.hid hz2
    clear ho0 hk3 hk3' hg3 hr3 hr2 B2 hz1 hz2
    go_wp2_with fail
    go_loopw [4, 5] (fun v i wr => ∃ k p' : Nat, ∃ l : List UInt8, i = .int .i64 k ∧ Own wr w2.heap.size v l ∧ l.length + k ≤ 200 ∧ p' + k ≤ 300 ∧ Rdr wr w.heap.size p' ∧ Below w.heap.size w wr ∧ w2.heap.size ≤ wr.heap.size) (fun _ i _ => (intOf i).toNat)
    case atStart => exact ⟨k3, 2, [], rfl, HO3.out, by have := HK3.out; simp; omega, by have := HK3.out; omega, HR3.out, HB3.out, HZ.out⟩
    case round =>
      clear HO3 HR3 HB3 HZ
      obtain ⟨k, p', lx, rfl, hown, hlk, hpk, hrd, hB, hzz⟩ := hrel
      have HLK := Lib.hid (And.intro hlk hpk)
      clear hlk hpk
      obtain ⟨Ax, cx, rfl, hcx, hhx⟩ := hown.has
      by_cases hlt : 0 < k
      · have hltI : 0 < (k : Int) := by omega
        have hkw : wrap64 ((k : Int) - 1) = (k : Int) - 1 := by have := HLK.out; unfold wrap64; omega
        clear hcx hhx
        go_wp2_with fail
        refine (pick_any _ p' _ _ hrd (by have := HLK.out; omega) (by omega) (by omega)).mono ?_
        rintro e w4 ⟨a, rfl, -, -, hr4, hg4, -⟩
        obtain ⟨x, hx⟩ := byte_of (a : Int)
        have ho4 := hown.keepRd hg4 HZ2.out
        have hB4 := below_of_grown hB hg4 (Nat.le_refl _) hB.size
        have hz4 : w2.heap.size ≤ w4.heap.size := Nat.le_trans hzz hg4.size
        have HO4 := Lib.hid ho4
        have HB4 := Lib.hid hB4
        have HR4 := Lib.hid hr4
        have HZ4 := Lib.hid hz4
        clear hown hrd hB hg4 hr4 ho4 hB4 hz4 hzz
        go_wp2_with (at_builtin; refine wpList_push1 rfl (.tmp 24) (.tmp 28) rfl w2.heap.size _ lx rfl HO4.out x w4.heap.size rfl rfl (by have := HLK.out; omega) HZ4.out ?_; intro gg cap w5 ho5 hg5)
        have HO5 := Lib.hid ho5
        have HB5 := Lib.hid ((HB4.out.alloc HB4.out.size (.cells #[.int .u8 (x.toNat : Int)] 5)).grown hg5 (by have := HB4.out.size; simp; omega) (fun q hq => by have := (World.ownsRow.lt HO4.out q hq).1; have := HZ2.out; omega))
        have HR5 : Hid (Rdr w5 w.heap.size (p' + 1)) := Lib.hid ((HR4.out.alloc _).grown hg5 (fun q hq => by have := (World.ownsRow.lt HO4.out q hq).1; have := HZ2.out; omega))
        have HZ5 : Hid (w2.heap.size ≤ w5.heap.size) := Lib.hid (by have := hg5.size; have := HZ4.out; simp at *; omega)
        clear ho5 hg5 HO4 HB4 HR4 HZ4
        go_wp2
        go_roundw
        case rel => exact ⟨k - 1, p' + 1, lx ++ [x], by go_num, HO5.out, by have := HLK.out; simp; omega, by have := HLK.out; omega, HR5.out, HB5.out, HZ5.out⟩
        case measure => simp [intOf]; omega
      · have HF : Hid (DrewK w (.returned (.slice Ax lx.length cx)) wr) := Lib.hid ⟨Ax, cx, lx, rfl, hhx, hcx, by have := HLK.out; omega, hB⟩
        have hk0 : ¬ (0 : Int) < (k : Int) := by omega
        clear hown hrd hB hcx hhx hzz
        go_wp2_with fail
        go_ret
        exact HF.out
  · go_wp2_with fail
    refine (pick_any _ 1 _ _ (hr2.alloc _) (by omega) (by omega) (by omega)).mono ?_
    rintro e w3 ⟨k3, rfl, hk3, -, -, hg3, -⟩
    have hk3' : k3 < 3 := by have := hk3 (by omega); omega
    have B3 := below_of_grown (B2.alloc B2.size (.cells #[.int .i64 200, .int .i64 201, .int .i64 9] 3)) hg3 (Nat.le_refl _) (by have := B2.size; simp; omega)
    obtain ⟨n, hn, hcn⟩ : ∃ n : Nat, n ≤ 201 ∧ w3.cell? ⟨w2.heap.size, k3, none⟩ = some (.int .i64 (n : Int)) := by
      have hcc : ∀ z, #[Value.int .i64 200, .int .i64 201, .int .i64 9][k3]? = some (.int .i64 z) → w3.cell? ⟨w2.heap.size, k3, none⟩ = some (.int .i64 z) := fun z hz =>
        hg3.cell ((World.cell?_alloc_mark w2 _ _ _ k3).trans hz) (by simp; omega)
      match k3, hk3' with
      | 0, _ => exact ⟨200, by omega, hcc _ rfl⟩
      | 1, _ => exact ⟨201, by omega, hcc _ rfl⟩
      | 2, _ => exact ⟨9, by omega, hcc _ rfl⟩
    obtain ⟨i0, hi, hz0, hzz1, hz2'⟩ := info_parts info8
    have HZ1 := Lib.hid hzz1
    have HN := Lib.hid hn
    have HB3 := Lib.hid B3
    have hk3I : (k3 : Int) < 3 := by omega
    clear hr2 B2 hz1 hz2 hk3 hg3 B3 hn hk3'
    go_wp2_with (at_make; refine wpList_make_full _ rfl _ _ 22 rfl w3.heap.size 5 i0 (.int .u8 0) 1 Tryd.underlying22 hi hz0 HZ1.out _ _ _ _ n rfl rfl rfl rfl (by rw [hz2']; have := HN.out; omega) (by have := HN.out; unfold maxLen; omega) (Nat.le_refl _) ?_; intro w5 hown hgrow)
    have hb5 := HB3.out.grown hgrow HB3.out.size (fun _ e => by cases e)
    have hr5 := (own_made2 hown).reads
    go_ret
    exact ⟨some ⟨w3.heap.size, 0, none⟩, n, List.replicate n 0, by rw [List.length_replicate]; rfl, hr5, by rw [List.length_replicate]; exact Nat.le_refl _, by rw [List.length_replicate]; have := HN.out; omega, hb5⟩
  · go_wp2_with fail
    refine (l20Bytes_any _ 1 40 _ rfl _ hr2 (by omega) (by omega)).mono ?_
    rintro e w3 ⟨v, l3, p3, rfl, ho3, hl3, -, -, hg3⟩
    have B3 := below_of_grown B2 hg3 (Nat.le_refl _) B2.size
    obtain ⟨A3, c3, rfl, hc3, h3⟩ := ho3.has
    have HF : Hid (DrewK w (.returned (.slice A3 l3.length c3)) w3) := Lib.hid ⟨A3, c3, l3, rfl, h3, hc3, by omega, B3⟩
    clear ho3 h3 hc3 B3 B2 hg3 hr2
    go_wp2_with fail
    go_ret
    exact HF.out
end Go.Proofs.YtofphjfgaihjhaaDoor
