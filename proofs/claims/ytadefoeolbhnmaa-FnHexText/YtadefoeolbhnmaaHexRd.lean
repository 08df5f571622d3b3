/-
  spec.HexRead and impl.HexRead read two digits for each byte. Condition: at most 2^30 characters.
-/
import Derived.Test.YtadefoeolbhnmaaHexR
import Derived.Test.YtadefoeolbhnmaaPush
namespace Go.Proofs.Ytadefoeolbhnmaa
open Go.RowKit

set_option maxHeartbeats 1000000 in
theorem specHexRead_any (l : List UInt8) (w : World) (hs : l.length ≤ 1073741824) :
    Calls Try.prog 10 #[.string ⟨l.toArray⟩] w fun e w' => ∃ v, e = .returned (.tuple #[v, .bool (rdOk l)]) ∧ Own w' w.heap.size v (rd l) ∧ Below w.heap.size w w' := by
  by_cases hodd : l.length % 2 = 1
  · obtain ⟨r1, r2⟩ := rd_odd hodd
    have hoi : ((l.length : Int) % 2 == 1) = true := by simp; omega
    rw [r1, r2]
    clear r1 r2
    go_enter Try.func10, Try.ntmps10
    go_wp2
    go_ret2
    exact ⟨_, rfl, own_empty (Nat.le_refl _), (Below.refl _ _).alloc (Nat.le_refl _) _⟩
  · have hoi : ((l.length : Int) % 2 == 1) = false := by simp; omega
    go_enter Try.func10, Try.ntmps10
    go_wp2
    go_loopw [4, 5] (fun v i wr => ∃ k : Nat, 2 * k ≤ l.length ∧ i = .int .i64 (2 * (k : Int)) ∧ Own wr w.heap.size v (rdTo l k) ∧ fine l k ∧ Below w.heap.size w wr) (fun _ i _ => l.length - (intOf i).toNat)
    case atStart => exact ⟨0, by omega, rfl, own_empty (Nat.le_refl _), fine_zero l, (Below.refl _ _).alloc (Nat.le_refl _) _⟩
    case round =>
      obtain ⟨k, hk, rfl, hown, hfine, hbel⟩ := hrel
      have hws := hbel.size
      by_cases hlt : 2 * k < l.length
      · obtain ⟨a, ha⟩ : ∃ a, l[2 * k]? = some a := ⟨_, List.getElem?_eq_getElem hlt⟩
        obtain ⟨b, hb⟩ : ∃ b, l[2 * k + 1]? = some b := ⟨_, List.getElem?_eq_getElem (by omega)⟩
        have i1 := fun W => str_at W ⟨l.toArray⟩ .i64 (2 * (k : Int)) a (by omega) (by rw [show (2 * (k : Int)).toNat = 2 * k from by omega]; exact ha)
        have i2 := fun W => str_at W ⟨l.toArray⟩ .i64 (2 * (k : Int) + 1) b (by omega) (by rw [show (2 * (k : Int) + 1).toNat = 2 * k + 1 from by omega]; exact hb)
        have hk2 : 2 * (k : Int) < (l.length : Int) := by omega
        have a1 := dval_lo a
        have a2 := dval_hi a
        have b1 := dval_lo b
        have b2 := dval_hi b
        have HA := Lib.hid ha
        have HB := Lib.hid hb
        clear ha hb hoi
        go_wp2_with fail
        refine (l1Digit_any a _).mono ?_
        rintro e w' ⟨rfl, rfl⟩
        go_wp2_with fail
        refine (l1Digit_any b _).mono ?_
        rintro e w' ⟨rfl, rfl⟩
        by_cases p1 : 0 ≤ dval a
        · by_cases p2 : 0 ≤ dval b
          · have e8 : IntKind.u8.wrap (dval a * 16 + dval b) = ((two a b).toNat : Int) := by rw [IntKind.wrap_u8]; simp [two]; omega
            have hlen := rdTo_length l k
            have HT := Lib.hid (rdTo_succ l k a b HA.out HB.out)
            have hf2 := fine_succ hfine HA.out HB.out p1 p2
            clear i1 i2
            go_wp2_with (at_builtin; refine wpList_push1 rfl (.tmp 36) (.tmp 42) rfl w.heap.size _ (rdTo l k) rfl hown (two a b) wr.heap.size rfl rfl (by omega) (by omega) ?_; intro g cap w2 ho2 hg2)
            have hb2 : Below w.heap.size w w2 := (hbel.alloc hws (.cells #[.int .u8 ((two a b).toNat : Int)] 5)).grown hg2 (by simp; omega) (fun k hk => (World.ownsRow.lt hown k hk).1)
            rw [← HT.out, hlen] at ho2
            clear hg2 hown
            go_wp2
            go_roundw
            case rel => exact ⟨k + 1, by omega, by go_num, ho2, hf2, hb2⟩
            case measure => simp [intOf]; omega
          · have HR := Lib.hid (rd_bad HB.out (by omega))
            go_wp2
            go_ret2
            exact ⟨_, by rw [HR.out.1]; rfl, by rw [HR.out.2]; exact own_empty hws, hbel.alloc hws _⟩
        · have HR := Lib.hid (rd_bad HA.out (by omega))
          go_wp2
          go_ret2
          exact ⟨_, by rw [HR.out.1]; rfl, by rw [HR.out.2]; exact own_empty hws, hbel.alloc hws _⟩
      · have HR := Lib.hid (rd_fine hfine (by omega))
        go_wp2
        go_ret2
        exact ⟨_, by rw [HR.out.1]; rfl, by rw [HR.out.2]; exact hown, hbel⟩

set_option maxHeartbeats 1000000 in
theorem implHexRead_any (l : List UInt8) (w : World) (hs : l.length ≤ 1073741824) :
    Calls Try.prog 9 #[.string ⟨l.toArray⟩] w fun e w' => ∃ v, e = .returned (.tuple #[v, .bool (rdOk l)]) ∧ Own w' w.heap.size v (rd l) ∧ Below w.heap.size w w' := by
  obtain ⟨i0, hi, hz0, hz1, hz2⟩ := info_parts info8
  by_cases hodd : l.length % 2 = 1
  · obtain ⟨r1, r2⟩ := rd_odd hodd
    have hoi : ((l.length : Int) % 2 != 0) = true := by simp; omega
    rw [r1, r2]
    clear r1 r2
    go_enter Try.func9, Try.ntmps9
    go_wp2
    go_ret2
    exact ⟨_, rfl, own_nil _ _, Below.refl _ _⟩
  · have hoi : ((l.length : Int) % 2 != 0) = false := by simp; omega
    go_enter Try.func9, Try.ntmps9
    go_wp2_with (at_make; refine wpList_make_own _ rfl _ _ 22 rfl w.heap.size 5 i0 (.int .u8 0) 1 Try.underlying22 hi hz0 hz1 _ _ _ (l.length / 2) rfl rfl (by omega) (by rw [hz2]; omega) (by unfold maxLen; omega) (Nat.le_refl _) ?_; intro w1 hown hgrow)
    have hb1 : Below w.heap.size w w1 := (Below.refl _ w).grown hgrow (Nat.le_refl _) (fun _ e => by cases e)
    have ho1 : Own w1 w.heap.size (.slice (some ⟨w.heap.size, 0, none⟩) 0 (l.length / 2)) [] := hown
    clear hown hgrow
    go_loopw [4, 5] (fun v i wr => ∃ k : Nat, 2 * k ≤ l.length ∧ i = .int .i64 (2 * (k : Int)) ∧ Own wr w.heap.size v (rdTo l k) ∧ fine l k ∧ Below w.heap.size w wr) (fun _ i _ => l.length - (intOf i).toNat)
    case atStart => exact ⟨0, by omega, rfl, ho1, fine_zero l, hb1⟩
    case round =>
      obtain ⟨k, hk, rfl, hown, hfine, hbel⟩ := hrel
      have hws := hbel.size
      by_cases hlt : 2 * k < l.length
      · obtain ⟨a, ha⟩ : ∃ a, l[2 * k]? = some a := ⟨_, List.getElem?_eq_getElem hlt⟩
        obtain ⟨b, hb⟩ : ∃ b, l[2 * k + 1]? = some b := ⟨_, List.getElem?_eq_getElem (by omega)⟩
        have i1 := fun W => str_at W ⟨l.toArray⟩ .i64 (2 * (k : Int)) a (by omega) (by rw [show (2 * (k : Int)).toNat = 2 * k from by omega]; exact ha)
        have i2 := fun W => str_at W ⟨l.toArray⟩ .i64 (2 * (k : Int) + 1) b (by omega) (by rw [show (2 * (k : Int) + 1).toNat = 2 * k + 1 from by omega]; exact hb)
        have hk2 : 2 * (k : Int) < (l.length : Int) := by omega
        have a1 := dval_lo a
        have a2 := dval_hi a
        have b1 := dval_lo b
        have b2 := dval_hi b
        have HA := Lib.hid ha
        have HB := Lib.hid hb
        clear ha hb hoi
        go_wp2_with fail
        refine (indexByte_digits a _).mono ?_
        rintro e w' ⟨rfl, rfl⟩
        go_wp2_with fail
        refine (indexByte_digits b _).mono ?_
        rintro e w' ⟨rfl, rfl⟩
        by_cases p1 : 0 ≤ dval a
        · by_cases p2 : 0 ≤ dval b
          · have e8 : IntKind.u8.wrap (16 * dval a + dval b) = ((two a b).toNat : Int) := by rw [IntKind.wrap_u8]; simp [two]; omega
            have hlen := rdTo_length l k
            have HT := Lib.hid (rdTo_succ l k a b HA.out HB.out)
            have hf2 := fine_succ hfine HA.out HB.out p1 p2
            clear i1 i2
            go_wp2_with (at_builtin; refine wpList_push1 rfl (.tmp 37) (.tmp 43) rfl w.heap.size _ (rdTo l k) rfl hown (two a b) wr.heap.size rfl rfl (by omega) (by omega) ?_; intro g cap w2 ho2 hg2)
            have hb2 : Below w.heap.size w w2 := (hbel.alloc hws (.cells #[.int .u8 ((two a b).toNat : Int)] 5)).grown hg2 (by simp; omega) (fun k hk => (World.ownsRow.lt hown k hk).1)
            rw [← HT.out, hlen] at ho2
            clear hg2 hown
            go_wp2
            go_roundw
            case rel => exact ⟨k + 1, by omega, by go_num, ho2, hf2, hb2⟩
            case measure => simp [intOf]; omega
          · have HR := Lib.hid (rd_bad HB.out (by omega))
            go_wp2
            go_ret2
            exact ⟨_, by rw [HR.out.1]; rfl, by rw [HR.out.2]; exact own_nil _ _, hbel⟩
        · have HR := Lib.hid (rd_bad HA.out (by omega))
          go_wp2
          go_ret2
          exact ⟨_, by rw [HR.out.1]; rfl, by rw [HR.out.2]; exact own_nil _ _, hbel⟩
      · have HR := Lib.hid (rd_fine hfine (by omega))
        go_wp2
        go_ret2
        exact ⟨_, by rw [HR.out.1]; rfl, by rw [HR.out.2]; exact hown, hbel⟩
end Go.Proofs.Ytadefoeolbhnmaa
