/-
  The program writes an operation. Condition: the listed variables hold what they must.
-/
import Derived.Test.YtbejafbpipdbjaaDoorUrlO
namespace Go.Proofs.YtbejafbpipdbjaaDoor
set_option maxRecDepth 4000
open Go.RowKit

/-- Two strings, joined. -/
theorem run_bs_add (a b : List UInt8) (h : a.length + b.length ≤ 1073741824) (w : World) : (Op.stringOp .add (bs a) (bs b)).run Tryd.prog w = .ok (.string (bs (a ++ b))) w := by
  rw [run_string_add_sum w (bs a) (bs b) (by rw [bs_size, bs_size]; omega), bs_app]
theorem numT_succ {l : List Int} {k : Nat} {x : Int} (h : l[k]? = some x) : numT (l.take (k + 1)) = numT (l.take k) ++ (46 :: Go.Lib.itoa x) := by
  unfold numT
  rw [List.take_add_one, h]
  simp
set_option maxHeartbeats 2000000 in
/-- OpText. -/
theorem implOpText_any (o : Op) (w : World) (B : Nat) (hE : EnvW w B) (hB : B ≤ w.heap.size) :
    Calls Tryd.prog 13 #[o.v] w fun e w' => e = .returned (.string (bs (opTx o))) ∧ Below w.heap.size w w' := by
  have b0 : Below w.heap.size w (w.alloc (.cells #[.int .i64 o.k, .int .i64 o.a, .int .i64 o.b, .int .i64 o.c, .int .i64 o.d] 25)) := (Below.refl _ w).alloc (Nat.le_refl _) _
  have CO := Lib.hid (implOpOk_any o _ (hE.ran.below b0 (Nat.lt_of_lt_of_le hE.go hB)))
  have HB0 := Lib.hid b0
  have HX0 : Hid (Box (w.alloc (.cells #[.int .i64 o.k, .int .i64 o.a, .int .i64 o.b, .int .i64 o.c, .int .i64 o.d] 25)) w.heap.size #[.int .i64 o.k, .int .i64 o.a, .int .i64 o.b, .int .i64 o.c, .int .i64 o.d] 25) := Lib.hid (Box.new w _ _)
  have HE := Lib.hid (hE.up hB)
  obtain ⟨q, hq⟩ : ∃ q, opB o = q := ⟨_, rfl⟩
  have HQ := Lib.hid hq
  rw [hq] at CO
  clear hE hB b0 hq
  unfold Op.v at CO ⊢
  go_enter Tryd.func13, Tryd.ntmps13
  go_wp2_with fail
  refine CO.out.mono ?_
  rintro e w1 ⟨rfl, b1⟩
  have HB1 := Lib.hid (HB0.out.trans (b1.mono HB0.out.size))
  have HX1 := Lib.hid (HX0.out.next b1)
  clear b1
  cases q
  · go_wp2_with fail
    go_ret
    refine ⟨by unfold opTx; rw [HQ.out]; rfl, HB1.out⟩
  · have hk := opB_kd HQ.out
    obtain ⟨M, hM⟩ := Int.eq_ofNat_of_zero_le (show 0 ≤ o.k by omega)
    have hM9 : M < 9 := by omega
    have HM := Lib.hid (show o.k.toNat = M by omega)
    have HM9 := Lib.hid hM9
    have hMI : (M : Int) < 9 := by omega
    have hE1 := HE.out.below HB1.out
    have f0 := (hE1.frm.2 M hM9).1
    have f1 := (hE1.frm.2 M hM9).2
    have gl := hE1.frm.1
    have x0 : w1.cell? ⟨w.heap.size, 0, none⟩ = some (.int .i64 (M : Int)) := by rw [← hM]; exact HX1.out.cell (i := 0) rfl
    have x1 := HX1.out.cell (i := 1) (v := .int .i64 o.a) rfl
    have x2 := HX1.out.cell (i := 2) (v := .int .i64 o.b) rfl
    have x3 := HX1.out.cell (i := 3) (v := .int .i64 o.c) rfl
    have x4 := HX1.out.cell (i := 4) (v := .int .i64 o.d) rfl
    have hlt := HX1.out.lt
    have hK4 := formK_le M
    obtain ⟨N, hN⟩ : ∃ N, formK M = N := ⟨_, rfl⟩
    have HN := Lib.hid hN
    rw [hN] at f1 hK4
    have hKI : (N : Int) ≤ 4 := by omega
    clear hk hM hN hE1 hM9
    go_wp2_with fail
    have HY : Hid (Box ((w1.alloc (.cells #[.string (bs (formN M)), .int .i64 (N : Int)] 62)).alloc (.cells #[.int .i64 o.a, .int .i64 o.b, .int .i64 o.c, .int .i64 o.d] 3)) (w1.heap.size + 1) #[.int .i64 o.a, .int .i64 o.b, .int .i64 o.c, .int .i64 o.d] 3) := Lib.hid (by
      have := Box.new (w1.alloc (.cells #[.string (bs (formN M)), .int .i64 (N : Int)] 62)) #[.int .i64 o.a, .int .i64 o.b, .int .i64 o.c, .int .i64 o.d] 3
      simpa using this)
    have HB2 : Hid (Below w.heap.size w ((w1.alloc (.cells #[.string (bs (formN M)), .int .i64 (N : Int)] 62)).alloc (.cells #[.int .i64 o.a, .int .i64 o.b, .int .i64 o.c, .int .i64 o.d] 3))) := Lib.hid ((HB1.out.alloc HB1.out.size _).alloc (Nat.le_trans HB1.out.size (by simp)) _)
    clear f0 f1 gl x0 x1 x2 x3 x4 hlt
    go_loopw [4, 29] (fun t i wr => ∃ k : Nat, k ≤ N ∧ i = .int .i64 (k : Int) ∧ t = .string (bs (formN M ++ numT (o.nums.take k))) ∧ Box wr (w1.heap.size + 1) #[.int .i64 o.a, .int .i64 o.b, .int .i64 o.c, .int .i64 o.d] 3 ∧ Below w.heap.size w wr) (fun _ i _ => N - (intOf i).toNat)
    case atStart => exact ⟨0, Nat.zero_le _, rfl, by simp [numT], HY.out, HB2.out⟩
    case round =>
      obtain ⟨k, hk, rfl, rfl, hy, hb⟩ := hrel
      have HY' := Lib.hid hy
      have HB := Lib.hid hb
      clear hy hb HY HB2
      by_cases hlt : k < N
      · obtain ⟨x, hx⟩ : ∃ x, o.nums[k]? = some x := ⟨_, List.getElem?_eq_getElem (by simp [Op.nums]; omega)⟩
        have hx9 := opB_nums HQ.out x (List.mem_of_getElem? hx)
        have CI := Lib.hid (itoa_bs x wr (by omega) (by omega) (HE.out.below HB.out))
        have c0 : wr.cell? ⟨w1.heap.size + 1, k, none⟩ = some (.int .i64 x) := HY'.out.cell (by
          have : k = 0 ∨ k = 1 ∨ k = 2 ∨ k = 3 := by omega
          rcases this with rfl | rfl | rfl | rfl <;> (simp [Op.nums] at hx; subst hx; rfl))
        have hl1 := itoa_len hx9.1 (by omega)
        have hl2 := numT_len (o.nums.take k) (fun n hn => by have := opB_nums HQ.out n (List.mem_of_mem_take hn); omega)
        have hl3 : (o.nums.take k).length ≤ 4 := by simp [Op.nums]; omega
        have hl4 := formN_len M
        have A1 := fun u => run_bs_add [46] (Go.Lib.itoa x) (by simp; omega) u
        have A2 := fun u => run_bs_add (formN M ++ numT (o.nums.take k)) ([46] ++ Go.Lib.itoa x) (by simp; omega) u
        have h46 : ByteArray.mk #[46] = bs [46] := rfl
        obtain ⟨y2, hy2⟩ : ∃ y2, [46] ++ Go.Lib.itoa x = y2 := ⟨_, rfl⟩
        obtain ⟨t1, ht1⟩ : ∃ t1, formN M ++ numT (o.nums.take k) ++ y2 = t1 := ⟨_, rfl⟩
        rw [hy2] at A1 A2
        rw [ht1] at A2
        have HT := Lib.hid (show t1 = formN M ++ numT (o.nums.take (k + 1)) by rw [numT_succ hx, ← ht1, ← hy2, List.append_assoc]; rfl)
        clear hy2 ht1
        have hkI : (k : Int) < (N : Int) := by omega
        clear hx hx9 hl1 hl2 hl3 hl4
        go_wp2_with (go_at_call 42; refine CI.out.mono ?_; rintro e w3 ⟨rfl, b3⟩)
        have HB3 := Lib.hid (HB.out.trans (b3.mono HB.out.size))
        have HY3 := Lib.hid (HY'.out.next b3)
        clear b3
        go_roundw
        case rel => exact ⟨k + 1, by omega, by go_num, by rw [HT.out], HY3.out, HB3.out⟩
        case measure => simp [intOf]; omega
      · obtain rfl : k = N := by omega
        have e : opTx o = formN M ++ numT (o.nums.take k) := by
          unfold opTx opT
          rw [HQ.out, HM.out, HN.out]
          rfl
        have HEE := Lib.hid e
        clear e
        go_wp2_with fail
        go_ret
        rw [HEE.out]
        exact ⟨rfl, HB.out⟩
end Go.Proofs.YtbejafbpipdbjaaDoor
