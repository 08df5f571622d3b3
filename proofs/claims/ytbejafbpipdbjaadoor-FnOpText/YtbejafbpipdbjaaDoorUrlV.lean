/-
  The reference writes a number, and an operation. Condition: the number is not below 0.
-/
import Derived.Test.YtbejafbpipdbjaaDoorUrlB
import Derived.Test.YtbejafbpipdbjaaDoorUrlM
import Derived.Test.YtbejafbpipdbjaaDoorOpOkS
import Derived.Lib.ItoaLen
namespace Go.Proofs.YtbejafbpipdbjaaDoor
set_option maxRecDepth 4000
open Go.RowKit

/-- A byte that has just been laid, as a string. -/
theorem text_one (w : World) (x : UInt8) : (convert 44 9 (.slice (some ⟨w.heap.size, 0, none⟩) 1 1)).run Tryd.prog (w.alloc (.cells #[.int .u8 (x.toNat : Int)] 5)) = .ok (.string (bs [x])) (w.alloc (.cells #[.int .u8 (x.toNat : Int)] 5)) := by
  refine text_of_has (B := (w.alloc (.cells #[.int .u8 (x.toNat : Int)] 5)).heap.size) (l := [x]) (.inr ⟨w.heap.size, 0, rfl, by simp, fun i y hy => ?_⟩) 1
  have := laid_new w [x] 5 i y hy
  rw [plain_add] at this
  exact this
theorem run_bs_add' (a b : List UInt8) (h : a.length + b.length ≤ 1073741824) (w : World) : (Op.stringOp .add (bs a) (bs b)).run Tryd.prog w = .ok (.string (bs (a ++ b))) w := by
  rw [run_string_add_sum w (bs a) (bs b) (by rw [bs_size, bs_size]; omega), bs_app]
theorem digits_rec {n : Nat} (h : 9 < n) : Go.Lib.decDigits n = Go.Lib.decDigits (n / 10) ++ [UInt8.ofNat (48 + n % 10)] := by
  conv => lhs; rw [Go.Lib.decDigits]
  rw [dif_neg (by omega)]
theorem digits_last {n : Nat} (h : ¬ 9 < n) : Go.Lib.decDigits n = [UInt8.ofNat (48 + n)] := by
  rw [Go.Lib.decDigits, dif_pos (by omega)]
theorem digits_len9 (n : Nat) (h : n ≤ 1000000000) : (Go.Lib.decDigits n).length ≤ 20 := by
  rw [Go.Lib.decDigits_length]
  exact Go.Lib.nDigits_le20 n (by omega)
set_option maxHeartbeats 1000000 in
/-- l7Plain. -/
theorem plain_any (n : Nat) (w : World) (hn : n ≤ 1000000000) :
    Calls Tryd.prog 41 #[.int .i64 (n : Int)] w fun e w' => e = .returned (.string (bs (Go.Lib.decDigits n))) ∧ Below w.heap.size w w' := by
  have h0 : ByteArray.mk #[] = bs [] := rfl
  have HN := Lib.hid hn
  clear hn
  go_enter Tryd.func41, Tryd.ntmps41
  go_wp2_with fail
  go_loopw [0, 3] (fun v t wr => ∃ (m : Nat) (l : List UInt8), m ≤ n ∧ v = .int .i64 (m : Int) ∧ t = .string (bs l) ∧ l.length ≤ 20 ∧ Go.Lib.decDigits n = Go.Lib.decDigits m ++ l ∧ Below w.heap.size w wr) (fun v _ _ => (intOf v).toNat)
  case atStart => exact ⟨n, [], Nat.le_refl _, rfl, rfl, by simp, by simp, Below.refl _ _⟩
  case round =>
    obtain ⟨m, l, hm, rfl, rfl, hl, hd, hb⟩ := hrel
    have HM := Lib.hid hm
    have HL := Lib.hid hl
    have HD := Lib.hid hd
    have HB := Lib.hid hb
    clear hm hl hd hb
    by_cases h9 : 9 < m
    · have h9I : (9 : Int) < (m : Int) := by omega
      obtain ⟨d, hd⟩ : ∃ d : Nat, m % 10 = d := ⟨_, rfl⟩
      obtain ⟨q, hq⟩ : ∃ q : Nat, m / 10 = q := ⟨_, rfl⟩
      have e1 : (m : Int).tmod 10 = (d : Int) := by rw [Int.tmod_eq_emod_of_nonneg (by omega)]; omega
      have e1' : (m : Int) % 10 = (d : Int) := by omega
      have e2 : (m : Int).tdiv 10 = (q : Int) := by rw [Int.tdiv_eq_ediv_of_nonneg (by omega)]; omega
      have e2' : (m : Int) / 10 = (q : Int) := by omega
      have hd10 : d < 10 := by omega
      obtain ⟨x, hx⟩ : ∃ x : UInt8, UInt8.ofNat (48 + d) = x := ⟨_, rfl⟩
      have e3 : (48 : Int) + (d : Int) = (x.toNat : Int) := by rw [← hx]; have := digit_ge ⟨d, hd10⟩; simp only at this; rw [this]; omega
      have hmb : (m : Int) ≤ 1000000000 := by have := HM.out; have := HN.out; omega
      have T1 := fun u => text_one u x
      have hlen : l.length + 1 ≤ 20 := by
        have h1 := digits_len9 n HN.out
        rw [HD.out, List.length_append, digits_rec h9, List.length_append] at h1
        have := digits_ne (m / 10)
        have : 0 < (Go.Lib.decDigits (m / 10)).length := List.length_pos_iff.mpr this
        simp at h1
        omega
      have A1 := fun u => run_bs_add' [x] l (by simp; omega) u
      obtain ⟨l2, hl2⟩ : ∃ l2, [x] ++ l = l2 := ⟨_, rfl⟩
      rw [hl2] at A1
      have HL2 := Lib.hid (show l2.length ≤ 20 ∧ Go.Lib.decDigits n = Go.Lib.decDigits q ++ l2 ∧ q < m by
        refine ⟨by rw [← hl2]; simp; omega, ?_, by omega⟩
        rw [HD.out, digits_rec h9, hq, hd, hx, ← hl2]
        simp)
      clear hd hq hx hlen hl2 h9
      go_wp2_with fail
      go_roundw
      case rel => exact ⟨q, l2, by have := HL2.out.2.2; have := HM.out; omega, rfl, rfl, HL2.out.1, HL2.out.2.1, HB.out.alloc HB.out.size _⟩
      case measure => have := HL2.out.2.2; simp [intOf]; omega
    · have h9I : ¬ (9 : Int) < (m : Int) := by omega
      obtain ⟨x, hx⟩ : ∃ x : UInt8, UInt8.ofNat (48 + m) = x := ⟨_, rfl⟩
      have e3 : (48 : Int) + (m : Int) = (x.toNat : Int) := by rw [← hx]; have := digit_ge ⟨m, by omega⟩; simp only at this; rw [this]; omega
      have T1 := fun u => text_one u x
      have A1 := fun u => run_bs_add' [x] l (by have := HL.out; simp; omega) u
      have HE : Hid (Go.Lib.decDigits n = [x] ++ l) := Lib.hid (by rw [HD.out, digits_last h9, hx])
      clear hx h9
      go_wp2_with fail
      go_ret
      rw [HE.out]
      exact ⟨rfl, HB.out.alloc HB.out.size _⟩
theorem word_cells (k : Nat) (hk : k < 9) : (#[.string ⟨#[]⟩, .string ⟨#[99, 114, 111, 112]⟩, .string ⟨#[102, 108, 105, 112, 120]⟩, .string ⟨#[102, 108, 105, 112, 121]⟩, .string ⟨#[116, 117, 114, 110]⟩, .string ⟨#[103, 114, 97, 121]⟩, .string ⟨#[98, 108, 117, 114]⟩, .string ⟨#[115, 105, 122, 101]⟩, .string ⟨#[102, 108, 97, 116]⟩] : Array Value)[k]? = some (.string (bs (formN k))) ∧ (#[.int .i64 0, .int .i64 4, .int .i64 0, .int .i64 0, .int .i64 0, .int .i64 0, .int .i64 0, .int .i64 2, .int .i64 3] : Array Value)[k]? = some (.int .i64 (formK k : Int)) := by
  match k, hk with
  | 0, _ | 1, _ | 2, _ | 3, _ | 4, _ | 5, _ | 6, _ | 7, _ | 8, _ => exact ⟨rfl, rfl⟩
set_option maxHeartbeats 1000000 in
/-- l7Word. -/
theorem l7Word_any (k : Nat) (w : World) (hk : k < 9) :
    Calls Tryd.prog 40 #[.int .i64 (k : Int)] w fun e w' => e = .returned (.tuple #[.string (bs (formN k)), .int .i64 (formK k : Int)]) ∧ Below w.heap.size w w' := by
  have hb : Below w.heap.size w ((w.alloc (.cells #[.string ⟨#[]⟩, .string ⟨#[99, 114, 111, 112]⟩, .string ⟨#[102, 108, 105, 112, 120]⟩, .string ⟨#[102, 108, 105, 112, 121]⟩, .string ⟨#[116, 117, 114, 110]⟩, .string ⟨#[103, 114, 97, 121]⟩, .string ⟨#[98, 108, 117, 114]⟩, .string ⟨#[115, 105, 122, 101]⟩, .string ⟨#[102, 108, 97, 116]⟩] 9)).alloc (.cells #[.int .i64 0, .int .i64 4, .int .i64 0, .int .i64 0, .int .i64 0, .int .i64 0, .int .i64 0, .int .i64 2, .int .i64 3] 3)) := ((Below.refl _ w).alloc (Nat.le_refl _) _).alloc (by simp) _
  have hx : Box ((w.alloc (.cells #[.string ⟨#[]⟩, .string ⟨#[99, 114, 111, 112]⟩, .string ⟨#[102, 108, 105, 112, 120]⟩, .string ⟨#[102, 108, 105, 112, 121]⟩, .string ⟨#[116, 117, 114, 110]⟩, .string ⟨#[103, 114, 97, 121]⟩, .string ⟨#[98, 108, 117, 114]⟩, .string ⟨#[115, 105, 122, 101]⟩, .string ⟨#[102, 108, 97, 116]⟩] 9)).alloc (.cells #[.int .i64 0, .int .i64 4, .int .i64 0, .int .i64 0, .int .i64 0, .int .i64 0, .int .i64 0, .int .i64 2, .int .i64 3] 3)) w.heap.size #[.string ⟨#[]⟩, .string ⟨#[99, 114, 111, 112]⟩, .string ⟨#[102, 108, 105, 112, 120]⟩, .string ⟨#[102, 108, 105, 112, 121]⟩, .string ⟨#[116, 117, 114, 110]⟩, .string ⟨#[103, 114, 97, 121]⟩, .string ⟨#[98, 108, 117, 114]⟩, .string ⟨#[115, 105, 122, 101]⟩, .string ⟨#[102, 108, 97, 116]⟩] 9 := (Box.new w _ _).alloc _
  have hy : Box ((w.alloc (.cells #[.string ⟨#[]⟩, .string ⟨#[99, 114, 111, 112]⟩, .string ⟨#[102, 108, 105, 112, 120]⟩, .string ⟨#[102, 108, 105, 112, 121]⟩, .string ⟨#[116, 117, 114, 110]⟩, .string ⟨#[103, 114, 97, 121]⟩, .string ⟨#[98, 108, 117, 114]⟩, .string ⟨#[115, 105, 122, 101]⟩, .string ⟨#[102, 108, 97, 116]⟩] 9)).alloc (.cells #[.int .i64 0, .int .i64 4, .int .i64 0, .int .i64 0, .int .i64 0, .int .i64 0, .int .i64 0, .int .i64 2, .int .i64 3] 3)) (w.heap.size + 1) #[.int .i64 0, .int .i64 4, .int .i64 0, .int .i64 0, .int .i64 0, .int .i64 0, .int .i64 0, .int .i64 2, .int .i64 3] 3 := by
    have := Box.new (w.alloc (.cells #[.string ⟨#[]⟩, .string ⟨#[99, 114, 111, 112]⟩, .string ⟨#[102, 108, 105, 112, 120]⟩, .string ⟨#[102, 108, 105, 112, 121]⟩, .string ⟨#[116, 117, 114, 110]⟩, .string ⟨#[103, 114, 97, 121]⟩, .string ⟨#[98, 108, 117, 114]⟩, .string ⟨#[115, 105, 122, 101]⟩, .string ⟨#[102, 108, 97, 116]⟩] 9)) #[.int .i64 0, .int .i64 4, .int .i64 0, .int .i64 0, .int .i64 0, .int .i64 0, .int .i64 0, .int .i64 2, .int .i64 3] 3
    simpa using this
  have HB := Lib.hid hb
  have HC := Lib.hid (hx.cell (word_cells k hk).1)
  have HD := Lib.hid (hy.cell (word_cells k hk).2)
  have hkI : (k : Int) < 9 := by omega
  clear hb hx hy hk
  go_enter Tryd.func40, Tryd.ntmps40
  go_wp2_with fail
  generalize (w.alloc (.cells #[.string ⟨#[]⟩, .string ⟨#[99, 114, 111, 112]⟩, .string ⟨#[102, 108, 105, 112, 120]⟩, .string ⟨#[102, 108, 105, 112, 121]⟩, .string ⟨#[116, 117, 114, 110]⟩, .string ⟨#[103, 114, 97, 121]⟩, .string ⟨#[98, 108, 117, 114]⟩, .string ⟨#[115, 105, 122, 101]⟩, .string ⟨#[102, 108, 97, 116]⟩] 9)).alloc (.cells #[.int .i64 0, .int .i64 4, .int .i64 0, .int .i64 0, .int .i64 0, .int .i64 0, .int .i64 0, .int .i64 2, .int .i64 3] 3) = W at *
  have hc := HC.out
  have hd := HD.out
  go_quiet (fail)
  go_wp2_with fail
  exact bodyPost_ret (results_tmp2 rfl _ _ _) rfl ⟨rfl, below_draws HB.out _⟩
theorem numT_succ' {l : List Int} {k : Nat} {x : Int} (h : l[k]? = some x) : numT (l.take (k + 1)) = numT (l.take k) ++ (46 :: Go.Lib.itoa x) := by
  unfold numT
  rw [List.take_add_one, h]
  simp
set_option maxHeartbeats 2000000 in
/-- OpText of the reference. -/
theorem specOpText_any (o : Op) (w : World) :
    Calls Tryd.prog 11 #[o.v] w fun e w' => e = .returned (.string (bs (opTx o))) ∧ Below w.heap.size w w' := by
  have b0 : Below w.heap.size w (w.alloc (.cells #[.int .i64 o.k, .int .i64 o.a, .int .i64 o.b, .int .i64 o.c, .int .i64 o.d] 25)) := (Below.refl _ w).alloc (Nat.le_refl _) _
  have CO := Lib.hid (specOpOk_any o (w.alloc (.cells #[.int .i64 o.k, .int .i64 o.a, .int .i64 o.b, .int .i64 o.c, .int .i64 o.d] 25)))
  have HB0 := Lib.hid b0
  have HX0 : Hid (Box (w.alloc (.cells #[.int .i64 o.k, .int .i64 o.a, .int .i64 o.b, .int .i64 o.c, .int .i64 o.d] 25)) w.heap.size #[.int .i64 o.k, .int .i64 o.a, .int .i64 o.b, .int .i64 o.c, .int .i64 o.d] 25) := Lib.hid (Box.new w _ _)
  obtain ⟨q, hq⟩ : ∃ q, opB o = q := ⟨_, rfl⟩
  have HQ := Lib.hid hq
  rw [hq] at CO
  clear b0 hq
  unfold Op.v at CO ⊢
  go_enter Tryd.func11, Tryd.ntmps11
  go_wp2_with fail
  refine CO.out.mono ?_
  rintro e w1 ⟨rfl, b1⟩
  have HB1 := Lib.hid (HB0.out.trans (b1.mono HB0.out.size))
  have HX1 := Lib.hid (HX0.out.next b1)
  clear b1
  cases q
  · go_wp2_with fail
    go_ret
    exact ⟨by unfold opTx; rw [HQ.out]; rfl, HB1.out⟩
  · have hk := opB_kd HQ.out
    obtain ⟨M, hM⟩ := Int.eq_ofNat_of_zero_le (show 0 ≤ o.k by omega)
    have hM9 : M < 9 := by omega
    have HM := Lib.hid (show o.k.toNat = M by omega)
    have CW := Lib.hid fun u => l7Word_any M u hM9
    have x0 : w1.cell? ⟨w.heap.size, 0, none⟩ = some (.int .i64 (M : Int)) := by rw [← hM]; exact HX1.out.cell (i := 0) rfl
    have hK4 := formK_le M
    obtain ⟨N, hN⟩ : ∃ N, formK M = N := ⟨_, rfl⟩
    have HN := Lib.hid hN
    rw [hN] at CW hK4
    have hKI : (N : Int) ≤ 4 := by omega
    clear hk hM hN hM9
    go_wp2_with fail
    refine (CW.out _).mono ?_
    rintro e w2 ⟨rfl, b2⟩
    have HB2 := Lib.hid (HB1.out.trans (b2.mono HB1.out.size))
    have HX2 := Lib.hid (HX1.out.next b2)
    have x1 := HX2.out.cell (i := 1) (v := .int .i64 o.a) rfl
    have x2 := HX2.out.cell (i := 2) (v := .int .i64 o.b) rfl
    have x3 := HX2.out.cell (i := 3) (v := .int .i64 o.c) rfl
    have x4 := HX2.out.cell (i := 4) (v := .int .i64 o.d) rfl
    clear b2 x0 HX1 HX0
    go_wp2_with fail
    have HY : Hid (Box (w2.alloc (.cells #[.int .i64 o.a, .int .i64 o.b, .int .i64 o.c, .int .i64 o.d] 3)) w2.heap.size #[.int .i64 o.a, .int .i64 o.b, .int .i64 o.c, .int .i64 o.d] 3) := Lib.hid (Box.new w2 _ _)
    have HBy := Lib.hid (HB2.out.alloc HB2.out.size (.cells #[.int .i64 o.a, .int .i64 o.b, .int .i64 o.c, .int .i64 o.d] 3))
    clear x1 x2 x3 x4
    go_loopw [3, 6] (fun t i wr => ∃ k : Nat, k ≤ N ∧ i = .int .i64 (k : Int) ∧ t = .string (bs (formN M ++ numT (o.nums.take k))) ∧ Box wr w2.heap.size #[.int .i64 o.a, .int .i64 o.b, .int .i64 o.c, .int .i64 o.d] 3 ∧ Below w.heap.size w wr) (fun _ i _ => N - (intOf i).toNat)
    case atStart => exact ⟨0, Nat.zero_le _, rfl, by simp [numT], HY.out, HBy.out⟩
    case round =>
      obtain ⟨k, hk, rfl, rfl, hy, hb⟩ := hrel
      have HY' := Lib.hid hy
      have HB := Lib.hid hb
      clear hy hb HY HBy
      by_cases hlt : k < N
      · obtain ⟨x, hx⟩ : ∃ x, o.nums[k]? = some x := ⟨_, List.getElem?_eq_getElem (by simp [Op.nums]; omega)⟩
        have hx9 := opB_nums HQ.out x (List.mem_of_getElem? hx)
        obtain ⟨y, hy⟩ := Int.eq_ofNat_of_zero_le hx9.1
        have CI := Lib.hid (plain_any y wr (by omega))
        have c0 : wr.cell? ⟨w2.heap.size, k, none⟩ = some (.int .i64 (y : Int)) := HY'.out.cell (by
          rw [← hy]
          have : k = 0 ∨ k = 1 ∨ k = 2 ∨ k = 3 := by omega
          rcases this with rfl | rfl | rfl | rfl <;> (simp [Op.nums] at hx; subst hx; rfl))
        have hl1 := itoa_len hx9.1 (by omega)
        have hl2 := numT_len (o.nums.take k) (fun n hn => by have := opB_nums HQ.out n (List.mem_of_mem_take hn); omega)
        have hl3 : (o.nums.take k).length ≤ 4 := by simp [Op.nums]; omega
        have hl4 := formN_len M
        have hyy : Go.Lib.itoa x = Go.Lib.decDigits y := by rw [hy]; exact itoa_nat y
        rw [hyy] at hl1
        have A1 := fun u => run_bs_add' (formN M ++ numT (o.nums.take k)) [46] (by simp; omega) u
        have A2 := fun u => run_bs_add' (formN M ++ numT (o.nums.take k) ++ [46]) (Go.Lib.decDigits y) (by simp; omega) u
        have h46 : ByteArray.mk #[46] = bs [46] := rfl
        obtain ⟨t1, ht1⟩ : ∃ t1, formN M ++ numT (o.nums.take k) ++ [46] = t1 := ⟨_, rfl⟩
        rw [ht1] at A1 A2
        obtain ⟨t2, ht2⟩ : ∃ t2, t1 ++ Go.Lib.decDigits y = t2 := ⟨_, rfl⟩
        rw [ht2] at A2
        have HT := Lib.hid (show t2 = formN M ++ numT (o.nums.take (k + 1)) by rw [numT_succ' hx, ← ht2, ← ht1, hyy]; simp)
        have hkI : (k : Int) < (N : Int) := by omega
        clear hx hx9 hl1 hl2 hl3 hl4 ht1 ht2 hyy hy
        go_wp2_with (go_at_call 41; refine CI.out.mono ?_; rintro e w3 ⟨rfl, b3⟩)
        have HB3 := Lib.hid (HB.out.trans (b3.mono HB.out.size))
        have HY3 := Lib.hid (HY'.out.next b3)
        clear b3
        go_roundw
        case rel => exact ⟨k + 1, by omega, by go_num, by rw [HT.out], HY3.out, HB3.out⟩
        case measure => simp [intOf]; omega
      · obtain rfl : k = N := by omega
        have e : opTx o = formN M ++ numT (o.nums.take k) := by
          unfold opTx opT
          rw [HQ.out, HM.out, HN.out]
          rfl
        have HEE := Lib.hid e
        clear e
        go_wp2_with fail
        go_ret
        rw [HEE.out]
        exact ⟨rfl, HB.out⟩
end Go.Proofs.YtbejafbpipdbjaaDoor
