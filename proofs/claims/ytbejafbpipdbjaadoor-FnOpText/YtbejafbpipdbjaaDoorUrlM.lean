/-
  The texts of operations and of requests as plain functions, what a scanner reads of them, and what a cutter does. Plain definitions and lemmas; no condition.
-/
import Derived.Test.YtbejafbpipdbjaaDoorOpPl
import Derived.Lib.ItoaNum
import Derived.Lib.AtoiTie
namespace Go.Proofs.YtbejafbpipdbjaaDoor
set_option maxRecDepth 4000

/-- A byte of a word: a small letter or a digit. -/
def nameB (c : UInt8) : Bool := (decide (97 ≤ c.toNat) && decide (c.toNat ≤ 122)) || (decide (48 ≤ c.toNat) && decide (c.toNat ≤ 57))
/-- The word at the beginning, and what stands behind it. -/
def wd (l : List UInt8) : List UInt8 := l.takeWhile nameB
def rst (l : List UInt8) : List UInt8 := l.dropWhile nameB
/-- The names of the kinds, and how many numbers they have. -/
def formN : Nat → List UInt8
  | 1 => [99, 114, 111, 112]
  | 2 => [102, 108, 105, 112, 120]
  | 3 => [102, 108, 105, 112, 121]
  | 4 => [116, 117, 114, 110]
  | 5 => [103, 114, 97, 121]
  | 6 => [98, 108, 117, 114]
  | 7 => [115, 105, 122, 101]
  | 8 => [102, 108, 97, 116]
  | _ => []
def formK : Nat → Nat
  | 1 => 4
  | 7 => 2
  | 8 => 3
  | _ => 0
/-- The kind of a name; 0, if there is none. -/
def kindFrom (w : List UInt8) : Nat → Nat → Nat
  | _, 0 => 0
  | i, n + 1 => if formN i = w then i else kindFrom w (i + 1) n
def kindOf (w : List UInt8) : Nat := kindFrom w 0 9
theorem kindFrom_le (w : List UInt8) : ∀ i n, kindFrom w i n < i + n ∨ kindFrom w i n = 0
  | i, 0 => Or.inr rfl
  | i, n + 1 => by
    rw [kindFrom]
    split
    · left; omega
    · rcases kindFrom_le w (i + 1) n with h | h
      · left; omega
      · right; exact h
theorem kindOf_lt (w : List UInt8) : kindOf w < 9 := by
  rcases kindFrom_le w 0 9 with h | h
  · unfold kindOf; omega
  · unfold kindOf; omega
theorem kindFrom_name (w : List UInt8) : ∀ i n, kindFrom w i n ≠ 0 → formN (kindFrom w i n) = w
  | i, 0, h => absurd rfl h
  | i, n + 1, h => by
    rw [kindFrom] at h ⊢
    split
    · assumption
    · rename_i hn
      rw [if_neg hn] at h
      exact kindFrom_name w (i + 1) n h
theorem kindOf_name {w : List UInt8} (h : kindOf w ≠ 0) : formN (kindOf w) = w := kindFrom_name w 0 9 h
theorem kindOf_formN : ∀ k : Fin 9, kindOf (formN k.val) = k.val := by decide
theorem formN_word : ∀ k : Fin 9, (formN k.val).all nameB = true := by decide
theorem formN_pos : ∀ k : Fin 9, k.val ≠ 0 → formN k.val ≠ [] := by decide
theorem formK_le : ∀ k, formK k ≤ 4 := by
  intro k
  unfold formK
  split <;> omega
/-- The numbers of an operation. -/
def Op.nums (o : Op) : List Int := [o.a, o.b, o.c, o.d]
/-- A point and a number, for each. -/
def numT (l : List Int) : List UInt8 := (l.map fun n => 46 :: Go.Lib.itoa n).flatten
/-- The text of an operation that is one. -/
def opT (o : Op) : List UInt8 := formN o.k.toNat ++ numT (o.nums.take (formK o.k.toNat))
/-- The text of an operation. -/
def opTx (o : Op) : List UInt8 := if opB o then opT o else []

/-! ### Numbers -/
theorem decFrom_append (l m : List UInt8) : ∀ acc, Go.Lib.decFrom acc (l ++ m) = (Go.Lib.decFrom acc l).bind fun n => Go.Lib.decFrom n m := by
  induction l with
  | nil => intro acc; rfl
  | cons b r ih =>
    intro acc
    simp only [List.cons_append, Go.Lib.decFrom]
    cases Go.Lib.digitVal b with
    | none => rfl
    | some d => exact ih _
theorem digitVal_ofNat : ∀ u : Fin 10, Go.Lib.digitVal (UInt8.ofNat (48 + u.val)) = some u.val := by decide
theorem decFrom_digits (u : Nat) : Go.Lib.decFrom 0 (Go.Lib.decDigits u) = some u := by
  induction u using Nat.strongRecOn with
  | _ u ih =>
    rw [Go.Lib.decDigits]
    split
    · rename_i h
      simp only [Go.Lib.decFrom, digitVal_ofNat ⟨u, h⟩]
      simp
    · rename_i h
      rw [decFrom_append, ih (u / 10) (by omega)]
      simp only [Option.bind, Go.Lib.decFrom, digitVal_ofNat ⟨u % 10, Nat.mod_lt _ (by decide)⟩]
      congr 1
      omega
theorem digits_ne (u : Nat) : Go.Lib.decDigits u ≠ [] := by
  rw [Go.Lib.decDigits]
  split
  · simp
  · simp
theorem decNat_digits (u : Nat) : Go.Lib.decNat (Go.Lib.decDigits u) = some u := by
  unfold Go.Lib.decNat
  rw [if_neg (by simpa using digits_ne u), decFrom_digits]
theorem digit_name : ∀ u : Fin 10, nameB (UInt8.ofNat (48 + u.val)) = true := by decide
theorem digit_ge : ∀ u : Fin 10, (UInt8.ofNat (48 + u.val)).toNat = 48 + u.val := by decide
theorem digits_name (u : Nat) : (Go.Lib.decDigits u).all nameB = true := by
  induction u using Nat.strongRecOn with
  | _ u ih =>
    rw [Go.Lib.decDigits]
    split
    · rename_i h
      rw [List.all_cons, digit_name ⟨u, h⟩]
      rfl
    · rename_i h
      rw [List.all_append, ih (u / 10) (by omega), List.all_cons, digit_name ⟨u % 10, Nat.mod_lt _ (by decide)⟩]
      rfl
theorem digits_head (u : Nat) : ∃ d r, d < 10 ∧ Go.Lib.decDigits u = UInt8.ofNat (48 + d) :: r := by
  induction u using Nat.strongRecOn with
  | _ u ih =>
    rw [Go.Lib.decDigits]
    split
    · rename_i h
      exact ⟨u, [], h, rfl⟩
    · rename_i h
      obtain ⟨d, r, hd, e⟩ := ih (u / 10) (by omega)
      exact ⟨d, _, hd, by rw [e]; rfl⟩
theorem itoa_nat (n : Nat) : Go.Lib.itoa (n : Int) = Go.Lib.decDigits n := by
  unfold Go.Lib.itoa
  rw [if_neg (by omega)]
  rfl
theorem itoa_word {n : Int} (h : 0 ≤ n) : (Go.Lib.itoa n).all nameB = true := by
  obtain ⟨m, rfl⟩ := Int.eq_ofNat_of_zero_le h
  rw [itoa_nat]
  exact digits_name m
theorem itoa_len {n : Int} (h : 0 ≤ n) (h9 : n ≤ 9999) : 1 ≤ (Go.Lib.itoa n).length ∧ (Go.Lib.itoa n).length ≤ 4 := by
  obtain ⟨m, rfl⟩ := Int.eq_ofNat_of_zero_le h
  rw [itoa_nat, Go.Lib.decDigits_length]
  refine ⟨Go.Lib.nDigits_pos m, ?_⟩
  rw [Go.Lib.nDigits]
  split
  · omega
  · rw [Go.Lib.nDigits]
    split
    · omega
    · rw [Go.Lib.nDigits]
      split
      · omega
      · rw [Go.Lib.nDigits_small (by omega)]
        omega
theorem itoa_read {n : Int} (h : 0 ≤ n) (h9 : n ≤ 9999) : Go.Lib.atoiAll (Go.Lib.itoa n) = .ok n := by
  have hl := (itoa_len h h9).2
  rw [Go.Lib.atoiAll_short _ (by omega)]
  obtain ⟨m, rfl⟩ := Int.eq_ofNat_of_zero_le h
  rw [itoa_nat]
  obtain ⟨d, r, hd, e⟩ := digits_head m
  have hg := digit_ge ⟨d, hd⟩
  simp only at hg
  have h45 : ¬ (UInt8.ofNat (48 + d) == 45) = true := by
    intro hh
    have := beq_iff_eq.mp hh
    rw [this] at hg
    have : (45 : UInt8).toNat = 45 := rfl
    omega
  have h43 : ¬ (UInt8.ofNat (48 + d) == 43) = true := by
    intro hh
    have := beq_iff_eq.mp hh
    rw [this] at hg
    have : (43 : UInt8).toNat = 43 := rfl
    omega
  rw [e]
  unfold Go.Lib.atoi
  dsimp only
  rw [if_neg h45, if_neg h43, ← e, decNat_digits]
  rfl
/-- A word read as a number: the number, and whether it is written so. -/
def scNum (w : List UInt8) : Int × Bool :=
  match Go.Lib.atoiAll w with
  | .ok v => (v, decide (Go.Lib.itoa v = w))
  | .range => (Go.Lib.atoiSat w, false)
  | _ => (0, false)
theorem scNum_good {w : List UInt8} (h : (scNum w).2 = true) : w = Go.Lib.itoa (scNum w).1 := by
  unfold scNum at h ⊢
  cases hh : Go.Lib.atoiAll w with
  | ok v => rw [hh] at h; exact (of_decide_eq_true h).symm
  | range => rw [hh] at h; cases h
  | _ => rw [hh] at h; cases h
theorem scNum_itoa {n : Int} (h : 0 ≤ n) (h9 : n ≤ 9999) : scNum (Go.Lib.itoa n) = (n, true) := by
  unfold scNum
  rw [itoa_read h h9]
  simp

/-! ### Words -/
theorem wd_rst (l : List UInt8) : wd l ++ rst l = l := List.takeWhile_append_dropWhile
/-- What stands behind does not go on with the word. -/
def stopB (r : List UInt8) : Bool := match r with
  | [] => true
  | c :: _ => !nameB c
theorem wd_append {w r : List UInt8} (hw : w.all nameB = true) (hr : stopB r = true) : wd (w ++ r) = w ∧ rst (w ++ r) = r := by
  induction w with
  | nil =>
    cases r with
    | nil => exact ⟨rfl, rfl⟩
    | cons c r =>
      have hc : nameB c = false := by simpa [stopB] using hr
      exact ⟨by simp [wd, hc], by simp [rst, hc]⟩
  | cons a w ih =>
    rw [List.all_cons, Bool.and_eq_true] at hw
    obtain ⟨i1, i2⟩ := ih hw.2
    refine ⟨?_, ?_⟩
    · unfold wd at i1 ⊢
      rw [List.cons_append, List.takeWhile_cons, if_pos hw.1, i1]
    · unfold rst at i2 ⊢
      rw [List.cons_append, List.dropWhile_cons, if_pos hw.1, i2]
theorem rst_stop (l : List UInt8) : stopB (rst l) = true := by
  unfold rst
  induction l with
  | nil => rfl
  | cons a l ih =>
    rw [List.dropWhile_cons]
    split
    · exact ih
    · rename_i h
      simp [stopB, h]
theorem wd_all (l : List UInt8) : (wd l).all nameB = true := by
  unfold wd
  induction l with
  | nil => rfl
  | cons a l ih =>
    rw [List.takeWhile_cons]
    split
    · rename_i h
      rw [List.all_cons, h, ih]
      rfl
    · rfl

/-! ### Lists of parts -/
/-- Parts, each behind a sign: what they are, what stands behind them, and whether all are good. -/
inductive Many {α : Type} (sep : UInt8) (part : List UInt8 → α → List UInt8 → Bool → Prop) : List UInt8 → List α → List UInt8 → Bool → Prop
  | stop {l : List UInt8} : l.head? ≠ some sep → Many sep part l [] l true
  | more {t r r' : List UInt8} {x : α} {xs : List α} {g g' : Bool} : part t x r g → Many sep part r xs r' g' → Many sep part (sep :: t) (x :: xs) r' (g && g')
theorem Many.unique {α : Type} {sep : UInt8} {part : List UInt8 → α → List UInt8 → Bool → Prop}
    (hp : ∀ t x r g y s g', part t x r g → part t y s g' → x = y ∧ r = s ∧ g = g') {l r : List UInt8} {xs : List α} {g : Bool} (h : Many sep part l xs r g) :
    ∀ {ys : List α} {s : List UInt8} {g' : Bool}, Many sep part l ys s g' → xs = ys ∧ r = s ∧ g = g' := by
  induction h with
  | stop hs =>
    intro ys s g' h'
    cases h' with
    | stop _ => exact ⟨rfl, rfl, rfl⟩
    | more _ _ => exact absurd rfl hs
  | more h1 _ ih =>
    intro ys s g' h'
    cases h' with
    | stop hs => exact absurd rfl hs
    | more k1 k2 =>
      obtain ⟨rfl, rfl, rfl⟩ := hp _ _ _ _ _ _ _ h1 k1
      obtain ⟨rfl, rfl, rfl⟩ := ih k2
      exact ⟨rfl, rfl, rfl⟩
/-- A number that stands at the beginning. -/
def NumR (l : List UInt8) (n : Int) (r : List UInt8) (g : Bool) : Prop := n = (scNum (wd l)).1 ∧ r = rst l ∧ g = (scNum (wd l)).2
theorem NumR.unique {t : List UInt8} {x : Int} {r : List UInt8} {g : Bool} {y : Int} {s : List UInt8} {g' : Bool} (h : NumR t x r g) (k : NumR t y s g') : x = y ∧ r = s ∧ g = g' :=
  ⟨h.1.trans k.1.symm, h.2.1.trans k.2.1.symm, h.2.2.trans k.2.2.symm⟩
/-- The operation of a kind and numbers. -/
def mkOp (k : Nat) (l : List Int) : Op := ⟨k, l.getD 0 0, l.getD 1 0, l.getD 2 0, l.getD 3 0⟩
/-- An operation that stands at the beginning. -/
def OpR (l : List UInt8) (o : Op) (r : List UInt8) (g : Bool) : Prop :=
  ∃ ns g', Many 46 NumR (rst l) ns r g' ∧ o = mkOp (kindOf (wd l)) ns ∧ g = (g' && (decide (ns.length = formK (kindOf (wd l))) && opB o))
theorem OpR.unique {t : List UInt8} {x : Op} {r : List UInt8} {g : Bool} {y : Op} {s : List UInt8} {g' : Bool} (h : OpR t x r g) (k : OpR t y s g') : x = y ∧ r = s ∧ g = g' := by
  obtain ⟨n1, g1, h1, h2, h3⟩ := h
  obtain ⟨n2, g2, k1, k2, k3⟩ := k
  obtain ⟨rfl, rfl, rfl⟩ := h1.unique (fun _ _ _ _ _ _ _ a b => a.unique b) k1
  have e : x = y := h2.trans k2.symm
  subst e
  exact ⟨rfl, rfl, h3.trans k3.symm⟩
theorem nums_good {l r : List UInt8} {ns : List Int} {g : Bool} (h : Many 46 NumR l ns r g) (hg : g = true) : l = numT ns ++ r := by
  induction h with
  | stop _ => rfl
  | more h1 _ ih =>
    rw [Bool.and_eq_true] at hg
    obtain ⟨rfl, rfl, rfl⟩ := h1
    have e := ih hg.2
    rename_i t r' xs gg hm
    have w := scNum_good hg.1
    show 46 :: t = (46 :: Go.Lib.itoa (scNum (wd t)).1) ++ numT xs ++ r'
    rw [← w, List.append_assoc, ← e, List.cons_append, wd_rst]
theorem nums_read : ∀ {ns : List Int} {r : List UInt8}, (∀ n ∈ ns, 0 ≤ n ∧ n ≤ 9999) → stopB r = true → r.head? ≠ some 46 → Many 46 NumR (numT ns ++ r) ns r true
  | [], r, _, hs, h46 => .stop h46
  | n :: ns, r, hn, hs, h46 => by
    obtain ⟨h0, h9⟩ := hn n (List.mem_cons_self ..)
    have ih := nums_read (ns := ns) (r := r) (fun m hm => hn m (List.mem_cons_of_mem _ hm)) hs h46
    have hst : stopB (numT ns ++ r) = true := by
      cases ns with
      | nil => exact hs
      | cons m ms => rfl
    obtain ⟨e1, e2⟩ := wd_append (itoa_word h0) hst
    have : numT (n :: ns) ++ r = 46 :: (Go.Lib.itoa n ++ (numT ns ++ r)) := by
      show (46 :: Go.Lib.itoa n) ++ numT ns ++ r = _
      rw [List.append_assoc]
      rfl
    rw [this]
    have hp : NumR (Go.Lib.itoa n ++ (numT ns ++ r)) n (numT ns ++ r) true := by
      refine ⟨?_, e2.symm, ?_⟩
      · rw [e1, scNum_itoa h0 h9]
      · rw [e1, scNum_itoa h0 h9]
    exact Many.more (g := true) (g' := true) hp ih
theorem inR_iff {n lo hi : Int} : inR n lo hi = true ↔ lo ≤ n ∧ n ≤ hi := by simp [inR]
theorem opB_kd {o : Op} (h : opB o = true) : 1 ≤ o.k ∧ o.k ≤ 8 := by
  unfold opB at h
  split at h
  · omega
  · split at h
    · omega
    · split at h
      · omega
      · simp only [Bool.and_eq_true, inR_iff] at h
        omega
theorem opB_nums {o : Op} (h : opB o = true) : ∀ n ∈ o.nums, 0 ≤ n ∧ n ≤ 255 := by
  have key : (0 ≤ o.a ∧ o.a ≤ 255) ∧ (0 ≤ o.b ∧ o.b ≤ 255) ∧ (0 ≤ o.c ∧ o.c ≤ 255) ∧ (0 ≤ o.d ∧ o.d ≤ 255) := by
    unfold opB at h
    repeat' split at h
    all_goals (simp only [Bool.and_eq_true, inR_iff] at h; omega)
  intro n hn
  simp only [Op.nums, List.mem_cons, List.not_mem_nil, or_false] at hn
  rcases hn with rfl | rfl | rfl | rfl
  · exact key.1
  · exact key.2.1
  · exact key.2.2.1
  · exact key.2.2.2
/-- An operation that is one is made of its kind and of the numbers that it has. -/
theorem mkOp_self {o : Op} (h : opB o = true) : mkOp o.k.toNat (o.nums.take (formK o.k.toNat)) = o := by
  obtain ⟨k, a, b, c, d⟩ := o
  have hk := opB_kd h
  simp only at hk
  have hcases : k = 1 ∨ k = 7 ∨ k = 8 ∨ (2 ≤ k ∧ k ≤ 6) := by omega
  rcases hcases with rfl | rfl | rfl | hh
  · rfl
  · have : c = 0 ∧ d = 0 := by
      simp [opB, inR_iff] at h
      omega
    obtain ⟨rfl, rfl⟩ := this
    rfl
  · have : d = 0 := by
      simp [opB, inR_iff] at h
      omega
    subst this
    rfl
  · have h0 : a = 0 ∧ b = 0 ∧ c = 0 ∧ d = 0 := by
      unfold opB at h
      rw [if_neg (by simp only; omega), if_neg (by simp only; omega), if_neg (by simp only; omega)] at h
      simp only [Bool.and_eq_true, inR_iff] at h
      omega
    obtain ⟨rfl, rfl, rfl, rfl⟩ := h0
    have : k = 2 ∨ k = 3 ∨ k = 4 ∨ k = 5 ∨ k = 6 := by omega
    rcases this with rfl | rfl | rfl | rfl | rfl <;> rfl
theorem mkOp_nums {k : Nat} {ns : List Int} (hl : ns.length = formK k) : (mkOp k ns).nums.take (formK k) = ns := by
  have h4 := formK_le k
  rw [← hl] at h4 ⊢
  match ns, h4 with
  | [], _ => rfl
  | [a], _ => rfl
  | [a, b], _ => rfl
  | [a, b, c], _ => rfl
  | [a, b, c, d], _ => rfl
theorem op_good {l r : List UInt8} {o : Op} (h : OpR l o r true) : opB o = true ∧ l = opT o ++ r := by
  obtain ⟨ns, g', h1, rfl, h3⟩ := h
  have h3 := h3.symm
  rw [Bool.and_eq_true, Bool.and_eq_true, decide_eq_true_eq] at h3
  obtain ⟨hg, hl, hb⟩ := h3
  refine ⟨hb, ?_⟩
  have e := nums_good h1 hg
  have hk : kindOf (wd l) ≠ 0 := by
    have := (opB_kd hb).1
    intro h0
    rw [h0] at this
    simp [mkOp] at this
  unfold opT
  show l = formN ((kindOf (wd l) : Int)).toNat ++ numT ((mkOp (kindOf (wd l)) ns).nums.take (formK ((kindOf (wd l) : Int)).toNat)) ++ r
  rw [Int.toNat_natCast, kindOf_name hk, mkOp_nums hl, List.append_assoc, ← e, wd_rst]
/-- What may stand behind an operation. -/
theorem op_read {o : Op} {r : List UInt8} (h : opB o = true) (hs : stopB r = true) (h46 : r.head? ≠ some 46) : OpR (opT o ++ r) o r true := by
  have hk := opB_kd h
  obtain ⟨m, hm⟩ := Int.eq_ofNat_of_zero_le (show 0 ≤ o.k by omega)
  have hm' : o.k.toNat = m := by omega
  have hm9 : m < 9 := by omega
  have hst : stopB (numT (o.nums.take (formK m)) ++ r) = true := by
    cases (o.nums.take (formK m)) with
    | nil => exact hs
    | cons x xs => rfl
  have hw := formN_word ⟨m, hm9⟩
  obtain ⟨e1, e2⟩ := wd_append (w := formN m) hw hst
  have et : opT o ++ r = formN m ++ (numT (o.nums.take (formK m)) ++ r) := by
    unfold opT
    rw [hm', List.append_assoc]
  have hself := mkOp_self h
  rw [hm'] at hself
  have hkf : kindOf (formN m) = m := kindOf_formN ⟨m, hm9⟩
  refine ⟨o.nums.take (formK m), true, ?_, ?_, ?_⟩
  · rw [et, e2]
    exact nums_read (fun n hn => by
      have := opB_nums h n (List.mem_of_mem_take hn)
      omega) hs h46
  · rw [et, e1, hkf, hself]
  · rw [et, e1, hkf, h]
    have h4 := formK_le m
    simp [Op.nums]
    omega
/-! ### Requests -/
/-- A request. -/
structure Ask where
  ops : List Op
  path : List UInt8
  till : Int
/-- Whether bytes name an image. -/
def pathB (p : List UInt8) : Bool := decide (1 ≤ p.length) && (decide (p.length ≤ 6) && p.all nameB)
/-- Whether a request is valid. -/
def askB (a : Ask) : Bool := opsB a.ops && (pathB a.path && inR a.till 0 9999)
/-- The text of operations that are valid. -/
def opsT : List Op → List UInt8
  | [] => [45]
  | o :: l => opT o ++ (l.map fun o => 44 :: opT o).flatten
def tillM : List UInt8 := [63, 101, 61]
/-- The text of a request that is valid. -/
def askT (a : Ask) : List UInt8 := 47 :: (opsT a.ops ++ (47 :: (a.path ++ (tillM ++ Go.Lib.itoa a.till))))
/-- The text of a request. -/
def askTx (a : Ask) : List UInt8 := if askB a then askT a else []

/-! ### The scanner's way -/
/-- Operations that stand at the beginning. -/
inductive OpsR : List UInt8 → List Op → List UInt8 → Bool → Prop
  | none {t : List UInt8} : OpsR (45 :: t) [] t true
  | some {l r s : List UInt8} {o : Op} {os : List Op} {g g' : Bool} : l.head? ≠ Option.some 45 → OpR l o r g → Many 44 OpR r os s g' → OpsR l (o :: os) s (g && g')
theorem OpsR.unique {t : List UInt8} {x : List Op} {r : List UInt8} {g : Bool} {y : List Op} {s : List UInt8} {g' : Bool} (h : OpsR t x r g) (k : OpsR t y s g') : x = y ∧ r = s ∧ g = g' := by
  cases h with
  | none =>
    cases k with
    | none => exact ⟨rfl, rfl, rfl⟩
    | some hd _ _ => exact absurd rfl hd
  | some h1 h2 h3 =>
    cases k with
    | none => exact absurd rfl h1
    | some _ k2 k3 =>
      obtain ⟨rfl, rfl, rfl⟩ := h2.unique k2
      obtain ⟨rfl, rfl, rfl⟩ := h3.unique (fun _ _ _ _ _ _ _ a b => a.unique b) k3
      exact ⟨rfl, rfl, rfl⟩
theorem many_ops_good {l r : List UInt8} {os : List Op} {g : Bool} (h : Many 44 OpR l os r g) (hg : g = true) : os.all opB = true ∧ l = (os.map fun o => 44 :: opT o).flatten ++ r := by
  induction h with
  | stop _ => exact ⟨rfl, rfl⟩
  | more h1 _ ih =>
    rename_i t r1 r' x xs ga gb hm
    rw [Bool.and_eq_true] at hg
    obtain ⟨rfl, rfl⟩ := hg
    obtain ⟨i1, i2⟩ := ih rfl
    obtain ⟨k1, k2⟩ := op_good h1
    refine ⟨?_, ?_⟩
    · rw [List.all_cons, k1, i1]
      rfl
    · rw [List.map_cons, List.flatten_cons, k2, i2]
      simp
theorem ops_good {l r : List UInt8} {os : List Op} (h : OpsR l os r true) : os.all opB = true ∧ l = opsT os ++ r := by
  generalize hg : true = g at h
  cases h with
  | none => exact ⟨rfl, rfl⟩
  | some h1 h2 h3 =>
    have hg := hg.symm
    rw [Bool.and_eq_true] at hg
    obtain ⟨rfl, rfl⟩ := hg
    obtain ⟨k1, k2⟩ := op_good h2
    obtain ⟨i1, i2⟩ := many_ops_good h3 rfl
    refine ⟨?_, ?_⟩
    · rw [List.all_cons, k1, i1, Bool.and_self]
    · rw [k2, i2, opsT, List.append_assoc]
theorem many_ops_read : ∀ {os : List Op} {r : List UInt8}, os.all opB = true → stopB r = true → r.head? ≠ some 46 → r.head? ≠ some 44 → Many 44 OpR ((os.map fun o => 44 :: opT o).flatten ++ r) os r true
  | [], r, _, hs, h46, h44 => .stop h44
  | o :: os, r, hb, hs, h46, h44 => by
    rw [List.all_cons, Bool.and_eq_true] at hb
    have ih := many_ops_read (os := os) hb.2 hs h46 h44
    rw [List.map_cons, List.flatten_cons, List.append_assoc, List.cons_append]
    refine Many.more (g := true) (g' := true) (op_read hb.1 ?_ ?_) ih
    · cases os with
      | nil => exact hs
      | cons p ps => rfl
    · cases os with
      | nil => exact h46
      | cons p ps => simp
theorem opT_head {o : Op} (h : opB o = true) : ∃ c t, opT o = c :: t ∧ nameB c = true := by
  have hk := opB_kd h
  obtain ⟨m, hm⟩ := Int.eq_ofNat_of_zero_le (show 0 ≤ o.k by omega)
  have hm' : o.k.toNat = m := by omega
  have h1 := formN_pos ⟨m, by omega⟩ (by simp only; omega)
  have h2 := formN_word ⟨m, by omega⟩
  simp only at h1 h2
  unfold opT
  rw [hm']
  cases hf : formN m with
  | nil => exact absurd hf h1
  | cons c t =>
    rw [hf, List.all_cons, Bool.and_eq_true] at h2
    exact ⟨c, t ++ numT (o.nums.take (formK m)), rfl, h2.1⟩
theorem ops_read {os : List Op} {r : List UInt8} (hb : os.all opB = true) (hs : stopB r = true) (h46 : r.head? ≠ some 46) (h44 : r.head? ≠ some 44) : OpsR (opsT os ++ r) os r true := by
  cases os with
  | nil => exact .none
  | cons o os =>
    rw [List.all_cons, Bool.and_eq_true] at hb
    have hm := many_ops_read hb.2 hs h46 h44
    rw [opsT, List.append_assoc]
    obtain ⟨c, t, hc, hn⟩ := opT_head hb.1
    refine OpsR.some (g := true) (g' := true) ?_ (op_read hb.1 ?_ ?_) hm
    · rw [hc]
      simp only [List.cons_append, List.head?_cons, ne_eq, Option.some.injEq]
      intro hh
      subst hh
      cases hn
    · cases os with
      | nil => exact hs
      | cons p ps => rfl
    · cases os with
      | nil => exact h46
      | cons p ps => simp
/-- A mark at the beginning: what stands behind it, and whether it is there. -/
def cutP (p l : List UInt8) : List UInt8 := if p.isPrefixOf l then l.drop p.length else l
theorem cutP_good {p l : List UInt8} (h : p.isPrefixOf l = true) : l = p ++ cutP p l := by
  unfold cutP
  rw [if_pos h]
  have := List.isPrefixOf_iff_prefix.mp h
  obtain ⟨t, ht⟩ := this
  rw [← ht, List.drop_left]
theorem cutP_read (p r : List UInt8) : p.isPrefixOf (p ++ r) = true ∧ cutP p (p ++ r) = r := by
  have h : p.isPrefixOf (p ++ r) = true := List.isPrefixOf_iff_prefix.mpr ⟨r, rfl⟩
  refine ⟨h, ?_⟩
  unfold cutP
  rw [if_pos h, List.drop_left]
/-- A request that stands at the beginning. -/
def AskR (l : List UInt8) (a : Ask) (r : List UInt8) (g : Bool) : Prop :=
  ∃ r2 g2 g6, OpsR (cutP [47] l) a.ops r2 g2 ∧ a.path = wd (cutP [47] r2) ∧ NumR (cutP tillM (rst (cutP [47] r2))) a.till r g6 ∧
    g = (List.isPrefixOf [47] l && (g2 && (List.isPrefixOf [47] r2 && (tillM.isPrefixOf (rst (cutP [47] r2)) && (g6 && askB a)))))
theorem AskR.unique {t : List UInt8} {x : Ask} {r : List UInt8} {g : Bool} {y : Ask} {s : List UInt8} {g' : Bool} (h : AskR t x r g) (k : AskR t y s g') : x = y ∧ r = s ∧ g = g' := by
  obtain ⟨r2, g2, g6, h1, h2, h3, h4⟩ := h
  obtain ⟨s2, k2, k6, j1, j2, j3, j4⟩ := k
  obtain ⟨e1, rfl, rfl⟩ := h1.unique j1
  obtain ⟨e3, rfl, rfl⟩ := h3.unique j3
  have e : x = y := by
    obtain ⟨xo, xp, xt⟩ := x
    obtain ⟨yo, yp, yt⟩ := y
    simp only at e1 e3 h2 j2
    rw [e1, e3, h2, j2]
  subst e
  exact ⟨rfl, rfl, h4.trans j4.symm⟩
theorem ask_good {l r : List UInt8} {a : Ask} (h : AskR l a r true) : askB a = true ∧ l = askT a ++ r := by
  obtain ⟨r2, g2, g6, h1, h2, h3, h4⟩ := h
  have h4 := h4.symm
  simp only [Bool.and_eq_true] at h4
  obtain ⟨m1, rfl, m3, m4, rfl, hb⟩ := h4
  refine ⟨hb, ?_⟩
  obtain ⟨-, e1⟩ := ops_good h1
  obtain ⟨n1, n2, n3⟩ := h3
  have e5 := scNum_good n3.symm
  rw [← n1] at e5
  have e4 := wd_rst (cutP tillM (rst (cutP [47] r2)))
  rw [← n2, e5] at e4
  have e6 := cutP_good m4
  rw [← e4] at e6
  have e7 := wd_rst (cutP [47] r2)
  rw [← h2, e6] at e7
  have e8 := cutP_good m3
  rw [← e7] at e8
  have e9 := cutP_good m1
  rw [e1, e8] at e9
  rw [e9]
  simp [askT]
theorem ask_parts {a : Ask} (h : askB a = true) : a.ops.all opB = true ∧ a.ops.length ≤ 5 ∧ 1 ≤ a.path.length ∧ a.path.length ≤ 6 ∧ a.path.all nameB = true ∧ 0 ≤ a.till ∧ a.till ≤ 9999 := by
  unfold askB opsB pathB at h
  simp only [Bool.and_eq_true, inR_iff, decide_eq_true_eq] at h
  obtain ⟨⟨h1, h2⟩, ⟨h3, h4, h5⟩, h6, h7⟩ := h
  exact ⟨h1, h2, h3, h4, h5, h6, h7⟩
theorem ask_read {a : Ask} (h : askB a = true) : AskR (askT a) a [] true := by
  obtain ⟨hb, -, -, -, hp, h0, h9⟩ := ask_parts h
  have c1 := cutP_read [47] (opsT a.ops ++ (47 :: (a.path ++ (tillM ++ Go.Lib.itoa a.till))))
  have c3 := cutP_read [47] (a.path ++ (tillM ++ Go.Lib.itoa a.till))
  have c5 := cutP_read tillM (Go.Lib.itoa a.till)
  have w1 := wd_append (w := a.path) (r := tillM ++ Go.Lib.itoa a.till) hp rfl
  have w2 := wd_append (w := Go.Lib.itoa a.till) (r := []) (itoa_word h0) rfl
  rw [List.append_nil] at w2
  have hops := ops_read (os := a.ops) (r := 47 :: (a.path ++ (tillM ++ Go.Lib.itoa a.till))) hb rfl (by simp) (by simp)
  have t0 : askT a = [47] ++ (opsT a.ops ++ (47 :: (a.path ++ (tillM ++ Go.Lib.itoa a.till)))) := rfl
  have t3 : (47 :: (a.path ++ (tillM ++ Go.Lib.itoa a.till))) = [47] ++ (a.path ++ (tillM ++ Go.Lib.itoa a.till)) := rfl
  refine ⟨47 :: (a.path ++ (tillM ++ Go.Lib.itoa a.till)), true, true, ?_, ?_, ?_, ?_⟩
  · rw [t0, c1.2]
    exact hops
  · rw [t3, c3.2, w1.1]
  · rw [t3, c3.2, w1.2, c5.2]
    exact ⟨by rw [w2.1, scNum_itoa h0 h9], w2.2.symm, by rw [w2.1, scNum_itoa h0 h9]⟩
  · rw [h, t0, c1.1, t3, c3.1, c3.2, w1.2, c5.1]
    rfl

/-! ### What a reader answers -/
def OpRd (s : List UInt8) : Option Op → Prop
  | some o => opB o = true ∧ opT o = s
  | none => ∀ o, opB o = true → opT o ≠ s
def AskRd (s : List UInt8) : Option Ask → Prop
  | some a => askB a = true ∧ askT a = s
  | none => ∀ a, askB a = true → askT a ≠ s
theorem op_of_text {a b : Op} (ha : opB a = true) (hb : opB b = true) (h : opT a = opT b) : a = b := by
  have h1 := op_read (r := []) ha rfl (by simp)
  have h2 := op_read (r := []) hb rfl (by simp)
  rw [h] at h1
  exact (h1.unique h2).1
theorem ask_of_text {a b : Ask} (ha : askB a = true) (hb : askB b = true) (h : askT a = askT b) : a = b := by
  have h1 := ask_read ha
  have h2 := ask_read hb
  rw [h] at h1
  exact (h1.unique h2).1
theorem OpRd.unique {s : List UInt8} : ∀ {x y : Option Op}, OpRd s x → OpRd s y → x = y
  | some a, some b, h, k => by rw [op_of_text h.1 k.1 (h.2.trans k.2.symm)]
  | some a, none, h, k => absurd h.2 (k a h.1)
  | none, some b, h, k => absurd k.2 (h b k.1)
  | none, none, _, _ => rfl
theorem AskRd.unique {s : List UInt8} : ∀ {x y : Option Ask}, AskRd s x → AskRd s y → x = y
  | some a, some b, h, k => by rw [ask_of_text h.1 k.1 (h.2.trans k.2.symm)]
  | some a, none, h, k => absurd h.2 (k a h.1)
  | none, some b, h, k => absurd k.2 (h b k.1)
  | none, none, _, _ => rfl
theorem OpRd.of_scan {s r : List UInt8} {o : Op} {g : Bool} (h : OpR s o r g) : OpRd s (if r = [] ∧ g = true then some o else none) := by
  by_cases hh : r = [] ∧ g = true
  · rw [if_pos hh]
    obtain ⟨rfl, rfl⟩ := hh
    obtain ⟨h1, h2⟩ := op_good h
    exact ⟨h1, by rw [h2, List.append_nil]⟩
  · rw [if_neg hh]
    intro b hb hs
    have hk := op_read (r := []) hb rfl (by simp)
    rw [List.append_nil, hs] at hk
    obtain ⟨-, e2, e3⟩ := h.unique hk
    exact hh ⟨e2, e3⟩
theorem AskRd.of_scan {s r : List UInt8} {a : Ask} {g : Bool} (h : AskR s a r g) : AskRd s (if r = [] ∧ g = true then some a else none) := by
  by_cases hh : r = [] ∧ g = true
  · rw [if_pos hh]
    obtain ⟨rfl, rfl⟩ := hh
    obtain ⟨h1, h2⟩ := ask_good h
    exact ⟨h1, by rw [h2, List.append_nil]⟩
  · rw [if_neg hh]
    intro b hb hs
    have hk := ask_read hb
    rw [hs] at hk
    obtain ⟨-, e2, e3⟩ := h.unique hk
    exact hh ⟨e2, e3⟩
/-- How long a text is. -/
theorem numT_len : ∀ (l : List Int), (∀ n ∈ l, 0 ≤ n ∧ n ≤ 9999) → (numT l).length ≤ 5 * l.length
  | [], _ => Nat.le_refl _
  | n :: l, h => by
    have h1 := itoa_len (h n (List.mem_cons_self ..)).1 (h n (List.mem_cons_self ..)).2
    have ih := numT_len l (fun m hm => h m (List.mem_cons_of_mem _ hm))
    unfold numT at ih ⊢
    rw [List.map_cons, List.flatten_cons, List.length_append, List.length_cons, List.length_cons]
    omega
theorem formN_len : ∀ k, (formN k).length ≤ 5 := by
  intro k
  unfold formN
  split <;> simp
theorem opT_len {o : Op} (h : opB o = true) : (opT o).length ≤ 25 := by
  have h1 := numT_len (o.nums.take (formK o.k.toNat)) (fun n hn => by
    have := opB_nums h n (List.mem_of_mem_take hn)
    omega)
  have h2 := formN_len o.k.toNat
  have h3 : (o.nums.take (formK o.k.toNat)).length ≤ 4 := by simp [Op.nums]; omega
  unfold opT
  rw [List.length_append]
  omega
theorem opsT_len : ∀ {os : List Op}, os.all opB = true → (opsT os).length ≤ 26 * os.length + 1 := by
  have step : ∀ {os : List Op}, os.all opB = true → ((os.map fun o => 44 :: opT o).flatten).length ≤ 26 * os.length := by
    intro os
    induction os with
    | nil => intro _; exact Nat.le_refl _
    | cons o os ih =>
      intro h
      rw [List.all_cons, Bool.and_eq_true] at h
      have := ih h.2
      have := opT_len h.1
      rw [List.map_cons, List.flatten_cons, List.length_append, List.length_cons, List.length_cons]
      omega
  intro os h
  cases os with
  | nil => simp [opsT]
  | cons o os =>
    rw [List.all_cons, Bool.and_eq_true] at h
    have := step h.2
    have := opT_len h.1
    rw [opsT, List.length_append, List.length_cons]
    omega
theorem askT_len {a : Ask} (h : askB a = true) : (askT a).length ≤ 150 := by
  obtain ⟨hb, h5, h1, h6, hp, h0, h9⟩ := ask_parts h
  have e1 := opsT_len hb
  have e2 := (itoa_len h0 h9).2
  simp only [askT, tillM, List.length_cons, List.length_append, List.length_nil]
  omega
/-! ### The reference's way -/
/-- The parts between signs. -/
def cutL (c : UInt8) : List UInt8 → List (List UInt8)
  | [] => [[]]
  | x :: l => if x = c then [] :: cutL c l else ((x :: (cutL c l).headD []) :: (cutL c l).tail)
theorem cutL_ne (c : UInt8) (l : List UInt8) : cutL c l ≠ [] := by
  cases l with
  | nil => simp [cutL]
  | cons x l =>
    rw [cutL]
    split <;> simp
theorem cutL_cons (c : UInt8) (l : List UInt8) : cutL c l = (cutL c l).headD [] :: (cutL c l).tail := by
  cases h : cutL c l with
  | nil => exact absurd h (cutL_ne c l)
  | cons x xs => rfl
/-- One part goes on: bytes ahead of the first part. -/
def preW (w : List UInt8) (L : List (List UInt8)) : List (List UInt8) := (w ++ L.headD []) :: L.tail
theorem preW_nil (c : UInt8) (l : List UInt8) : preW [] (cutL c l) = cutL c l := (cutL_cons c l).symm
theorem preW_hit (c : UInt8) (w l : List UInt8) : preW w (cutL c (c :: l)) = w :: cutL c l := by
  rw [cutL, if_pos rfl]
  simp [preW]
theorem preW_on {c x : UInt8} (h : x ≠ c) (w l : List UInt8) : preW w (cutL c (x :: l)) = preW (w ++ [x]) (cutL c l) := by
  rw [cutL, if_neg h]
  simp [preW]
theorem preW_end (c : UInt8) (w : List UInt8) : preW w (cutL c []) = [w] := by simp [preW, cutL]
theorem cutL_none {c : UInt8} : ∀ {l : List UInt8}, c ∉ l → cutL c l = [l]
  | [], _ => rfl
  | x :: l, h => by
    rw [cutL, if_neg (fun e : x = c => h (e ▸ List.mem_cons_self ..)), cutL_none (fun hm => h (List.mem_cons_of_mem _ hm))]
    rfl
theorem cutL_at {c : UInt8} {b : List UInt8} : ∀ {a : List UInt8}, c ∉ a → cutL c (a ++ c :: b) = a :: cutL c b
  | [], _ => by rw [List.nil_append, cutL, if_pos rfl]
  | x :: l, h => by
    rw [List.cons_append, cutL, if_neg (fun e : x = c => h (e ▸ List.mem_cons_self ..)), cutL_at (fun hm => h (List.mem_cons_of_mem _ hm))]
    rfl
theorem cutL_many {c : UInt8} : ∀ {ws : List (List UInt8)} {w : List UInt8}, (∀ x ∈ w :: ws, c ∉ x) → cutL c (w ++ (ws.map fun x => c :: x).flatten) = w :: ws
  | [], w, h => by
    rw [List.map_nil, List.flatten_nil, List.append_nil]
    exact cutL_none (h w (List.mem_cons_self ..))
  | v :: ws, w, h => by
    rw [List.map_cons, List.flatten_cons, List.cons_append, cutL_at (h w (List.mem_cons_self ..)), cutL_many (fun x hx => h x (List.mem_cons_of_mem _ hx))]
theorem cutL_join (c : UInt8) (l : List UInt8) : l = (cutL c l).headD [] ++ ((cutL c l).tail.map fun x => c :: x).flatten := by
  induction l with
  | nil => rfl
  | cons x l ih =>
    rw [cutL]
    split
    · rename_i h
      subst h
      rw [List.headD_cons, List.tail_cons, List.nil_append]
      rw [cutL_cons x l]
      rw [List.map_cons, List.flatten_cons, List.cons_append, ← ih]
    · rw [List.headD_cons, List.tail_cons, List.cons_append, ← ih]
/-- A number of at most four digits; -1, if it is none. -/
def num4 (s : List UInt8) : Int := if s.length = 0 ∨ 4 < s.length then -1 else match Go.Lib.decFrom 0 s with
  | none => -1
  | some n => if Go.Lib.decDigits n = s then (n : Int) else -1
theorem num4_itoa {n : Int} (h : 0 ≤ n) (h9 : n ≤ 9999) : num4 (Go.Lib.itoa n) = n := by
  have hl := itoa_len h h9
  unfold num4
  rw [if_neg (by omega)]
  obtain ⟨m, rfl⟩ := Int.eq_ofNat_of_zero_le h
  rw [itoa_nat, decFrom_digits]
  simp
/-- The i-th number of parts. -/
def numAt (L : List (List UInt8)) (i : Nat) : Int := match L[i]? with
  | some s => num4 s
  | none => 0
theorem name_not {c : UInt8} (h : nameB c = false) {l : List UInt8} (hl : l.all nameB = true) : c ∉ l := by
  intro hm
  have := List.all_eq_true.mp hl c hm
  rw [h] at this
  cases this
theorem nums_cut {k : Nat} {ns : List Int} (hk : k < 9) (hn : ∀ n ∈ ns, 0 ≤ n ∧ n ≤ 9999) : cutL 46 (formN k ++ numT ns) = formN k :: ns.map Go.Lib.itoa := by
  have := cutL_many (c := 46) (w := formN k) (ws := ns.map Go.Lib.itoa) (by
    intro x hx
    rcases List.mem_cons.mp hx with rfl | hx
    · exact name_not rfl (formN_word ⟨k, hk⟩)
    · obtain ⟨n, hm, rfl⟩ := List.mem_map.mp hx
      exact name_not rfl (itoa_word (hn n hm).1))
  rw [List.map_map] at this
  exact this
/-- The text of an operation, cut, has its kind and its numbers. -/
theorem opT_cut {o : Op} (h : opB o = true) : ∃ m, m < 9 ∧ 1 ≤ m ∧ (m : Int) = o.k ∧ numAt (cutL 46 (opT o)) 1 = o.a ∧ numAt (cutL 46 (opT o)) 2 = o.b ∧ numAt (cutL 46 (opT o)) 3 = o.c ∧ numAt (cutL 46 (opT o)) 4 = o.d := by
  have hk := opB_kd h
  obtain ⟨m, hm⟩ := Int.eq_ofNat_of_zero_le (show 0 ≤ o.k by omega)
  have hm' : o.k.toNat = m := by omega
  have hself := mkOp_self h
  have hnum := opB_nums h
  have hcut := nums_cut (k := m) (ns := o.nums.take (formK m)) (by omega) (fun n hn => by
    have := hnum n (List.mem_of_mem_take hn)
    omega)
  have et : opT o = formN m ++ numT (o.nums.take (formK m)) := by
    unfold opT
    rw [hm']
  rw [hm'] at hself
  rw [et, hcut]
  have h9 : ∀ n ∈ o.nums, num4 (Go.Lib.itoa n) = n := fun n hn => num4_itoa (hnum n hn).1 (by have := (hnum n hn).2; omega)
  have step : ∀ (l : List Int) (i : Nat), (∀ n ∈ l, num4 (Go.Lib.itoa n) = n) → numAt (formN m :: l.map Go.Lib.itoa) (i + 1) = l.getD i 0 := by
    intro l i hl
    unfold numAt
    rw [List.getElem?_cons_succ, List.getElem?_map]
    by_cases hi : i < l.length
    · rw [List.getElem?_eq_getElem hi, Option.map_some, List.getD_eq_getElem?_getD, List.getElem?_eq_getElem hi, Option.getD_some]
      exact hl _ (List.getElem_mem hi)
    · rw [List.getElem?_eq_none (by omega), List.getD_eq_getElem?_getD, List.getElem?_eq_none (by omega)]
      rfl
  have hs := step (o.nums.take (formK m))
  have hl := fun n (hn : n ∈ o.nums.take (formK m)) => h9 n (List.mem_of_mem_take hn)
  refine ⟨m, by omega, by omega, by omega, ?_, ?_, ?_, ?_⟩
  · rw [hs 0 hl]
    exact congrArg Op.a hself
  · rw [hs 1 hl]
    exact congrArg Op.b hself
  · rw [hs 2 hl]
    exact congrArg Op.c hself
  · rw [hs 3 hl]
    exact congrArg Op.d hself
/-- What the reader of all operations answers. -/
def OpsRd (s : List UInt8) : Option (List Op) → Prop
  | some os => os.all opB = true ∧ opsT os = s
  | none => ∀ os, os.all opB = true → opsT os ≠ s
theorem opT_no {o : Op} (h : opB o = true) {c : UInt8} (hc : nameB c = false) (h46 : c ≠ 46) : c ∉ opT o := by
  have hk := opB_kd h
  have hnum := opB_nums h
  unfold opT
  intro hm
  rcases List.mem_append.mp hm with hm | hm
  · exact name_not hc (formN_word ⟨o.k.toNat, by omega⟩) hm
  · unfold numT at hm
    obtain ⟨x, hx, hcx⟩ := List.mem_flatten.mp hm
    obtain ⟨n, hn, rfl⟩ := List.mem_map.mp hx
    rcases List.mem_cons.mp hcx with rfl | hcx
    · exact h46 rfl
    · exact name_not hc (itoa_word (hnum n (List.mem_of_mem_take hn)).1) hcx
theorem opsT_cut {o : Op} {os : List Op} (h : (o :: os).all opB = true) : cutL 44 (opsT (o :: os)) = opT o :: os.map opT := by
  have := cutL_many (c := 44) (w := opT o) (ws := os.map opT) (by
    intro x hx
    obtain ⟨p, hp, rfl⟩ := List.mem_map.mp (show x ∈ (o :: os).map opT from hx)
    exact opT_no (List.all_eq_true.mp h p hp) rfl (by decide))
  rw [List.map_map] at this
  exact this
theorem opsT_no {os : List Op} (h : os.all opB = true) {c : UInt8} (hc : nameB c = false) (h46 : c ≠ 46) (h44 : c ≠ 44) (h45 : c ≠ 45) : c ∉ opsT os := by
  cases os with
  | nil =>
    intro hm
    rcases List.mem_cons.mp hm with rfl | hm
    · exact h45 rfl
    · cases hm
  | cons o os =>
    rw [List.all_cons, Bool.and_eq_true] at h
    intro hm
    rw [opsT] at hm
    rcases List.mem_append.mp hm with hm | hm
    · exact opT_no h.1 hc h46 hm
    · obtain ⟨x, hx, hcx⟩ := List.mem_flatten.mp hm
      obtain ⟨p, hp, rfl⟩ := List.mem_map.mp hx
      rcases List.mem_cons.mp hcx with rfl | hcx
      · exact h44 rfl
      · exact opT_no (List.all_eq_true.mp h.2 p hp) hc h46 hcx
/-- A request's text, cut at its strokes, and its last part at the mark. -/
theorem askT_cut {a : Ask} (h : askB a = true) : cutL 47 (askT a) = [[], opsT a.ops, a.path ++ (tillM ++ Go.Lib.itoa a.till)] ∧ cutL 63 (a.path ++ (tillM ++ Go.Lib.itoa a.till)) = [a.path, 101 :: 61 :: Go.Lib.itoa a.till] := by
  obtain ⟨hb, -, -, -, hp, h0, h9⟩ := ask_parts h
  have hi := itoa_word h0
  have hno : ∀ c : UInt8, nameB c = false → c ≠ 63 → c ≠ 61 → c ∉ a.path ++ (tillM ++ Go.Lib.itoa a.till) := by
    intro c hc h1 h3 hm
    rcases List.mem_append.mp hm with hm | hm
    · exact name_not hc hp hm
    · rcases List.mem_append.mp hm with hm | hm
      · simp only [tillM, List.mem_cons, List.not_mem_nil, or_false] at hm
        rcases hm with rfl | rfl | rfl
        · exact h1 rfl
        · cases hc
        · exact h3 rfl
      · exact name_not hc hi hm
  refine ⟨?_, ?_⟩
  · have e : askT a = [] ++ 47 :: (opsT a.ops ++ 47 :: (a.path ++ (tillM ++ Go.Lib.itoa a.till))) := rfl
    rw [e, cutL_at (by simp), cutL_at (opsT_no hb rfl (by decide) (by decide) (by decide)), cutL_none (hno 47 rfl (by decide) (by decide))]
  · have e : a.path ++ (tillM ++ Go.Lib.itoa a.till) = a.path ++ 63 :: (101 :: 61 :: Go.Lib.itoa a.till) := rfl
    rw [e, cutL_at (name_not rfl hp), cutL_none ?_]
    intro hm
    rcases List.mem_cons.mp hm with hm | hm
    · cases hm
    · rcases List.mem_cons.mp hm with hm | hm
      · cases hm
      · exact name_not rfl hi hm
end Go.Proofs.YtbejafbpipdbjaaDoor
