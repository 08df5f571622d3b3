/-
  Files as plain functions: the rows in reverse, runs, the four bodies, the sum in four bytes, a file; their lengths. Plain functions alone; no condition.
-/
import Derived.Test.YtnnpjcbdcjdojaaRasLaw
import Derived.Test.YtnnpjcbdcjdojaaPak
import Derived.Test.YtnnpjcbdcjdojaaSum
namespace Go.Proofs.Ytnnpjcbdcjdojaa
set_option maxRecDepth 4000

instance : DecidableEq Px := fun a b => decidable_of_iff (a.r = b.r ∧ a.g = b.g ∧ a.b = b.b ∧ a.a = b.a) ⟨fun ⟨h1, h2, h3, h4⟩ => by
  cases a
  cases b
  simp only at h1 h2 h3 h4
  subst h1 h2 h3 h4
  rfl, fun h => by subst h; exact ⟨rfl, rfl, rfl, rfl⟩⟩

/-- A row. -/
def rowP (W : Nat) (l : List Px) (y : Nat) : List Px := (l.drop (y * W)).take W
/-- The rows below y, the last one first. -/
def flipN (W : Nat) (l : List Px) : Nat → List Px
  | 0 => []
  | y + 1 => rowP W l y ++ flipN W l y
theorem rowP_length {W H y : Nat} {l : List Px} (hl : l.length = W * H) (hy : y < H) : (rowP W l y).length = W := by
  unfold rowP
  have h1 : (y + 1) * W ≤ H * W := Nat.mul_le_mul_right _ hy
  rw [Nat.add_mul, Nat.one_mul] at h1
  rw [List.length_take, List.length_drop, hl, Nat.mul_comm W H]
  omega
theorem flipN_length {W H : Nat} {l : List Px} (hl : l.length = W * H) : ∀ n, n ≤ H → (flipN W l n).length = n * W
  | 0, _ => by simp [flipN]
  | n + 1, h => by
    rw [flipN, List.length_append, rowP_length hl (by omega), flipN_length hl n (by omega), Nat.add_mul]
    omega
theorem row_flip {W H : Nat} {l : List Px} (hl : l.length = W * H) : ∀ n, n ≤ H → ∀ y, y < n → rowP W (flipN W l n) y = rowP W l (n - 1 - y)
  | 0, _, y, hy => by omega
  | n + 1, h, 0, _ => by
    have hr := rowP_length hl (show n < H by omega)
    show ((flipN W l (n + 1)).drop (0 * W)).take W = rowP W l (n + 1 - 1 - 0)
    rw [Nat.zero_mul, List.drop_zero, flipN, List.take_append_of_le_length (by omega), List.take_of_length_le (by omega)]
    rfl
  | n + 1, h, y + 1, hy => by
    have hr := rowP_length hl (show n < H by omega)
    have ih := row_flip hl n (by omega) y (by omega)
    show ((flipN W l (n + 1)).drop ((y + 1) * W)).take W = rowP W l (n + 1 - 1 - (y + 1))
    rw [show n + 1 - 1 - (y + 1) = n - 1 - y from by omega, ← ih, flipN, List.drop_append, List.drop_of_length_le (by rw [hr, Nat.add_mul]; omega), hr, List.nil_append]
    rw [show (y + 1) * W - W = y * W from by rw [Nat.add_mul]; omega]
    rfl
theorem flip_flip {W H : Nat} {l : List Px} (hl : l.length = W * H) : flipN W (flipN W l H) H = l := by
  have step : ∀ n, n ≤ H → flipN W (flipN W l H) n = l.drop ((H - n) * W) := fun n => by
    induction n with
    | zero =>
      intro _
      rw [flipN, List.drop_of_length_le (by rw [hl, Nat.mul_comm]; exact Nat.le_refl _)]
    | succ n ih =>
      intro hn
      rw [flipN, row_flip hl H (Nat.le_refl _) n (by omega), ih (by omega)]
      unfold rowP
      rw [show H - 1 - n = H - (n + 1) from by omega]
      have e : (H - n) * W = (H - (n + 1)) * W + W := by
        rw [show H - n = H - (n + 1) + 1 from by omega, Nat.add_mul, Nat.one_mul]
      rw [e, ← List.drop_drop, List.take_append_drop]
  have := step H (Nat.le_refl _)
  rwa [Nat.sub_self, Nat.zero_mul, List.drop_zero] at this
theorem flipN_mem {W : Nat} {l : List Px} {p : Px} : ∀ {n : Nat}, p ∈ flipN W l n → p ∈ l
  | 0, h => by simp [flipN] at h
  | n + 1, h => by
    rw [flipN, List.mem_append] at h
    rcases h with h | h
    · exact List.mem_of_mem_drop (List.mem_of_mem_take h)
    · exact flipN_mem h
/-- A raster's pixels with the rows in reverse. -/
def flipR (W H : Int) (l : List Px) : List Px := flipN W.toNat l H.toNat
theorem len_nat {W H : Int} {l : List Px} (h : rasB W H l = true) : l.length = W.toNat * H.toNat := by
  obtain ⟨hW, hH, hl, -⟩ := rasB_parts h
  have e1 : (W.toNat : Int) = W := by omega
  have e2 : (H.toNat : Int) = H := by omega
  have : ((W.toNat * H.toNat : Nat) : Int) = W * H := by rw [Int.natCast_mul, e1, e2]
  omega
theorem flipR_length {W H : Int} {l : List Px} (h : rasB W H l = true) : (flipR W H l).length = l.length := by
  unfold flipR
  rw [flipN_length (len_nat h) _ (Nat.le_refl _), len_nat h, Nat.mul_comm]
theorem flipR_ok {W H : Int} {l : List Px} (h : rasB W H l = true) : rasB W H (flipR W H l) = true := by
  have hl := flipR_length h
  obtain ⟨hW, hH, hl2, ha⟩ := rasB_parts h
  unfold rasB
  rw [decide_eq_true ⟨hW, hH, by rw [hl]; exact hl2⟩, Bool.true_and, List.all_eq_true]
  intro p hp
  exact List.all_eq_true.1 ha p (flipN_mem hp)
theorem flipR_flip {W H : Int} {l : List Px} (h : rasB W H l = true) : flipR W H (flipR W H l) = l := flip_flip (len_nat h)

/-- How many pixels at the start are p. -/
def sameN (p : Px) : List Px → Nat
  | [] => 0
  | q :: l => if q = p then sameN p l + 1 else 0
theorem sameN_le (p : Px) : ∀ l, sameN p l ≤ l.length
  | [] => Nat.le_refl _
  | q :: l => by
    unfold sameN
    split
    · have := sameN_le p l
      simp
      omega
    · omega
theorem sameN_take (p : Px) : ∀ l, l.take (sameN p l) = List.replicate (sameN p l) p
  | [] => rfl
  | q :: l => by
    unfold sameN
    split
    · rename_i h
      subst h
      rw [List.take_succ_cons, sameN_take q l, List.replicate_succ]
    · rfl
/-- Runs as bytes. -/
def runsF : Nat → List Px → List UInt8
  | 0, _ => []
  | _ + 1, [] => []
  | n + 1, p :: l => UInt8.ofNat (1 + sameN p l) :: (pxB p ++ runsF n (l.drop (sameN p l)))
theorem runsF_more : ∀ (n m : Nat) (l : List Px), l.length ≤ n → l.length ≤ m → runsF n l = runsF m l
  | 0, 0, _, _, _ => rfl
  | 0, m + 1, l, h, _ => by
    obtain rfl := List.eq_nil_of_length_eq_zero (by omega : l.length = 0)
    rfl
  | n + 1, 0, l, _, h => by
    obtain rfl := List.eq_nil_of_length_eq_zero (by omega : l.length = 0)
    rfl
  | n + 1, m + 1, [], _, _ => rfl
  | n + 1, m + 1, p :: l, h1, h2 => by
    simp only [List.length_cons] at h1 h2
    unfold runsF
    rw [runsF_more n m (l.drop (sameN p l)) (by rw [List.length_drop]; omega) (by rw [List.length_drop]; omega)]
def runsP (l : List Px) : List UInt8 := runsF l.length l
theorem runsP_nil : runsP [] = [] := rfl
theorem runsP_cons (p : Px) (l : List Px) : runsP (p :: l) = UInt8.ofNat (1 + sameN p l) :: (pxB p ++ runsP (l.drop (sameN p l))) := by
  unfold runsP
  rw [List.length_cons, runsF, runsF_more l.length (l.drop (sameN p l)).length _ (by rw [List.length_drop]; omega) (Nat.le_refl _)]
/-- The body of runs. -/
def runsB (W H : Int) (l : List Px) : List UInt8 := [pb W, pb H] ++ runsP l
/-- How often a pixel differs from the one ahead of it. -/
def chg : Px → List Px → Nat
  | _, [] => 0
  | p, q :: l => (if q = p then 0 else 1) + chg q l
theorem chg_skip (p : Px) : ∀ l, chg p l = match l.drop (sameN p l) with
    | [] => 0
    | q :: m => 1 + chg q m
  | [] => rfl
  | q :: l => by
    rw [show chg p (q :: l) = (if q = p then 0 else 1) + chg q l from rfl, show sameN p (q :: l) = if q = p then sameN p l + 1 else 0 from rfl]
    by_cases h : q = p
    · subst h
      rw [if_pos rfl, if_pos rfl, Nat.zero_add, List.drop_succ_cons]
      exact chg_skip q l
    · rw [if_neg h, if_neg h, List.drop_zero]
theorem runsP_length : ∀ (n : Nat) (p : Px) (l : List Px), l.length ≤ n → (runsP (p :: l)).length = 5 * (1 + chg p l)
  | n, p, l, h => by
    rw [runsP_cons, chg_skip p l]
    have hd : (l.drop (sameN p l)).length ≤ l.length := by rw [List.length_drop]; omega
    cases hq : l.drop (sameN p l) with
    | nil => rfl
    | cons q m =>
      rw [hq] at hd
      simp only [List.length_cons] at hd
      cases n with
      | zero => omega
      | succ n =>
        have := runsP_length n q m (by omega)
        simp only [List.length_cons, List.length_append, this, pxB, List.length_nil]
        omega
theorem chg_le (p : Px) : ∀ l, chg p l ≤ l.length
  | [] => Nat.le_refl _
  | q :: l => by
    have := chg_le q l
    unfold chg
    split <;> simp <;> omega
theorem runsP_le (l : List Px) : (runsP l).length ≤ 5 * l.length := by
  cases l with
  | nil => simp [runsP_nil]
  | cons p l =>
    have := chg_le p l
    rw [runsP_length l.length p l (Nat.le_refl _), List.length_cons]
    omega

/-- Whether there is such a kind. -/
def kindB (k : UInt8) : Bool := k == 68 || (k == 85 || (k == 82 || k == 80))
/-- The body of a file. -/
def bodyB (k : UInt8) (W H : Int) (l : List Px) : List UInt8 :=
  if k = 68 then rasBy W H l else if k = 85 then rasBy W H (flipR W H l) else if k = 82 then runsB W H l else pakPutB (rasBy W H l)
theorem rasBy_le {W H : Int} {l : List Px} (h : rasB W H l = true) : (rasBy W H l).length ≤ 146 := by
  obtain ⟨hW, hH, hl, -⟩ := rasB_parts h
  have := mul36 hW hH
  rw [rasBy_length]
  omega
theorem bodyB_le {k : UInt8} {W H : Int} {l : List Px} (h : rasB W H l = true) : (bodyB k W H l).length ≤ 182 := by
  have h1 := rasBy_le h
  have h2 := rasBy_le (flipR_ok h)
  have h3 := runsP_le l
  have h4 := pakPut_le (l := rasBy W H l) (by omega)
  obtain ⟨hW, hH, hl, -⟩ := rasB_parts h
  have h5 := mul36 hW hH
  unfold bodyB runsB
  split
  · omega
  · split
    · omega
    · split
      · simp
        omega
      · omega
/-- A sum in four bytes. -/
def sum4 (n : Nat) : List UInt8 := [UInt8.ofNat (n / 16777216), UInt8.ofNat (n / 65536 % 256), UInt8.ofNat (n / 256 % 256), UInt8.ofNat (n % 256)]
theorem sum4_length (n : Nat) : (sum4 n).length = 4 := rfl
theorem sumN_lt (l : List UInt8) : sumN l < 4294967296 := by
  have := adler_lt l
  unfold sumN
  omega
/-- A file. -/
def fileB (k : UInt8) (note : List UInt8) (W H : Int) (l : List Px) : List UInt8 := ([k, UInt8.ofNat note.length] ++ note) ++ bodyB k W H l ++ sum4 (sumN (bodyB k W H l))
theorem fileB_length (k : UInt8) (note : List UInt8) (W H : Int) (l : List Px) : (fileB k note W H l).length = 6 + note.length + (bodyB k W H l).length := by
  unfold fileB
  simp [sum4]
  omega
/-- What FormWrite writes. -/
def formB (k : UInt8) (note : List UInt8) (W H : Int) (l : List Px) : List UInt8 := if kindB k && decide (note.length ≤ 9) && rasB W H l then fileB k note W H l else []
theorem formB_le (k : UInt8) (note : List UInt8) (W H : Int) (l : List Px) : (formB k note W H l).length ≤ 197 := by
  unfold formB
  split
  · rename_i h
    simp only [Bool.and_eq_true, decide_eq_true_eq] at h
    have := bodyB_le (k := k) h.2
    rw [fileB_length]
    omega
  · simp
end Go.Proofs.Ytnnpjcbdcjdojaa
