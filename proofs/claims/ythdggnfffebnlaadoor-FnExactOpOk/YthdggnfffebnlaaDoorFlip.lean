/-
  Rasters with their rows in reverse, as plain functions. No condition.
-/
import Derived.Test.YthdggnfffebnlaaDoorRasAtM
namespace Go.Proofs.YthdggnfffebnlaaDoor
set_option maxRecDepth 4000

instance : DecidableEq Px := fun a b => decidable_of_iff (a.r = b.r ∧ a.g = b.g ∧ a.b = b.b ∧ a.a = b.a) ⟨fun ⟨h1, h2, h3, h4⟩ => by
  cases a
  cases b
  simp only at h1 h2 h3 h4
  subst h1 h2 h3 h4
  rfl, fun h => by subst h; exact ⟨rfl, rfl, rfl, rfl⟩⟩

/-- A row. -/
def rowP (W : Nat) (l : List Px) (y : Nat) : List Px := (l.drop (y * W)).take W
/-- The rows below y, the last one first. -/
def flipN (W : Nat) (l : List Px) : Nat → List Px
  | 0 => []
  | y + 1 => rowP W l y ++ flipN W l y
theorem rowP_length {W H y : Nat} {l : List Px} (hl : l.length = W * H) (hy : y < H) : (rowP W l y).length = W := by
  unfold rowP
  have h1 : (y + 1) * W ≤ H * W := Nat.mul_le_mul_right _ hy
  rw [Nat.add_mul, Nat.one_mul] at h1
  rw [List.length_take, List.length_drop, hl, Nat.mul_comm W H]
  omega
theorem flipN_length {W H : Nat} {l : List Px} (hl : l.length = W * H) : ∀ n, n ≤ H → (flipN W l n).length = n * W
  | 0, _ => by simp [flipN]
  | n + 1, h => by
    rw [flipN, List.length_append, rowP_length hl (by omega), flipN_length hl n (by omega), Nat.add_mul]
    omega
theorem row_flip {W H : Nat} {l : List Px} (hl : l.length = W * H) : ∀ n, n ≤ H → ∀ y, y < n → rowP W (flipN W l n) y = rowP W l (n - 1 - y)
  | 0, _, y, hy => by omega
  | n + 1, h, 0, _ => by
    have hr := rowP_length hl (show n < H by omega)
    show ((flipN W l (n + 1)).drop (0 * W)).take W = rowP W l (n + 1 - 1 - 0)
    rw [Nat.zero_mul, List.drop_zero, flipN, List.take_append_of_le_length (by omega), List.take_of_length_le (by omega)]
    rfl
  | n + 1, h, y + 1, hy => by
    have hr := rowP_length hl (show n < H by omega)
    have ih := row_flip hl n (by omega) y (by omega)
    show ((flipN W l (n + 1)).drop ((y + 1) * W)).take W = rowP W l (n + 1 - 1 - (y + 1))
    rw [show n + 1 - 1 - (y + 1) = n - 1 - y from by omega, ← ih, flipN, List.drop_append, List.drop_of_length_le (by rw [hr, Nat.add_mul]; omega), hr, List.nil_append]
    rw [show (y + 1) * W - W = y * W from by rw [Nat.add_mul]; omega]
    rfl
theorem flip_flip {W H : Nat} {l : List Px} (hl : l.length = W * H) : flipN W (flipN W l H) H = l := by
  have step : ∀ n, n ≤ H → flipN W (flipN W l H) n = l.drop ((H - n) * W) := fun n => by
    induction n with
    | zero =>
      intro _
      rw [flipN, List.drop_of_length_le (by rw [hl, Nat.mul_comm]; exact Nat.le_refl _)]
    | succ n ih =>
      intro hn
      rw [flipN, row_flip hl H (Nat.le_refl _) n (by omega), ih (by omega)]
      unfold rowP
      rw [show H - 1 - n = H - (n + 1) from by omega]
      have e : (H - n) * W = (H - (n + 1)) * W + W := by
        rw [show H - n = H - (n + 1) + 1 from by omega, Nat.add_mul, Nat.one_mul]
      rw [e, ← List.drop_drop, List.take_append_drop]
  have := step H (Nat.le_refl _)
  rwa [Nat.sub_self, Nat.zero_mul, List.drop_zero] at this
theorem flipN_mem {W : Nat} {l : List Px} {p : Px} : ∀ {n : Nat}, p ∈ flipN W l n → p ∈ l
  | 0, h => by simp [flipN] at h
  | n + 1, h => by
    rw [flipN, List.mem_append] at h
    rcases h with h | h
    · exact List.mem_of_mem_drop (List.mem_of_mem_take h)
    · exact flipN_mem h
/-- A raster's pixels with the rows in reverse. -/
def flipR (W H : Int) (l : List Px) : List Px := flipN W.toNat l H.toNat
theorem len_nat {W H : Int} {l : List Px} (h : rasB W H l = true) : l.length = W.toNat * H.toNat := by
  obtain ⟨hW, hH, hl, -⟩ := rasB_parts h
  have e1 : (W.toNat : Int) = W := by omega
  have e2 : (H.toNat : Int) = H := by omega
  have : ((W.toNat * H.toNat : Nat) : Int) = W * H := by rw [Int.natCast_mul, e1, e2]
  omega
theorem flipR_length {W H : Int} {l : List Px} (h : rasB W H l = true) : (flipR W H l).length = l.length := by
  unfold flipR
  rw [flipN_length (len_nat h) _ (Nat.le_refl _), len_nat h, Nat.mul_comm]
theorem flipR_ok {W H : Int} {l : List Px} (h : rasB W H l = true) : rasB W H (flipR W H l) = true := by
  have hl := flipR_length h
  obtain ⟨hW, hH, hl2, ha⟩ := rasB_parts h
  unfold rasB
  rw [decide_eq_true ⟨hW, hH, by rw [hl]; exact hl2⟩, Bool.true_and, List.all_eq_true]
  intro p hp
  exact List.all_eq_true.1 ha p (flipN_mem hp)
theorem flipR_flip {W H : Int} {l : List Px} (h : rasB W H l = true) : flipR W H (flipR W H l) = l := flip_flip (len_nat h)
end Go.Proofs.YthdggnfffebnlaaDoor
