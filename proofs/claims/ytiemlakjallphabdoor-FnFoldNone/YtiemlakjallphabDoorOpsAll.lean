/-
  A list of operations, folded, does the same where it can be done. Plain functions alone; no condition.
-/
import Derived.Test.YtiemlakjallphabDoorRasAtM
namespace Go.Proofs.YtiemlakjallphabDoor
set_option maxRecDepth 4000

instance : DecidableEq Px := fun a b => decidable_of_iff (a.r = b.r ∧ a.g = b.g ∧ a.b = b.b ∧ a.a = b.a) ⟨fun ⟨h1, h2, h3, h4⟩ => by
  cases a
  cases b
  simp only at h1 h2 h3 h4
  subst h1 h2 h3 h4
  rfl, fun h => by subst h; exact ⟨rfl, rfl, rfl, rfl⟩⟩

/-- A row. -/
def rowP (W : Nat) (l : List Px) (y : Nat) : List Px := (l.drop (y * W)).take W
/-- The rows below y, the last one first. -/
def flipN (W : Nat) (l : List Px) : Nat → List Px
  | 0 => []
  | y + 1 => rowP W l y ++ flipN W l y
theorem rowP_length {W H y : Nat} {l : List Px} (hl : l.length = W * H) (hy : y < H) : (rowP W l y).length = W := by
  unfold rowP
  have h1 : (y + 1) * W ≤ H * W := Nat.mul_le_mul_right _ hy
  rw [Nat.add_mul, Nat.one_mul] at h1
  rw [List.length_take, List.length_drop, hl, Nat.mul_comm W H]
  omega
theorem flipN_length {W H : Nat} {l : List Px} (hl : l.length = W * H) : ∀ n, n ≤ H → (flipN W l n).length = n * W
  | 0, _ => by simp [flipN]
  | n + 1, h => by
    rw [flipN, List.length_append, rowP_length hl (by omega), flipN_length hl n (by omega), Nat.add_mul]
    omega
theorem row_flip {W H : Nat} {l : List Px} (hl : l.length = W * H) : ∀ n, n ≤ H → ∀ y, y < n → rowP W (flipN W l n) y = rowP W l (n - 1 - y)
  | 0, _, y, hy => by omega
  | n + 1, h, 0, _ => by
    have hr := rowP_length hl (show n < H by omega)
    show ((flipN W l (n + 1)).drop (0 * W)).take W = rowP W l (n + 1 - 1 - 0)
    rw [Nat.zero_mul, List.drop_zero, flipN, List.take_append_of_le_length (by omega), List.take_of_length_le (by omega)]
    rfl
  | n + 1, h, y + 1, hy => by
    have hr := rowP_length hl (show n < H by omega)
    have ih := row_flip hl n (by omega) y (by omega)
    show ((flipN W l (n + 1)).drop ((y + 1) * W)).take W = rowP W l (n + 1 - 1 - (y + 1))
    rw [show n + 1 - 1 - (y + 1) = n - 1 - y from by omega, ← ih, flipN, List.drop_append, List.drop_of_length_le (by rw [hr, Nat.add_mul]; omega), hr, List.nil_append]
    rw [show (y + 1) * W - W = y * W from by rw [Nat.add_mul]; omega]
    rfl
theorem flip_flip {W H : Nat} {l : List Px} (hl : l.length = W * H) : flipN W (flipN W l H) H = l := by
  have step : ∀ n, n ≤ H → flipN W (flipN W l H) n = l.drop ((H - n) * W) := fun n => by
    induction n with
    | zero =>
      intro _
      rw [flipN, List.drop_of_length_le (by rw [hl, Nat.mul_comm]; exact Nat.le_refl _)]
    | succ n ih =>
      intro hn
      rw [flipN, row_flip hl H (Nat.le_refl _) n (by omega), ih (by omega)]
      unfold rowP
      rw [show H - 1 - n = H - (n + 1) from by omega]
      have e : (H - n) * W = (H - (n + 1)) * W + W := by
        rw [show H - n = H - (n + 1) + 1 from by omega, Nat.add_mul, Nat.one_mul]
      rw [e, ← List.drop_drop, List.take_append_drop]
  have := step H (Nat.le_refl _)
  rwa [Nat.sub_self, Nat.zero_mul, List.drop_zero] at this
theorem flipN_mem {W : Nat} {l : List Px} {p : Px} : ∀ {n : Nat}, p ∈ flipN W l n → p ∈ l
  | 0, h => by simp [flipN] at h
  | n + 1, h => by
    rw [flipN, List.mem_append] at h
    rcases h with h | h
    · exact List.mem_of_mem_drop (List.mem_of_mem_take h)
    · exact flipN_mem h
/-- A raster's pixels with the rows in reverse. -/
def flipR (W H : Int) (l : List Px) : List Px := flipN W.toNat l H.toNat
theorem len_nat {W H : Int} {l : List Px} (h : rasB W H l = true) : l.length = W.toNat * H.toNat := by
  obtain ⟨hW, hH, hl, -⟩ := rasB_parts h
  have e1 : (W.toNat : Int) = W := by omega
  have e2 : (H.toNat : Int) = H := by omega
  have : ((W.toNat * H.toNat : Nat) : Int) = W * H := by rw [Int.natCast_mul, e1, e2]
  omega
theorem flipR_length {W H : Int} {l : List Px} (h : rasB W H l = true) : (flipR W H l).length = l.length := by
  unfold flipR
  rw [flipN_length (len_nat h) _ (Nat.le_refl _), len_nat h, Nat.mul_comm]
theorem flipR_ok {W H : Int} {l : List Px} (h : rasB W H l = true) : rasB W H (flipR W H l) = true := by
  have hl := flipR_length h
  obtain ⟨hW, hH, hl2, ha⟩ := rasB_parts h
  unfold rasB
  rw [decide_eq_true ⟨hW, hH, by rw [hl]; exact hl2⟩, Bool.true_and, List.all_eq_true]
  intro p hp
  exact List.all_eq_true.1 ha p (flipN_mem hp)
theorem flipR_flip {W H : Int} {l : List Px} (h : rasB W H l = true) : flipR W H (flipR W H l) = l := flip_flip (len_nat h)
end Go.Proofs.YtiemlakjallphabDoor
namespace Go.Proofs.YtiemlakjallphabDoor
set_option maxRecDepth 4000

/-- An operation: its kind and four numbers. -/
structure Op where
  k : Int
  a : Int
  b : Int
  c : Int
  d : Int
/-- A raster. -/
structure Ra where
  w : Nat
  h : Nat
  p : List Px
/-- No raster. -/
def ra0 : Ra := ⟨0, 0, []⟩
/-- The first n pixels of a table that is W wide. -/
def tab (W n : Nat) (f : Nat → Nat → Px) : List Px := (List.range n).map fun i => f (i % W) (i / W)
theorem tab_length (W n : Nat) (f : Nat → Nat → Px) : (tab W n f).length = n := by simp [tab]
theorem tab_zero (W : Nat) (f : Nat → Nat → Px) : tab W 0 f = [] := rfl
theorem tab_succ (W n : Nat) (f : Nat → Nat → Px) : tab W (n + 1) f = tab W n f ++ [f (n % W) (n / W)] := by
  unfold tab
  rw [List.range_succ, List.map_append]
  rfl
theorem place_div {W x y : Nat} (hx : x < W) : (y * W + x) % W = x ∧ (y * W + x) / W = y := by
  have hW : 0 < W := by omega
  constructor
  · rw [Nat.add_comm, Nat.add_mul_mod_self_right, Nat.mod_eq_of_lt hx]
  · rw [Nat.add_comm, Nat.add_mul_div_right _ _ hW, Nat.div_eq_of_lt hx, Nat.zero_add]
theorem tab_step {W x y : Nat} (f : Nat → Nat → Px) (hx : x < W) : tab W (y * W + (x + 1)) f = tab W (y * W + x) f ++ [f x y] := by
  rw [← Nat.add_assoc, tab_succ, (place_div hx).1, (place_div hx).2]
theorem tab_at {W n i : Nat} (f : Nat → Nat → Px) (h : i < n) : (tab W n f)[i]? = some (f (i % W) (i / W)) := by
  unfold tab
  rw [List.getElem?_map, List.getElem?_range h]
  rfl
theorem place_in {W H x y : Nat} (hx : x < W) (hy : y < H) : y * W + x < W * H := by
  have h1 : (y + 1) * W ≤ H * W := Nat.mul_le_mul_right _ hy
  rw [Nat.add_mul, Nat.one_mul] at h1
  rw [Nat.mul_comm W H]
  omega
theorem place_back {W H i : Nat} (h : i < W * H) : i % W < W ∧ i / W < H ∧ i / W * W + i % W = i := by
  have hW : 0 < W := Nat.pos_of_ne_zero fun e => by subst e; omega
  exact ⟨Nat.mod_lt _ hW, by rw [Nat.div_lt_iff_lt_mul hW, Nat.mul_comm]; exact h, by rw [Nat.mul_comm]; exact Nat.div_add_mod i W⟩
/-- The raster that a function draws. -/
def mkR (W H : Nat) (f : Nat → Nat → Px) : Ra := ⟨W, H, tab W (W * H) f⟩
/-- The pixel at a column and a row. -/
def Ra.at (r : Ra) (x y : Nat) : Px := (r.p[y * r.w + x]?).getD px0
theorem mk_at {W H x y : Nat} (f : Nat → Nat → Px) (hx : x < W) (hy : y < H) : (mkR W H f).at x y = f x y := by
  show ((tab W (W * H) f)[y * W + x]?).getD px0 = _
  rw [tab_at f (place_in hx hy), (place_div hx).1, (place_div hx).2]
  rfl
theorem tab_congr {W H : Nat} {f g : Nat → Nat → Px} (h : ∀ x y, x < W → y < H → f x y = g x y) : tab W (W * H) f = tab W (W * H) g := by
  unfold tab
  refine List.map_congr_left fun i hi => ?_
  obtain ⟨h1, h2, _⟩ := place_back (List.mem_range.1 hi)
  exact h _ _ h1 h2
theorem mk_congr {W H : Nat} {f g : Nat → Nat → Px} (h : ∀ x y, x < W → y < H → f x y = g x y) : mkR W H f = mkR W H g := by
  unfold mkR
  rw [tab_congr h]
/-- Whether a raster is one. -/
def Ra.ok (r : Ra) : Prop := rasB r.w r.h r.p = true
theorem Ra.ok.parts {r : Ra} (h : r.ok) : (1 ≤ r.w ∧ r.w ≤ 6) ∧ (1 ≤ r.h ∧ r.h ≤ 6) ∧ r.p.length = r.w * r.h ∧ ∀ p ∈ r.p, pixB p = true := by
  obtain ⟨hW, hH, hl, ha⟩ := rasB_parts h
  have : ((r.w * r.h : Nat) : Int) = (r.w : Int) * r.h := Int.natCast_mul _ _
  exact ⟨by omega, by omega, by omega, fun p hp => List.all_eq_true.1 ha p hp⟩
theorem eq_mk {W H : Nat} {l : List Px} (h : l.length = W * H) : (⟨W, H, l⟩ : Ra) = mkR W H (Ra.at ⟨W, H, l⟩) := by
  unfold mkR
  congr 1
  refine List.ext_getElem? fun i => ?_
  by_cases hi : i < W * H
  · rw [tab_at _ hi]
    unfold Ra.at
    simp only
    rw [(place_back hi).2.2, List.getElem?_eq_getElem (by omega)]
    rfl
  · rw [List.getElem?_eq_none (by omega), List.getElem?_eq_none (by rw [tab_length]; omega)]
theorem Ra.ok.eq_mk {r : Ra} (h : r.ok) : r = mkR r.w r.h r.at := Go.Proofs.YtiemlakjallphabDoor.eq_mk h.parts.2.2.1
theorem Ra.ok.eq_of {r : Ra} {f : Nat → Nat → Px} (h : r.ok) (hf : ∀ x y, x < r.w → y < r.h → f x y = r.at x y) : mkR r.w r.h f = r := by
  conv => rhs; rw [h.eq_mk]
  exact mk_congr hf
theorem Ra.ok.at {r : Ra} (h : r.ok) {x y : Nat} (hx : x < r.w) (hy : y < r.h) : r.p[y * r.w + x]? = some (r.at x y) ∧ pixB (r.at x y) = true := by
  have hi := place_in hx hy
  rw [← h.parts.2.2.1] at hi
  unfold Ra.at
  rw [List.getElem?_eq_getElem hi]
  exact ⟨rfl, h.parts.2.2.2 _ (List.getElem_mem hi)⟩
theorem mk_ok {W H : Nat} {f : Nat → Nat → Px} (hW : 1 ≤ W ∧ W ≤ 6) (hH : 1 ≤ H ∧ H ≤ 6) (hf : ∀ x y, x < W → y < H → pixB (f x y) = true) : (mkR W H f).ok := by
  have : ((W * H : Nat) : Int) = (W : Int) * H := Int.natCast_mul _ _
  unfold Ra.ok rasB mkR
  simp only
  rw [tab_length, decide_eq_true ⟨by omega, by omega, by omega⟩, Bool.true_and, List.all_eq_true]
  intro p hp
  unfold tab at hp
  obtain ⟨i, hi, rfl⟩ := List.mem_map.1 hp
  obtain ⟨h1, h2, _⟩ := place_back (List.mem_range.1 hi)
  exact hf _ _ h1 h2

/-- A number in a range. -/
def inR (n lo hi : Int) : Bool := decide (lo ≤ n ∧ n ≤ hi)
/-- Whether an operation is one. -/
def opB (o : Op) : Bool :=
  if o.k = 1 then inR o.a 0 5 && (inR o.b 0 5 && (inR o.c 1 6 && inR o.d 1 6))
  else if o.k = 7 then inR o.a 1 6 && (inR o.b 1 6 && (inR o.c 0 0 && inR o.d 0 0))
  else if o.k = 8 then inR o.a 0 255 && (inR o.b 0 255 && (inR o.c 0 255 && inR o.d 0 0))
  else inR o.k 2 6 && (inR o.a 0 0 && (inR o.b 0 0 && (inR o.c 0 0 && inR o.d 0 0)))
/-- A pixel without colour. -/
def grayP (p : Px) : Px := ⟨(77 * p.r + 150 * p.g + 29 * p.b) / 256, (77 * p.r + 150 * p.g + 29 * p.b) / 256, (77 * p.r + 150 * p.g + 29 * p.b) / 256, p.a⟩
/-- A pixel in front of another one. -/
def flatP1 (o : Op) (p : Px) : Px := ⟨(p.r * p.a + o.a * (255 - p.a)) / 255, (p.g * p.a + o.b * (255 - p.a)) / 255, (p.b * p.a + o.c * (255 - p.a)) / 255, 255⟩
/-- Two pixels' sums. -/
def addP (p q : Px) : Px := ⟨p.r + q.r, p.g + q.g, p.b + q.b, p.a + q.a⟩
/-- The pixels of a row from j on, n of them, summed onto s. -/
def sumRow (f : Nat → Px) (s : Px) (j : Nat) : Nat → Px
  | 0 => s
  | n + 1 => addP (sumRow f s j n) (f (j + n))
/-- The pixels of m rows from k on. -/
def sumBox (f : Nat → Nat → Px) (j n k : Nat) : Nat → Px
  | 0 => px0
  | m + 1 => sumRow (fun x => f x (k + m)) (sumBox f j n k m) j n
/-- Where the pixels about a place begin, and how many there are. -/
def lo1 (x : Nat) : Nat := x - 1
def cnt1 (W x : Nat) : Nat := min (x + 1) (W - 1) + 1 - lo1 x
/-- The mean of the pixels about a place. -/
def meanP (r : Ra) (x y : Nat) : Px :=
  let s := sumBox r.at (lo1 x) (cnt1 r.w x) (lo1 y) (cnt1 r.h y)
  let n : Int := (cnt1 r.h y * cnt1 r.w x : Nat)
  ⟨s.r / n, s.g / n, s.b / n, s.a / n⟩
def turnR (r : Ra) : Ra := mkR r.h r.w fun x y => r.at y (r.h - 1 - x)
def flipXR (r : Ra) : Ra := mkR r.w r.h fun x y => r.at (r.w - 1 - x) y
def flipYR (r : Ra) : Ra := mkR r.w r.h fun x y => r.at x (r.h - 1 - y)
def cropR (r : Ra) (a b c d : Nat) : Ra := mkR c d fun x y => r.at (a + x) (b + y)
def eachR (g : Px → Px) (r : Ra) : Ra := mkR r.w r.h fun x y => g (r.at x y)
def blurR (r : Ra) : Ra := mkR r.w r.h fun x y => meanP r x y
def sizeR (r : Ra) (a b : Nat) : Ra := mkR a b fun x y => r.at ((2 * x + 1) * r.w / (2 * a)) ((2 * y + 1) * r.h / (2 * b))
/-- An operation on a raster, both being ones; nothing if that has not the part. -/
def doR (r : Ra) (o : Op) : Option Ra :=
  if o.k = 1 then if o.a + o.c > r.w ∨ o.b + o.d > r.h then none else some (cropR r o.a.toNat o.b.toNat o.c.toNat o.d.toNat)
  else if o.k = 2 then some (flipXR r)
  else if o.k = 3 then some (flipYR r)
  else if o.k = 4 then some (turnR r)
  else if o.k = 5 then some (eachR grayP r)
  else if o.k = 6 then some (blurR r)
  else if o.k = 7 then some (sizeR r o.a.toNat o.b.toNat)
  else some (eachR (flatP1 o) r)
/-- What OpDo answers. -/
def opDo (W H : Int) (l : List Px) (o : Op) : Option Ra := if rasB W H l && opB o then doR ⟨W.toNat, H.toNat, l⟩ o else none
theorem opDo_ok {r : Ra} (h : r.ok) {o : Op} (ho : opB o = true) : opDo r.w r.h r.p o = doR r o := by
  unfold opDo
  rw [show rasB r.w r.h r.p = true from h, ho]
  rfl
end Go.Proofs.YtiemlakjallphabDoor
namespace Go.Proofs.YtiemlakjallphabDoor
set_option maxRecDepth 4000

instance : DecidableEq Op := fun a b => decidable_of_iff (a.k = b.k ∧ a.a = b.a ∧ a.b = b.b ∧ a.c = b.c ∧ a.d = b.d) ⟨fun ⟨h1, h2, h3, h4, h5⟩ => by
  cases a
  cases b
  simp only at h1 h2 h3 h4 h5
  subst h1 h2 h3 h4 h5
  rfl, fun h => by subst h; exact ⟨rfl, rfl, rfl, rfl, rfl⟩⟩
/-- What a rule says of two adjacent operations, that are no quarters. -/
def pairR (a b : Op) : Option (List Op) :=
  if a.k ≠ b.k then none
  else if a.k = 2 ∨ a.k = 3 then some []
  else if a.k = 5 ∨ a.k = 8 ∨ (a.k = 7 ∧ a = b) then some [a]
  else if a.k = 1 ∧ b.a + b.c ≤ a.c ∧ b.b + b.d ≤ a.d ∧ a.a + b.a < 6 ∧ a.b + b.b < 6 then some [⟨1, a.a + b.a, a.b + b.b, b.c, b.d⟩]
  else none
/-- Whether four quarters stand at the beginning. -/
def four (l : List Op) : Bool := decide (4 ≤ l.length) && (l.take 4).all fun o => o.k == 4
/-- What a rule says of the beginning of a list. -/
def head1 (l : List Op) : Option (List Op) :=
  if four l = true then some (l.drop 4)
  else match l with
    | a :: b :: t => (pairR a b).map (· ++ t)
    | _ => none
/-- A rule at the lowest index where one applies. -/
def foldO : List Op → Option (List Op)
  | [] => none
  | a :: t => match head1 (a :: t) with
    | some s => some s
    | none => (foldO t).map (a :: ·)
/-- So often at most. -/
def foldN : Nat → List Op → List Op
  | 0, l => l
  | n + 1, l => match foldO l with
    | none => l
    | some m => foldN n m
/-- As often as a rule applies. -/
def foldR (l : List Op) : List Op := foldN l.length l

theorem pairR_le {a b : Op} {s : List Op} (h : pairR a b = some s) : s.length ≤ 1 := by
  unfold pairR at h
  split at h
  · cases h
  split at h
  · injection h with h; subst h; simp
  split at h
  · injection h with h; subst h; simp
  split at h
  · injection h with h; subst h; simp
  · cases h
theorem four_len {l : List Op} (h : four l = true) : 4 ≤ l.length := by
  unfold four at h
  rw [Bool.and_eq_true] at h
  exact of_decide_eq_true h.1
theorem head1_lt {l s : List Op} (h : head1 l = some s) : s.length < l.length := by
  unfold head1 at h
  split at h
  · rename_i h4
    injection h with h
    have := four_len h4
    subst h
    rw [List.length_drop]
    omega
  · split at h
    · rename_i a b t _
      rw [Option.map_eq_some_iff] at h
      obtain ⟨u, hu, rfl⟩ := h
      have := pairR_le hu
      simp only [List.length_append, List.length_cons]
      omega
    · cases h
theorem foldO_lt : ∀ {l s : List Op}, foldO l = some s → s.length < l.length
  | [], _, h => by cases h
  | a :: t, s, h => by
    rw [foldO] at h
    split at h
    · rename_i u hu
      injection h with h
      subst h
      exact head1_lt hu
    · rw [Option.map_eq_some_iff] at h
      obtain ⟨u, hu, rfl⟩ := h
      have := foldO_lt hu
      simp only [List.length_cons]
      omega
theorem foldN_done : ∀ {n : Nat} {l : List Op}, l.length ≤ n → foldO (foldN n l) = none
  | 0, l, h => by
    obtain rfl := List.eq_nil_of_length_eq_zero (Nat.le_zero.1 h)
    rfl
  | n + 1, l, h => by
    rw [foldN]
    cases hf : foldO l with
    | none => exact hf
    | some m => exact foldN_done (by have := foldO_lt hf; omega)
theorem foldR_done (l : List Op) : foldO (foldR l) = none := foldN_done (Nat.le_refl _)
theorem foldN_stop {l : List Op} (h : foldO l = none) : ∀ n, foldN n l = l
  | 0 => rfl
  | n + 1 => by rw [foldN, h]
theorem foldR_stop {l : List Op} (h : foldO l = none) : foldR l = l := foldN_stop h _
theorem foldR_again (l : List Op) : foldR (foldR l) = foldR l := foldR_stop (foldR_done l)
theorem foldN_more : ∀ {n m : Nat} {l : List Op}, l.length ≤ n → l.length ≤ m → foldN n l = foldN m l
  | 0, m, l, h, _ => by
    obtain rfl := List.eq_nil_of_length_eq_zero (Nat.le_zero.1 h)
    exact (foldN_stop rfl m).symm
  | n + 1, 0, l, _, h => by
    obtain rfl := List.eq_nil_of_length_eq_zero (Nat.le_zero.1 h)
    exact foldN_stop rfl (n + 1)
  | n + 1, m + 1, l, h, h' => by
    rw [foldN, foldN]
    cases hf : foldO l with
    | none => rfl
    | some u =>
      have := foldO_lt hf
      exact foldN_more (by omega) (by omega)
theorem foldR_step {l s : List Op} (h : foldO l = some s) : foldR l = foldR s := by
  have hl := foldO_lt h
  unfold foldR
  obtain ⟨n, hn⟩ : ∃ n, l.length = n + 1 := ⟨l.length - 1, by omega⟩
  rw [hn, foldN, h]
  exact foldN_more (by omega) (Nat.le_refl _)
theorem foldN_le : ∀ (n : Nat) (l : List Op), (foldN n l).length ≤ l.length
  | 0, l => Nat.le_refl _
  | n + 1, l => by
    rw [foldN]
    cases hf : foldO l with
    | none => exact Nat.le_refl _
    | some u =>
      have := foldO_lt hf
      have := foldN_le n u
      show (foldN n u).length ≤ l.length
      omega
theorem foldR_le (l : List Op) : (foldR l).length ≤ l.length := foldN_le _ _
/-- No rule applies at the first places: then the first one is that of the rest. -/
theorem foldO_from {l : List Op} : ∀ (k : Nat), k ≤ l.length → (∀ j, j < k → head1 (l.drop j) = none) → foldO l = (foldO (l.drop k)).map (l.take k ++ ·)
  | 0, _, _ => by simp
  | k + 1, hk, hj => by
    have h0 := foldO_from k (by omega) (fun j hj' => hj j (by omega))
    have h1 := hj k (by omega)
    rw [h0, List.drop_eq_getElem_cons (by omega), foldO]
    rw [List.drop_eq_getElem_cons (by omega)] at h1
    rw [h1]
    simp only [Option.map_map]
    congr 1
    funext x
    simp only [Function.comp]
    rw [← List.take_append_getElem (by omega), List.append_assoc]
    rfl
theorem foldO_at {l s : List Op} {k : Nat} (hk : k < l.length) (hj : ∀ j, j < k → head1 (l.drop j) = none) (h : head1 (l.drop k) = some s) : foldO l = some (l.take k ++ s) := by
  rw [foldO_from k (by omega) hj, List.drop_eq_getElem_cons hk, foldO]
  rw [List.drop_eq_getElem_cons hk] at h
  rw [h]
  rfl
theorem foldO_none {l : List Op} (hj : ∀ j, j < l.length → head1 (l.drop j) = none) : foldO l = none := by
  rw [foldO_from l.length (Nat.le_refl _) hj, List.drop_length]
  rfl
/-- Every operation of a list is one. -/
def opsB (l : List Op) : Bool := l.all opB && decide (l.length ≤ 5)
theorem pairR_ok {a b : Op} {s : List Op} (ha : opB a = true) (hb : opB b = true) (h : pairR a b = some s) : s.all opB = true := by
  unfold pairR at h
  split at h
  · cases h
  split at h
  · injection h with h; subst h; rfl
  split at h
  · injection h with h; subst h; simp [ha]
  split at h
  · rename_i hk _ _ hc
    injection h with h
    subst h
    obtain ⟨h1, h2, h3, h4, h5⟩ := hc
    rw [h1] at hk
    have hk2 : b.k = 1 := by omega
    unfold opB inR at ha hb
    rw [if_pos h1] at ha
    rw [if_pos hk2] at hb
    simp only [Bool.and_eq_true, decide_eq_true_eq] at ha hb
    simp only [List.all_cons, List.all_nil, Bool.and_true]
    unfold opB inR
    simp only [if_true, Bool.and_eq_true, decide_eq_true_eq]
    omega
  · cases h
theorem head1_ok {l s : List Op} (hl : l.all opB = true) (h : head1 l = some s) : s.all opB = true := by
  unfold head1 at h
  split at h
  · injection h with h
    subst h
    rw [List.all_eq_true] at hl ⊢
    exact fun x hx => hl x (List.mem_of_mem_drop hx)
  · split at h
    · rename_i a b t _
      rw [Option.map_eq_some_iff] at h
      obtain ⟨u, hu, rfl⟩ := h
      simp only [List.all_cons, Bool.and_eq_true] at hl
      rw [List.all_append, pairR_ok hl.1 hl.2.1 hu, hl.2.2]
      rfl
    · cases h
theorem foldO_ok : ∀ {l s : List Op}, l.all opB = true → foldO l = some s → s.all opB = true
  | [], _, _, h => by cases h
  | a :: t, s, hl, h => by
    rw [foldO] at h
    split at h
    · rename_i u hu
      injection h with h
      subst h
      exact head1_ok hl hu
    · rw [Option.map_eq_some_iff] at h
      obtain ⟨u, hu, rfl⟩ := h
      simp only [List.all_cons, Bool.and_eq_true] at hl ⊢
      exact ⟨hl.1, foldO_ok hl.2 hu⟩
theorem foldN_ok : ∀ (n : Nat) {l : List Op}, l.all opB = true → (foldN n l).all opB = true
  | 0, _, h => h
  | n + 1, l, h => by
    rw [foldN]
    cases hf : foldO l with
    | none => exact h
    | some u => exact foldN_ok n (foldO_ok h hf)
theorem foldR_ok {l : List Op} (h : opsB l = true) : opsB (foldR l) = true := by
  unfold opsB at h ⊢
  rw [Bool.and_eq_true] at h ⊢
  have := foldR_le l
  exact ⟨foldN_ok _ h.1, decide_eq_true (by have := of_decide_eq_true h.2; omega)⟩
/-- What OpsFold answers. -/
def opsFold (l : List Op) : List Op := if opsB l = true then foldR l else []
end Go.Proofs.YtiemlakjallphabDoor
namespace Go.Proofs.YtiemlakjallphabDoor
set_option maxRecDepth 4000

/-- Two rasters are one where they have one size and one pixel at each place. -/
theorem ra_ext {r s : Ra} (hr : r.ok) (hs : s.ok) (hw : r.w = s.w) (hh : r.h = s.h) (h : ∀ x y, x < r.w → y < r.h → r.at x y = s.at x y) : r = s := by
  rw [hr.eq_mk, hs.eq_mk, ← hw, ← hh]
  exact mk_congr h
theorem turnR_w (r : Ra) : (turnR r).w = r.h := rfl
theorem turnR_h (r : Ra) : (turnR r).h = r.w := rfl
theorem flipXR_w (r : Ra) : (flipXR r).w = r.w := rfl
theorem flipXR_h (r : Ra) : (flipXR r).h = r.h := rfl
theorem flipYR_w (r : Ra) : (flipYR r).w = r.w := rfl
theorem flipYR_h (r : Ra) : (flipYR r).h = r.h := rfl
theorem cropR_w (r : Ra) (a b c d : Nat) : (cropR r a b c d).w = c := rfl
theorem cropR_h (r : Ra) (a b c d : Nat) : (cropR r a b c d).h = d := rfl
theorem eachR_w (g : Px → Px) (r : Ra) : (eachR g r).w = r.w := rfl
theorem eachR_h (g : Px → Px) (r : Ra) : (eachR g r).h = r.h := rfl
theorem blurR_w (r : Ra) : (blurR r).w = r.w := rfl
theorem blurR_h (r : Ra) : (blurR r).h = r.h := rfl
theorem sizeR_w (r : Ra) (a b : Nat) : (sizeR r a b).w = a := rfl
theorem sizeR_h (r : Ra) (a b : Nat) : (sizeR r a b).h = b := rfl
section
variable {r : Ra}
theorem turnR_at (r : Ra) {x y : Nat} (hx : x < r.h) (hy : y < r.w) : (turnR r).at x y = r.at y (r.h - 1 - x) := mk_at _ hx hy
theorem flipXR_at (r : Ra) {x y : Nat} (hx : x < r.w) (hy : y < r.h) : (flipXR r).at x y = r.at (r.w - 1 - x) y := mk_at _ hx hy
theorem flipYR_at (r : Ra) {x y : Nat} (hx : x < r.w) (hy : y < r.h) : (flipYR r).at x y = r.at x (r.h - 1 - y) := mk_at _ hx hy
theorem cropR_at (r : Ra) {a b c d x y : Nat} (hx : x < c) (hy : y < d) : (cropR r a b c d).at x y = r.at (a + x) (b + y) := mk_at _ hx hy
theorem eachR_at (g : Px → Px) (r : Ra) {x y : Nat} (hx : x < r.w) (hy : y < r.h) : (eachR g r).at x y = g (r.at x y) := mk_at _ hx hy
theorem blurR_at (r : Ra) {x y : Nat} (hx : x < r.w) (hy : y < r.h) : (blurR r).at x y = meanP r x y := mk_at _ hx hy
theorem sizeR_at (r : Ra) {a b x y : Nat} (hx : x < a) (hy : y < b) : (sizeR r a b).at x y = r.at ((2 * x + 1) * r.w / (2 * a)) ((2 * y + 1) * r.h / (2 * b)) := mk_at _ hx hy
theorem turnR_ok (h : r.ok) : (turnR r).ok := mk_ok h.parts.2.1 h.parts.1 fun x y hx hy => (h.at (x := y) (y := r.h - 1 - x) hy (by omega)).2
theorem flipXR_ok (h : r.ok) : (flipXR r).ok := mk_ok h.parts.1 h.parts.2.1 fun x y hx hy => (h.at (x := r.w - 1 - x) (y := y) (by omega) hy).2
theorem flipYR_ok (h : r.ok) : (flipYR r).ok := mk_ok h.parts.1 h.parts.2.1 fun x y hx hy => (h.at (x := x) (y := r.h - 1 - y) hx (by omega)).2
theorem cropR_ok (h : r.ok) {a b c d : Nat} (hc : 1 ≤ c) (hd : 1 ≤ d) (hac : a + c ≤ r.w) (hbd : b + d ≤ r.h) : (cropR r a b c d).ok := by
  have h1 := h.parts.1
  have h2 := h.parts.2.1
  exact mk_ok (by omega) (by omega) fun x y hx hy => (h.at (x := a + x) (y := b + y) (by omega) (by omega)).2
theorem eachR_ok {g : Px → Px} (h : r.ok) (hg : ∀ p, pixB p = true → pixB (g p) = true) : (eachR g r).ok := mk_ok h.parts.1 h.parts.2.1 fun _ _ hx hy => hg _ (h.at hx hy).2
theorem pick_lt {n a x : Nat} (hn : 1 ≤ n) (hx : x < a) : (2 * x + 1) * n / (2 * a) < n := by
  rw [Nat.div_lt_iff_lt_mul (by omega), Nat.mul_comm]
  exact Nat.mul_lt_mul_of_pos_left (by omega) (by omega)
theorem sizeR_ok (h : r.ok) {a b : Nat} (ha : 1 ≤ a ∧ a ≤ 6) (hb : 1 ≤ b ∧ b ≤ 6) : (sizeR r a b).ok := mk_ok ha hb fun _ _ hx hy => (h.at (pick_lt h.parts.1.1 hx) (pick_lt h.parts.2.1.1 hy)).2
end

/-! Pixels by themselves. -/
theorem pixB_parts {p : Px} (h : pixB p = true) : (0 ≤ p.r ∧ p.r ≤ 255) ∧ (0 ≤ p.g ∧ p.g ≤ 255) ∧ (0 ≤ p.b ∧ p.b ≤ 255) ∧ (0 ≤ p.a ∧ p.a ≤ 255) := by
  unfold pixB partB at h
  simpa using h
theorem pixB_of {p : Px} (h : (0 ≤ p.r ∧ p.r ≤ 255) ∧ (0 ≤ p.g ∧ p.g ≤ 255) ∧ (0 ≤ p.b ∧ p.b ≤ 255) ∧ (0 ≤ p.a ∧ p.a ≤ 255)) : pixB p = true := by
  unfold pixB partB
  simpa using h
theorem grayP_ok {p : Px} (h : pixB p = true) : pixB (grayP p) = true := by
  have := pixB_parts h
  refine pixB_of ?_
  unfold grayP
  simp only
  omega
theorem grayP_twice (p : Px) : grayP (grayP p) = grayP p := by
  unfold grayP
  simp only [Px.mk.injEq, and_true]
  omega
/-- A part of a pixel in front of another one lies between. -/
theorem over_in {p o a : Int} (ha : 0 ≤ a ∧ a ≤ 255) : min p o ≤ (p * a + o * (255 - a)) / 255 ∧ (p * a + o * (255 - a)) / 255 ≤ max p o := by
  have h1 : p * a + o * (255 - a) = (p - o) * a + o * 255 := by
    rw [Int.mul_sub, Int.sub_mul]
    omega
  rw [h1, Int.add_mul_ediv_right _ _ (by decide)]
  rcases Int.le_total o p with h | h
  · have hm : 0 ≤ (p - o) * a := Int.mul_nonneg (by omega) ha.1
    have hM : (p - o) * a ≤ (p - o) * 255 := Int.mul_le_mul_of_nonneg_left ha.2 (by omega)
    omega
  · have hm : (p - o) * a ≤ 0 := Int.mul_nonpos_of_nonpos_of_nonneg (by omega) ha.1
    have hM : (p - o) * 255 ≤ (p - o) * a := Int.mul_le_mul_of_nonpos_left (by omega) ha.2
    omega
theorem flatP1_ok {o : Op} {p : Px} (h : pixB p = true) (ha : 0 ≤ o.a ∧ o.a ≤ 255) (hb : 0 ≤ o.b ∧ o.b ≤ 255) (hc : 0 ≤ o.c ∧ o.c ≤ 255) : pixB (flatP1 o p) = true := by
  obtain ⟨h1, h2, h3, h4⟩ := pixB_parts h
  have e1 := over_in (p := p.r) (o := o.a) h4
  have e2 := over_in (p := p.g) (o := o.b) h4
  have e3 := over_in (p := p.b) (o := o.c) h4
  refine pixB_of ?_
  unfold flatP1
  simp only
  omega
theorem flatP1_full (o : Op) {p : Px} (h : p.a = 255) : flatP1 o p = p := by
  obtain ⟨r, g, b, a⟩ := p
  simp only at h
  subst h
  unfold flatP1
  simp only [Px.mk.injEq, and_true]
  omega
theorem flatP1_none (o : Op) {p : Px} (h : p.a = 0) : flatP1 o p = ⟨o.a, o.b, o.c, 255⟩ := by
  unfold flatP1
  rw [h]
  simp only [Px.mk.injEq, and_true]
  omega
theorem flatP1_twice (o : Op) (p : Px) : flatP1 o (flatP1 o p) = flatP1 o p := flatP1_full o rfl

/-! Whole rasters. -/
section
variable {r : Ra}
theorem turn4 (h : r.ok) : turnR (turnR (turnR (turnR r))) = r := by
  refine ra_ext (turnR_ok (turnR_ok (turnR_ok (turnR_ok h)))) (h) rfl rfl fun x y hx hy => ?_
  simp only [turnR_w, turnR_h] at hx hy ⊢
  simp (disch := first | omega | (simp only [turnR_w, turnR_h, flipXR_w, flipXR_h, flipYR_w, flipYR_h, cropR_w, cropR_h, eachR_w, eachR_h, blurR_w, blurR_h, sizeR_w, sizeR_h]; omega)) only [turnR_at, turnR_w, turnR_h]
  congr 1 <;> omega
theorem turn2 (h : r.ok) : turnR (turnR r) = flipYR (flipXR r) := by
  refine ra_ext (turnR_ok (turnR_ok h)) (flipYR_ok (flipXR_ok h)) rfl rfl fun x y hx hy => ?_
  simp only [turnR_w, turnR_h] at hx hy ⊢
  simp (disch := first | omega | (simp only [turnR_w, turnR_h, flipXR_w, flipXR_h, flipYR_w, flipYR_h, cropR_w, cropR_h, eachR_w, eachR_h, blurR_w, blurR_h, sizeR_w, sizeR_h]; omega)) only [turnR_at, flipXR_at, flipYR_at, turnR_h, flipXR_h]
theorem turn_flipX (h : r.ok) : flipXR (turnR r) = turnR (flipYR r) := by
  refine ra_ext (flipXR_ok (turnR_ok h)) (turnR_ok (flipYR_ok h)) rfl rfl fun x y hx hy => ?_
  simp only [turnR_w, turnR_h, flipXR_w, flipXR_h] at hx hy ⊢
  simp (disch := first | omega | (simp only [turnR_w, turnR_h, flipXR_w, flipXR_h, flipYR_w, flipYR_h, cropR_w, cropR_h, eachR_w, eachR_h, blurR_w, blurR_h, sizeR_w, sizeR_h]; omega)) only [turnR_at, flipXR_at, flipYR_at, turnR_w, flipYR_h]
theorem flipX2 (h : r.ok) : flipXR (flipXR r) = r := by
  refine ra_ext (flipXR_ok (flipXR_ok h)) (h) rfl rfl fun x y hx hy => ?_
  simp only [flipXR_w, flipXR_h] at hx hy ⊢
  simp (disch := first | omega | (simp only [turnR_w, turnR_h, flipXR_w, flipXR_h, flipYR_w, flipYR_h, cropR_w, cropR_h, eachR_w, eachR_h, blurR_w, blurR_h, sizeR_w, sizeR_h]; omega)) only [flipXR_at, flipXR_w]
  congr 1 <;> omega
theorem flipY2 (h : r.ok) : flipYR (flipYR r) = r := by
  refine ra_ext (flipYR_ok (flipYR_ok h)) (h) rfl rfl fun x y hx hy => ?_
  simp only [flipYR_w, flipYR_h] at hx hy ⊢
  simp (disch := first | omega | (simp only [turnR_w, turnR_h, flipXR_w, flipXR_h, flipYR_w, flipYR_h, cropR_w, cropR_h, eachR_w, eachR_h, blurR_w, blurR_h, sizeR_w, sizeR_h]; omega)) only [flipYR_at, flipYR_h]
  congr 1 <;> omega
theorem flipXY (h : r.ok) : flipYR (flipXR r) = flipXR (flipYR r) := by
  refine ra_ext (flipYR_ok (flipXR_ok h)) (flipXR_ok (flipYR_ok h)) rfl rfl fun x y hx hy => ?_
  simp only [flipXR_w, flipXR_h, flipYR_w, flipYR_h] at hx hy ⊢
  simp (disch := first | omega | (simp only [turnR_w, turnR_h, flipXR_w, flipXR_h, flipYR_w, flipYR_h, cropR_w, cropR_h, eachR_w, eachR_h, blurR_w, blurR_h, sizeR_w, sizeR_h]; omega)) only [flipXR_at, flipYR_at, flipXR_h, flipYR_w]
/-- About the line that stands, a quarter, and about it again: three quarters. -/
theorem group1 (h : r.ok) : flipXR (turnR (flipXR r)) = turnR (turnR (turnR r)) := by
  rw [turn_flipX (flipXR_ok h), ← turn2 h]
theorem group2 (h : r.ok) : flipYR r = turnR (turnR (flipXR r)) := by
  rw [turn2 (flipXR_ok h), flipX2 h]
theorem group3 (h : r.ok) : flipXR (turnR (flipXR (turnR r))) = r := by
  rw [group1 (turnR_ok h), turn4 h]
theorem crop_all (h : r.ok) : cropR r 0 0 r.w r.h = r := by
  refine ra_ext (cropR_ok h h.parts.1.1 h.parts.2.1.1 (by omega) (by omega)) (h) rfl rfl fun x y hx hy => ?_
  simp only [cropR_w, cropR_h] at hx hy ⊢
  simp (disch := first | omega | (simp only [turnR_w, turnR_h, flipXR_w, flipXR_h, flipYR_w, flipYR_h, cropR_w, cropR_h, eachR_w, eachR_h, blurR_w, blurR_h, sizeR_w, sizeR_h]; omega)) only [cropR_at]
  congr 1 <;> omega
theorem crop_crop (h : r.ok) {a b c d e f m n : Nat} (hac : a + c ≤ r.w) (hbd : b + d ≤ r.h) (hm : 1 ≤ m) (hn : 1 ≤ n) (hem : e + m ≤ c) (hfn : f + n ≤ d) : cropR (cropR r a b c d) e f m n = cropR r (a + e) (b + f) m n := by
  refine ra_ext (cropR_ok (cropR_ok h (by omega) (by omega) hac hbd) hm hn hem hfn) (cropR_ok h hm hn (by omega) (by omega)) rfl rfl fun x y hx hy => ?_
  simp only [cropR_w, cropR_h] at hx hy ⊢
  simp (disch := first | omega | (simp only [turnR_w, turnR_h, flipXR_w, flipXR_h, flipYR_w, flipYR_h, cropR_w, cropR_h, eachR_w, eachR_h, blurR_w, blurR_h, sizeR_w, sizeR_h]; omega)) only [cropR_at]
  congr 1 <;> omega
theorem crop_flipX (h : r.ok) {a b c d : Nat} (hc : 1 ≤ c) (hd : 1 ≤ d) (hac : a + c ≤ r.w) (hbd : b + d ≤ r.h) : flipXR (cropR r a b c d) = cropR (flipXR r) (r.w - a - c) b c d := by
  refine ra_ext (flipXR_ok (cropR_ok h hc hd hac hbd)) (cropR_ok (flipXR_ok h) hc hd (by rw [flipXR_w]; omega) hbd) rfl rfl fun x y hx hy => ?_
  simp only [flipXR_w, flipXR_h, cropR_w, cropR_h] at hx hy ⊢
  simp (disch := first | omega | (simp only [turnR_w, turnR_h, flipXR_w, flipXR_h, flipYR_w, flipYR_h, cropR_w, cropR_h, eachR_w, eachR_h, blurR_w, blurR_h, sizeR_w, sizeR_h]; omega)) only [flipXR_at, cropR_at, cropR_w]
  congr 1 <;> omega
theorem crop_flipY (h : r.ok) {a b c d : Nat} (hc : 1 ≤ c) (hd : 1 ≤ d) (hac : a + c ≤ r.w) (hbd : b + d ≤ r.h) : flipYR (cropR r a b c d) = cropR (flipYR r) a (r.h - b - d) c d := by
  refine ra_ext (flipYR_ok (cropR_ok h hc hd hac hbd)) (cropR_ok (flipYR_ok h) hc hd hac (by rw [flipYR_h]; omega)) rfl rfl fun x y hx hy => ?_
  simp only [flipYR_w, flipYR_h, cropR_w, cropR_h] at hx hy ⊢
  simp (disch := first | omega | (simp only [turnR_w, turnR_h, flipXR_w, flipXR_h, flipYR_w, flipYR_h, cropR_w, cropR_h, eachR_w, eachR_h, blurR_w, blurR_h, sizeR_w, sizeR_h]; omega)) only [flipYR_at, cropR_at, cropR_h]
  congr 1 <;> omega
theorem crop_turn (h : r.ok) {a b c d : Nat} (hc : 1 ≤ c) (hd : 1 ≤ d) (hac : a + c ≤ r.w) (hbd : b + d ≤ r.h) : turnR (cropR r a b c d) = cropR (turnR r) (r.h - b - d) a d c := by
  refine ra_ext (turnR_ok (cropR_ok h hc hd hac hbd)) (cropR_ok (turnR_ok h) hd hc (by rw [turnR_w]; omega) hac) rfl rfl fun x y hx hy => ?_
  simp only [turnR_w, turnR_h, cropR_w, cropR_h] at hx hy ⊢
  simp (disch := first | omega | (simp only [turnR_w, turnR_h, flipXR_w, flipXR_h, flipYR_w, flipYR_h, cropR_w, cropR_h, eachR_w, eachR_h, blurR_w, blurR_h, sizeR_w, sizeR_h]; omega)) only [turnR_at, cropR_at, cropR_h]
  congr 1 <;> omega

/-! What hangs on each pixel alone. -/
variable {g : Px → Px}
theorem each_turn (h : r.ok) (hg : ∀ p, pixB p = true → pixB (g p) = true) : eachR g (turnR r) = turnR (eachR g r) := by
  refine ra_ext (eachR_ok (turnR_ok h) hg) (turnR_ok (eachR_ok h hg)) rfl rfl fun x y hx hy => ?_
  simp only [turnR_w, turnR_h, eachR_w, eachR_h] at hx hy ⊢
  simp (disch := first | omega | (simp only [turnR_w, turnR_h, flipXR_w, flipXR_h, flipYR_w, flipYR_h, cropR_w, cropR_h, eachR_w, eachR_h, blurR_w, blurR_h, sizeR_w, sizeR_h]; omega)) only [turnR_at, eachR_at, eachR_h]
theorem each_flipX (h : r.ok) (hg : ∀ p, pixB p = true → pixB (g p) = true) : eachR g (flipXR r) = flipXR (eachR g r) := by
  refine ra_ext (eachR_ok (flipXR_ok h) hg) (flipXR_ok (eachR_ok h hg)) rfl rfl fun x y hx hy => ?_
  simp only [flipXR_w, flipXR_h, eachR_w, eachR_h] at hx hy ⊢
  simp (disch := first | omega | (simp only [turnR_w, turnR_h, flipXR_w, flipXR_h, flipYR_w, flipYR_h, cropR_w, cropR_h, eachR_w, eachR_h, blurR_w, blurR_h, sizeR_w, sizeR_h]; omega)) only [flipXR_at, eachR_at, eachR_w]
theorem each_flipY (h : r.ok) (hg : ∀ p, pixB p = true → pixB (g p) = true) : eachR g (flipYR r) = flipYR (eachR g r) := by
  refine ra_ext (eachR_ok (flipYR_ok h) hg) (flipYR_ok (eachR_ok h hg)) rfl rfl fun x y hx hy => ?_
  simp only [flipYR_w, flipYR_h, eachR_w, eachR_h] at hx hy ⊢
  simp (disch := first | omega | (simp only [turnR_w, turnR_h, flipXR_w, flipXR_h, flipYR_w, flipYR_h, cropR_w, cropR_h, eachR_w, eachR_h, blurR_w, blurR_h, sizeR_w, sizeR_h]; omega)) only [flipYR_at, eachR_at, eachR_h]
theorem each_crop (h : r.ok) (hg : ∀ p, pixB p = true → pixB (g p) = true) {a b c d : Nat} (hc : 1 ≤ c) (hd : 1 ≤ d) (hac : a + c ≤ r.w) (hbd : b + d ≤ r.h) : eachR g (cropR r a b c d) = cropR (eachR g r) a b c d := by
  refine ra_ext (eachR_ok (cropR_ok h hc hd hac hbd) hg) (cropR_ok (eachR_ok h hg) hc hd hac hbd) rfl rfl fun x y hx hy => ?_
  simp only [cropR_w, cropR_h, eachR_w, eachR_h] at hx hy ⊢
  simp (disch := first | omega | (simp only [turnR_w, turnR_h, flipXR_w, flipXR_h, flipYR_w, flipYR_h, cropR_w, cropR_h, eachR_w, eachR_h, blurR_w, blurR_h, sizeR_w, sizeR_h]; omega)) only [cropR_at, eachR_at]
theorem each_size (h : r.ok) (hg : ∀ p, pixB p = true → pixB (g p) = true) {a b : Nat} (ha : 1 ≤ a ∧ a ≤ 6) (hb : 1 ≤ b ∧ b ≤ 6) : eachR g (sizeR r a b) = sizeR (eachR g r) a b := by
  refine ra_ext (eachR_ok (sizeR_ok h ha hb) hg) (sizeR_ok (eachR_ok h hg) ha hb) rfl rfl fun x y hx hy => ?_
  simp only [eachR_w, eachR_h, sizeR_w, sizeR_h] at hx hy
  rw [eachR_at g (sizeR r a b) hx hy, sizeR_at r hx hy, sizeR_at (eachR g r) hx hy, eachR_w, eachR_h, eachR_at g r (pick_lt h.parts.1.1 hx) (pick_lt h.parts.2.1.1 hy)]
theorem each_twice (h : r.ok) (hg : ∀ p, pixB p = true → pixB (g p) = true) (hh : ∀ p, g (g p) = g p) : eachR g (eachR g r) = eachR g r := by
  refine ra_ext (eachR_ok (eachR_ok h hg) hg) (eachR_ok h hg) rfl rfl fun x y hx hy => ?_
  simp only [eachR_w, eachR_h] at hx hy ⊢
  simp (disch := first | omega | (simp only [turnR_w, turnR_h, flipXR_w, flipXR_h, flipYR_w, flipYR_h, cropR_w, cropR_h, eachR_w, eachR_h, blurR_w, blurR_h, sizeR_w, sizeR_h]; omega)) only [eachR_at]
  rw [hh]

/-! Other sizes. -/
theorem pick_same {n x : Nat} (hn : 1 ≤ n) : (2 * x + 1) * n / (2 * n) = x := by
  rw [Nat.mul_div_mul_right _ _ (by omega)]
  omega
theorem pick_up {n x : Nat} (hn : 1 ≤ n) : (2 * x + 1) * n / (2 * (2 * n)) = x / 2 := by
  rw [← Nat.mul_assoc, Nat.mul_div_mul_right _ _ (by omega)]
  omega
theorem pick_down {n x : Nat} (hn : 1 ≤ n) : (2 * x + 1) * (2 * n) / (2 * n) = 2 * x + 1 := Nat.mul_div_cancel _ (by omega)
theorem size_same (h : r.ok) : sizeR r r.w r.h = r := by
  refine ra_ext (sizeR_ok h h.parts.1 h.parts.2.1) h rfl rfl fun x y hx hy => ?_
  rw [sizeR_w] at hx
  rw [sizeR_h] at hy
  rw [sizeR_at r hx hy, pick_same h.parts.1.1, pick_same h.parts.2.1.1]
theorem size_twice (h : r.ok) {a b : Nat} (ha : 1 ≤ a ∧ a ≤ 6) (hb : 1 ≤ b ∧ b ≤ 6) : sizeR (sizeR r a b) a b = sizeR r a b := size_same (sizeR_ok h ha hb)
theorem size_first (h : r.ok) {a b : Nat} (ha : 1 ≤ a ∧ a ≤ 6) (hb : 1 ≤ b ∧ b ≤ 6) : sizeR (sizeR r a r.h) a b = sizeR r a b := by
  have h1 := sizeR_ok h ha h.parts.2.1
  refine ra_ext (sizeR_ok h1 ha hb) (sizeR_ok h ha hb) rfl rfl fun x y hx hy => ?_
  rw [sizeR_w] at hx
  rw [sizeR_h] at hy
  rw [sizeR_at _ hx hy, sizeR_at r hx hy, sizeR_w, sizeR_h, pick_same ha.1, sizeR_at r hx (pick_lt h.parts.2.1.1 hy), pick_same h.parts.2.1.1]
theorem size_last (h : r.ok) {a b : Nat} (ha : 1 ≤ a ∧ a ≤ 6) (hb : 1 ≤ b ∧ b ≤ 6) : sizeR (sizeR r r.w b) a b = sizeR r a b := by
  have h1 := sizeR_ok h h.parts.1 hb
  refine ra_ext (sizeR_ok h1 ha hb) (sizeR_ok h ha hb) rfl rfl fun x y hx hy => ?_
  rw [sizeR_w] at hx
  rw [sizeR_h] at hy
  rw [sizeR_at _ hx hy, sizeR_at r hx hy, sizeR_w, sizeR_h, pick_same hb.1, sizeR_at r (pick_lt h.parts.1.1 hx) hy, pick_same h.parts.1.1]
theorem size_up_at (h : r.ok) {x y : Nat} (hx : x < 2 * r.w) (hy : y < 2 * r.h) : (sizeR r (2 * r.w) (2 * r.h)).at x y = r.at (x / 2) (y / 2) := by
  rw [sizeR_at r hx hy, pick_up h.parts.1.1, pick_up h.parts.2.1.1]
theorem size_up_down (h : r.ok) (hw : 2 * r.w ≤ 6) (hh : 2 * r.h ≤ 6) : sizeR (sizeR r (2 * r.w) (2 * r.h)) r.w r.h = r := by
  have h1 := h.parts.1.1
  have h2 := h.parts.2.1.1
  refine ra_ext (sizeR_ok (sizeR_ok h (by omega) (by omega)) h.parts.1 h.parts.2.1) h rfl rfl fun x y hx hy => ?_
  rw [sizeR_w] at hx
  rw [sizeR_h] at hy
  rw [sizeR_at _ hx hy, sizeR_w, sizeR_h, pick_down h1, pick_down h2, size_up_at h (by omega) (by omega), show (2 * x + 1) / 2 = x from by omega, show (2 * y + 1) / 2 = y from by omega]
end
end Go.Proofs.YtiemlakjallphabDoor
namespace Go.Proofs.YtiemlakjallphabDoor
set_option maxRecDepth 4000

/-- The sum of n numbers. -/
def sumI (f : Nat → Int) : Nat → Int
  | 0 => 0
  | n + 1 => sumI f n + f n
theorem sumI_congr {f g : Nat → Int} : ∀ {n : Nat}, (∀ i, i < n → f i = g i) → sumI f n = sumI g n
  | 0, _ => rfl
  | n + 1, h => by rw [sumI, sumI, sumI_congr fun i hi => h i (by omega), h n (by omega)]
theorem sumI_first (f : Nat → Int) : ∀ n, sumI f (n + 1) = f 0 + sumI (fun i => f (i + 1)) n
  | 0 => by simp [sumI]
  | n + 1 => by rw [sumI, sumI_first f n, sumI]; omega
theorem sumI_rev (f : Nat → Int) : ∀ n, sumI (fun i => f (n - 1 - i)) n = sumI f n
  | 0 => rfl
  | n + 1 => by
    rw [sumI_first, sumI, ← sumI_rev f n]
    rw [sumI_congr (g := fun i => f (n - 1 - i)) fun i hi => by show f (n + 1 - 1 - (i + 1)) = _; congr 1; omega]
    show f (n + 1 - 1 - 0) + _ = _
    rw [show n + 1 - 1 - 0 = n from by omega]
    omega
theorem sumI_add (f g : Nat → Int) : ∀ n, sumI (fun i => f i + g i) n = sumI f n + sumI g n
  | 0 => rfl
  | n + 1 => by rw [sumI, sumI, sumI, sumI_add f g n]; omega
theorem sumI_zero : ∀ n, sumI (fun _ => 0) n = 0
  | 0 => rfl
  | n + 1 => by rw [sumI, sumI_zero n]; rfl
theorem sumI_swap (f : Nat → Nat → Int) (n : Nat) : ∀ m, sumI (fun i => sumI (f i) n) m = sumI (fun j => sumI (fun i => f i j) m) n
  | 0 => (sumI_zero n).symm
  | m + 1 => by
    rw [sumI, sumI_swap f n m, ← sumI_add]
    rfl
theorem sumI_const (c : Int) : ∀ n, sumI (fun _ => c) n = n * c
  | 0 => by simp [sumI]
  | n + 1 => by rw [sumI, sumI_const c n, Int.natCast_add, Int.add_mul]; omega
theorem sumI_le {f g : Nat → Int} : ∀ {n : Nat}, (∀ i, i < n → f i ≤ g i) → sumI f n ≤ sumI g n
  | 0, _ => Int.le_refl _
  | n + 1, h => by
    have h1 := sumI_le (n := n) fun i hi => h i (by omega)
    have h2 := h n (by omega)
    rw [sumI, sumI]
    omega

/-- A part of a pixel. -/
structure Part where
  f : Px → Int
  zero : f px0 = 0
  add : ∀ p q, f (addP p q) = f p + f q
def partR : Part := ⟨Px.r, rfl, fun _ _ => rfl⟩
def partG : Part := ⟨Px.g, rfl, fun _ _ => rfl⟩
def partB' : Part := ⟨Px.b, rfl, fun _ _ => rfl⟩
def partA : Part := ⟨Px.a, rfl, fun _ _ => rfl⟩
theorem px_parts {p q : Px} (h : ∀ c : Part, c.f p = c.f q) : p = q := by
  cases p
  cases q
  have h1 := h partR
  have h2 := h partG
  have h3 := h partB'
  have h4 := h partA
  simp only [partR, partG, partB', partA] at h1 h2 h3 h4
  subst h1 h2 h3 h4
  rfl
theorem sumRow_part (c : Part) (f : Nat → Px) (s : Px) (j : Nat) : ∀ n, c.f (sumRow f s j n) = c.f s + sumI (fun i => c.f (f (j + i))) n
  | 0 => by simp [sumRow, sumI]
  | n + 1 => by rw [sumRow, c.add, sumRow_part c f s j n, sumI]; omega
theorem sumBox_part (c : Part) (f : Nat → Nat → Px) (j n k : Nat) : ∀ m, c.f (sumBox f j n k m) = sumI (fun b => sumI (fun a => c.f (f (j + a) (k + b))) n) m
  | 0 => by rw [sumBox, sumI, c.zero]
  | m + 1 => by rw [sumBox, sumRow_part, sumBox_part c f j n k m, sumI]
/-- What is summed for a place. -/
def boxR (r : Ra) (x y : Nat) : Px := sumBox r.at (lo1 x) (cnt1 r.w x) (lo1 y) (cnt1 r.h y)
def boxN (r : Ra) (x y : Nat) : Nat := cnt1 r.h y * cnt1 r.w x
theorem meanP_eq {r s : Ra} {x y u v : Nat} (h : boxR r x y = boxR s u v) (hn : boxN r x y = boxN s u v) : meanP r x y = meanP s u v := by
  unfold meanP
  unfold boxR at h
  unfold boxN at hn
  rw [h, hn]
theorem lo_in {W x : Nat} (hx : x < W) : lo1 x + cnt1 W x ≤ W ∧ 1 ≤ cnt1 W x ∧ lo1 x ≤ x ∧ x < lo1 x + cnt1 W x := by
  unfold lo1 cnt1 lo1
  omega
theorem cnt_rev {W x : Nat} (hx : x < W) : cnt1 W (W - 1 - x) = cnt1 W x ∧ lo1 (W - 1 - x) + (lo1 x + cnt1 W x) = W := by
  unfold cnt1 lo1
  omega
theorem box_flipX {r : Ra} {x y : Nat} (hx : x < r.w) (hy : y < r.h) : boxR (flipXR r) x y = boxR r (r.w - 1 - x) y := by
  refine px_parts fun c => ?_
  unfold boxR
  rw [sumBox_part, sumBox_part]
  show sumI (fun b => sumI (fun a => c.f ((flipXR r).at (lo1 x + a) (lo1 y + b))) (cnt1 r.w x)) (cnt1 r.h y) = _
  obtain ⟨e1, e2⟩ := cnt_rev hx
  have hyi := lo_in hy
  rw [e1]
  refine sumI_congr fun b hb => ?_
  rw [← sumI_rev]
  refine sumI_congr fun a ha => ?_
  rw [flipXR_at _ (by omega) (by omega)]
  congr 2
  omega
theorem box_flipY {r : Ra} {x y : Nat} (hx : x < r.w) (hy : y < r.h) : boxR (flipYR r) x y = boxR r x (r.h - 1 - y) := by
  refine px_parts fun c => ?_
  unfold boxR
  rw [sumBox_part, sumBox_part]
  show sumI (fun b => sumI (fun a => c.f ((flipYR r).at (lo1 x + a) (lo1 y + b))) (cnt1 r.w x)) (cnt1 r.h y) = _
  obtain ⟨e1, e2⟩ := cnt_rev hy
  have hxi := lo_in hx
  rw [e1, ← sumI_rev]
  refine sumI_congr fun b hb => ?_
  refine sumI_congr fun a ha => ?_
  rw [flipYR_at _ (by omega) (by omega)]
  congr 2
  omega
theorem box_turn {r : Ra} {x y : Nat} (hx : x < r.h) (hy : y < r.w) : boxR (turnR r) x y = boxR r y (r.h - 1 - x) := by
  refine px_parts fun c => ?_
  unfold boxR
  rw [sumBox_part, sumBox_part]
  show sumI (fun b => sumI (fun a => c.f ((turnR r).at (lo1 x + a) (lo1 y + b))) (cnt1 r.h x)) (cnt1 r.w y) = _
  obtain ⟨e1, e2⟩ := cnt_rev hx
  have hyi := lo_in hy
  rw [e1, sumI_swap, ← sumI_rev]
  refine sumI_congr fun b hb => ?_
  refine sumI_congr fun a ha => ?_
  rw [turnR_at _ (by omega) (by omega)]
  congr 2
  omega
theorem box_crop {r : Ra} {x y : Nat} (hx : x < r.w) (hy : y < r.h) : boxR (cropR r (lo1 x) (lo1 y) (cnt1 r.w x) (cnt1 r.h y)) (x - lo1 x) (y - lo1 y) = boxR r x y := by
  refine px_parts fun c => ?_
  unfold boxR
  rw [sumBox_part, sumBox_part]
  have hxi := lo_in hx
  have hyi := lo_in hy
  have a1 : lo1 (x - lo1 x) = 0 := by unfold lo1; omega
  have a2 : lo1 (y - lo1 y) = 0 := by unfold lo1; omega
  have a3 : cnt1 (cnt1 r.w x) (x - lo1 x) = cnt1 r.w x := by unfold cnt1 lo1; omega
  have a4 : cnt1 (cnt1 r.h y) (y - lo1 y) = cnt1 r.h y := by unfold cnt1 lo1; omega
  rw [a1, a2]
  show sumI (fun b => sumI (fun a => c.f ((cropR r (lo1 x) (lo1 y) (cnt1 r.w x) (cnt1 r.h y)).at (0 + a) (0 + b))) (cnt1 (cnt1 r.w x) (x - lo1 x))) (cnt1 (cnt1 r.h y) (y - lo1 y)) = _
  rw [a3, a4]
  refine sumI_congr fun b hb => ?_
  refine sumI_congr fun a ha => ?_
  rw [Nat.zero_add, Nat.zero_add, cropR_at _ ha hb]
theorem boxN_crop {r : Ra} {x y : Nat} (hx : x < r.w) (hy : y < r.h) : boxN (cropR r (lo1 x) (lo1 y) (cnt1 r.w x) (cnt1 r.h y)) (x - lo1 x) (y - lo1 y) = boxN r x y := by
  show cnt1 (cnt1 r.h y) (y - lo1 y) * cnt1 (cnt1 r.w x) (x - lo1 x) = cnt1 r.h y * cnt1 r.w x
  have a3 : cnt1 (cnt1 r.w x) (x - lo1 x) = cnt1 r.w x := by unfold cnt1 lo1; omega
  have a4 : cnt1 (cnt1 r.h y) (y - lo1 y) = cnt1 r.h y := by unfold cnt1 lo1; omega
  rw [a3, a4]
/-- What lies between, summed. -/
theorem box_between (c : Part) {r : Ra} {x y : Nat} (hx : x < r.w) (hy : y < r.h) (lo hi : Int) (h : ∀ i j, i < r.w → j < r.h → (i ≤ x + 1 ∧ x ≤ i + 1) → (j ≤ y + 1 ∧ y ≤ j + 1) → lo ≤ c.f (r.at i j) ∧ c.f (r.at i j) ≤ hi) :
    lo ≤ c.f (boxR r x y) / (boxN r x y : Int) ∧ c.f (boxR r x y) / (boxN r x y : Int) ≤ hi := by
  have hxi := lo_in hx
  have hyi := lo_in hy
  have hn : (0 : Int) < (boxN r x y : Int) := by
    unfold boxN
    have := Nat.mul_pos (show 0 < cnt1 r.h y by omega) (show 0 < cnt1 r.w x by omega)
    omega
  have key : ∀ a b, a < cnt1 r.w x → b < cnt1 r.h y → lo ≤ c.f (r.at (lo1 x + a) (lo1 y + b)) ∧ c.f (r.at (lo1 x + a) (lo1 y + b)) ≤ hi := fun a b ha hb => by
    refine h _ _ (by omega) (by omega) ?_ ?_
    · unfold cnt1 lo1 at *
      omega
    · unfold cnt1 lo1 at *
      omega
  have hB : (boxN r x y : Int) = (cnt1 r.h y : Int) * (cnt1 r.w x : Int) := by unfold boxN; rw [Int.natCast_mul]
  unfold boxR at *
  rw [sumBox_part]
  constructor
  · rw [Int.le_ediv_iff_mul_le hn, hB, Int.mul_comm]
    have := sumI_le (n := cnt1 r.h y) (f := fun _ => (cnt1 r.w x : Int) * lo) (g := fun b => sumI (fun a => c.f (r.at (lo1 x + a) (lo1 y + b))) (cnt1 r.w x)) fun b hb => by
      have := sumI_le (n := cnt1 r.w x) (f := fun _ => lo) (g := fun a => c.f (r.at (lo1 x + a) (lo1 y + b))) fun a ha => (key a b ha hb).1
      rwa [sumI_const] at this
    rw [sumI_const, ← Int.mul_assoc] at this
    exact this
  · refine Int.ediv_le_of_le_mul hn ?_
    rw [hB, Int.mul_comm]
    have := sumI_le (n := cnt1 r.h y) (g := fun _ => (cnt1 r.w x : Int) * hi) (f := fun b => sumI (fun a => c.f (r.at (lo1 x + a) (lo1 y + b))) (cnt1 r.w x)) fun b hb => by
      have := sumI_le (n := cnt1 r.w x) (g := fun _ => hi) (f := fun a => c.f (r.at (lo1 x + a) (lo1 y + b))) fun a ha => (key a b ha hb).2
      rwa [sumI_const] at this
    rw [sumI_const, ← Int.mul_assoc] at this
    exact this
theorem mean_g (r : Ra) (x y : Nat) : (meanP r x y).g = partG.f (boxR r x y) / (boxN r x y : Int) := rfl
theorem mean_between {r : Ra} {x y : Nat} (hx : x < r.w) (hy : y < r.h) (lo hi : Int) :
    ((∀ i j, i < r.w → j < r.h → (i ≤ x + 1 ∧ x ≤ i + 1) → (j ≤ y + 1 ∧ y ≤ j + 1) → lo ≤ (r.at i j).r ∧ (r.at i j).r ≤ hi) → lo ≤ (meanP r x y).r ∧ (meanP r x y).r ≤ hi) ∧
    ((∀ i j, i < r.w → j < r.h → (i ≤ x + 1 ∧ x ≤ i + 1) → (j ≤ y + 1 ∧ y ≤ j + 1) → lo ≤ (r.at i j).g ∧ (r.at i j).g ≤ hi) → lo ≤ (meanP r x y).g ∧ (meanP r x y).g ≤ hi) ∧
    ((∀ i j, i < r.w → j < r.h → (i ≤ x + 1 ∧ x ≤ i + 1) → (j ≤ y + 1 ∧ y ≤ j + 1) → lo ≤ (r.at i j).b ∧ (r.at i j).b ≤ hi) → lo ≤ (meanP r x y).b ∧ (meanP r x y).b ≤ hi) ∧
    ((∀ i j, i < r.w → j < r.h → (i ≤ x + 1 ∧ x ≤ i + 1) → (j ≤ y + 1 ∧ y ≤ j + 1) → lo ≤ (r.at i j).a ∧ (r.at i j).a ≤ hi) → lo ≤ (meanP r x y).a ∧ (meanP r x y).a ≤ hi) :=
  ⟨fun h => box_between partR hx hy lo hi h, fun h => box_between partG hx hy lo hi h, fun h => box_between partB' hx hy lo hi h, fun h => box_between partA hx hy lo hi h⟩
section
variable {r : Ra}
theorem meanP_ok (h : r.ok) {x y : Nat} (hx : x < r.w) (hy : y < r.h) : pixB (meanP r x y) = true := by
  obtain ⟨h1, h2, h3, h4⟩ := mean_between hx hy 0 255
  exact pixB_of ⟨h1 fun i j hi hj _ _ => (pixB_parts (h.at hi hj).2).1, h2 fun i j hi hj _ _ => (pixB_parts (h.at hi hj).2).2.1, h3 fun i j hi hj _ _ => (pixB_parts (h.at hi hj).2).2.2.1, h4 fun i j hi hj _ _ => (pixB_parts (h.at hi hj).2).2.2.2⟩
theorem blurR_ok (h : r.ok) : (blurR r).ok := mk_ok h.parts.1 h.parts.2.1 fun _ _ hx hy => meanP_ok h hx hy
theorem blur_flipX (h : r.ok) : blurR (flipXR r) = flipXR (blurR r) := by
  refine ra_ext (blurR_ok (flipXR_ok h)) (flipXR_ok (blurR_ok h)) rfl rfl fun x y hx hy => ?_
  have hx' : x < r.w := hx
  have hy' : y < r.h := hy
  rw [blurR_at (flipXR r) hx hy, flipXR_at (blurR r) hx hy, blurR_w, blurR_at r (by omega) hy]
  refine meanP_eq (box_flipX hx' hy') ?_
  show cnt1 r.h y * cnt1 r.w x = cnt1 r.h y * cnt1 r.w (r.w - 1 - x)
  rw [(cnt_rev hx').1]
theorem blur_turn (h : r.ok) : blurR (turnR r) = turnR (blurR r) := by
  refine ra_ext (blurR_ok (turnR_ok h)) (turnR_ok (blurR_ok h)) rfl rfl fun x y hx hy => ?_
  have hx' : x < r.h := hx
  have hy' : y < r.w := hy
  rw [blurR_at (turnR r) hx hy, turnR_at (blurR r) hx hy, blurR_h, blurR_at r hy' (by omega)]
  refine meanP_eq (box_turn hx' hy') ?_
  show cnt1 r.w y * cnt1 r.h x = cnt1 r.h (r.h - 1 - x) * cnt1 r.w y
  rw [(cnt_rev hx').1, Nat.mul_comm]
/-- Blurred in its part. -/
theorem blur_in (r : Ra) {x y : Nat} (hx : x < r.w) (hy : y < r.h) : (blurR (cropR r (lo1 x) (lo1 y) (cnt1 r.w x) (cnt1 r.h y))).at (x - lo1 x) (y - lo1 y) = (blurR r).at x y := by
  have hxi := lo_in hx
  have hyi := lo_in hy
  rw [blurR_at _ (by show x - lo1 x < cnt1 r.w x; omega) (by show y - lo1 y < cnt1 r.h y; omega), blurR_at _ hx hy]
  exact meanP_eq (box_crop hx hy) (boxN_crop hx hy)
/-- All one colour stays. -/
theorem mean_plain {p : Px} (hp : ∀ x y, x < r.w → y < r.h → r.at x y = p) {x y : Nat} (hx : x < r.w) (hy : y < r.h) : meanP r x y = p := by
  have hr := (mean_between hx hy p.r p.r).1 fun i j hi hj _ _ => by rw [hp i j hi hj]; omega
  have hg := (mean_between hx hy p.g p.g).2.1 fun i j hi hj _ _ => by rw [hp i j hi hj]; omega
  have hb := (mean_between hx hy p.b p.b).2.2.1 fun i j hi hj _ _ => by rw [hp i j hi hj]; omega
  have ha := (mean_between hx hy p.a p.a).2.2.2 fun i j hi hj _ _ => by rw [hp i j hi hj]; omega
  generalize meanP r x y = q at *
  cases p
  cases q
  simp only at hr hg hb ha
  simp only [Px.mk.injEq]
  omega
theorem blur_plain (h : r.ok) {p : Px} (hp : ∀ x y, x < r.w → y < r.h → r.at x y = p) : blurR r = r := by
  refine ra_ext (blurR_ok h) h rfl rfl fun x y hx hy => ?_
  rw [blurR_w] at hx
  rw [blurR_h] at hy
  rw [blurR_at r hx hy, hp x y hx hy]
  exact mean_plain hp hx hy
/-- How well a raster covers, where all of it covers so. -/
def Ra.covers (r : Ra) (a : Int) : Prop := ∀ x y, x < r.w → y < r.h → (r.at x y).a = a
theorem blur_covers {a : Int} (hc : r.covers a) : (blurR r).covers a := fun x y hx hy => by
  rw [blurR_w] at hx
  rw [blurR_h] at hy
  rw [blurR_at r hx hy]
  have := (mean_between hx hy a a).2.2.2 fun i j hi hj _ _ => by rw [hc i j hi hj]; omega
  omega
end

/-! How often a pixel stands. -/
/-- One where it is that. -/
def isI (p q : Px) : Int := if q = p then 1 else 0
theorem count_snoc (p q : Px) (l : List Px) : ((l ++ [q]).count p : Int) = (l.count p : Int) + isI p q := by
  rw [List.count_append, List.count_singleton]
  unfold isI
  by_cases h : q = p
  · subst h; simp
  · rw [if_neg h]
    have : (q == p) = false := by simpa using h
    rw [this]
    simp
theorem count_tab (p : Px) (W : Nat) (f : Nat → Nat → Px) : ∀ H, ((tab W (W * H) f).count p : Int) = sumI (fun y => sumI (fun x => isI p (f x y)) W) H
  | 0 => by rw [Nat.mul_zero, tab_zero]; rfl
  | H + 1 => by
    have hrow : ∀ n, n ≤ W → ((tab W (H * W + n) f).count p : Int) = ((tab W (H * W) f).count p : Int) + sumI (fun x => isI p (f x H)) n := fun n => by
      induction n with
      | zero => intro _; simp [sumI]
      | succ n ih =>
        intro hn
        rw [tab_step f (by omega), count_snoc, ih (by omega), sumI]
        omega
    rw [sumI, ← count_tab p W f H, Nat.mul_comm W (H + 1), Nat.add_mul, Nat.one_mul, hrow W (Nat.le_refl _), Nat.mul_comm W H]
theorem count_flipX {r : Ra} (h : r.ok) (p : Px) : (flipXR r).p.count p = r.p.count p := by
  have h1 : ((flipXR r).p.count p : Int) = _ := count_tab p r.w (fun x y => r.at (r.w - 1 - x) y) r.h
  have h2 : (r.p.count p : Int) = _ := (congrArg (fun s : Ra => (s.p.count p : Int)) h.eq_mk).trans (count_tab p r.w r.at r.h)
  have : ((flipXR r).p.count p : Int) = (r.p.count p : Int) := by
    rw [h1, h2]
    exact sumI_congr fun y _ => sumI_rev (fun x => isI p (r.at x y)) r.w
  omega
theorem count_flipY {r : Ra} (h : r.ok) (p : Px) : (flipYR r).p.count p = r.p.count p := by
  have h1 : ((flipYR r).p.count p : Int) = _ := count_tab p r.w (fun x y => r.at x (r.h - 1 - y)) r.h
  have h2 : (r.p.count p : Int) = _ := (congrArg (fun s : Ra => (s.p.count p : Int)) h.eq_mk).trans (count_tab p r.w r.at r.h)
  have : ((flipYR r).p.count p : Int) = (r.p.count p : Int) := by
    rw [h1, h2]
    exact sumI_rev (fun y => sumI (fun x => isI p (r.at x y)) r.w) r.h
  omega
theorem count_turn {r : Ra} (h : r.ok) (p : Px) : (turnR r).p.count p = r.p.count p := by
  have h1 : ((turnR r).p.count p : Int) = _ := count_tab p r.h (fun x y => r.at y (r.h - 1 - x)) r.w
  have h2 : (r.p.count p : Int) = _ := (congrArg (fun s : Ra => (s.p.count p : Int)) h.eq_mk).trans (count_tab p r.w r.at r.h)
  have : ((turnR r).p.count p : Int) = (r.p.count p : Int) := by
    rw [h1, h2, sumI_swap]
    exact sumI_rev (fun y => sumI (fun x => isI p (r.at x y)) r.w) r.h
  omega
end Go.Proofs.YtiemlakjallphabDoor
namespace Go.Proofs.YtiemlakjallphabDoor
set_option maxRecDepth 4000

/-- The raster after operations, nothing where one cannot be done. -/
def eaR (r : Ra) (l : List Op) : Ra := l.foldl (fun r o => (opDo r.w r.h r.p o).getD ra0) r
theorem eaR_nil (r : Ra) : eaR r [] = r := rfl
theorem eaR_cons (r : Ra) (o : Op) (l : List Op) : eaR r (o :: l) = eaR ((opDo r.w r.h r.p o).getD ra0) l := rfl
theorem eaR_snoc (r : Ra) (l : List Op) (o : Op) : eaR r (l ++ [o]) = (opDo (eaR r l).w (eaR r l).h (eaR r l).p o).getD ra0 := by
  unfold eaR
  rw [List.foldl_append]
  rfl
def tO : Op := ⟨4, 0, 0, 0, 0⟩
def xO : Op := ⟨2, 0, 0, 0, 0⟩
def yO : Op := ⟨3, 0, 0, 0, 0⟩
def gO : Op := ⟨5, 0, 0, 0, 0⟩
def bO : Op := ⟨6, 0, 0, 0, 0⟩
def fO (a b c : Int) : Op := ⟨8, a, b, c, 0⟩
def sO (a b : Int) : Op := ⟨7, a, b, 0, 0⟩
def cO (a b c d : Int) : Op := ⟨1, a, b, c, d⟩
/-- What may be done with a raster that is one leaves one. -/
theorem doR_ok {r s : Ra} (h : r.ok) {o : Op} (ho : opB o = true) (hd : doR r o = some s) : s.ok := by
  unfold doR at hd
  unfold opB inR at ho
  have hp := h.parts
  by_cases h1 : o.k = 1
  · rw [if_pos h1] at hd ho
    simp only [Bool.and_eq_true, decide_eq_true_eq] at ho
    split at hd
    · cases hd
    · rename_i hn
      injection hd with hd
      subst hd
      exact cropR_ok h (by omega) (by omega) (by omega) (by omega)
  rw [if_neg h1] at hd ho
  by_cases h2 : o.k = 2
  · rw [if_pos h2] at hd
    injection hd with hd
    subst hd
    exact flipXR_ok h
  rw [if_neg h2] at hd
  by_cases h3 : o.k = 3
  · rw [if_pos h3] at hd
    injection hd with hd
    subst hd
    exact flipYR_ok h
  rw [if_neg h3] at hd
  by_cases h4 : o.k = 4
  · rw [if_pos h4] at hd
    injection hd with hd
    subst hd
    exact turnR_ok h
  rw [if_neg h4] at hd
  by_cases h5 : o.k = 5
  · rw [if_pos h5] at hd
    injection hd with hd
    subst hd
    exact eachR_ok h fun _ hp => grayP_ok hp
  rw [if_neg h5] at hd
  by_cases h6 : o.k = 6
  · rw [if_pos h6] at hd
    injection hd with hd
    subst hd
    exact blurR_ok h
  rw [if_neg h6] at hd
  by_cases h7 : o.k = 7
  · rw [if_pos h7] at hd ho
    injection hd with hd
    subst hd
    simp only [Bool.and_eq_true, decide_eq_true_eq] at ho
    exact sizeR_ok h (by omega) (by omega)
  rw [if_neg h7] at hd ho
  by_cases h8 : o.k = 8
  · rw [if_pos h8] at ho
    injection hd with hd
    subst hd
    simp only [Bool.and_eq_true, decide_eq_true_eq] at ho
    exact eachR_ok h fun _ hp => flatP1_ok hp ho.1 ho.2.1 ho.2.2.1
  · rw [if_neg h8] at ho
    simp only [Bool.and_eq_true, decide_eq_true_eq] at ho
    omega
theorem ra_len {r : Ra} (h : r.ok) : 1 ≤ r.p.length ∧ r.p.length ≤ 36 := by
  obtain ⟨h1, h2, h3, _⟩ := h.parts
  have := mul36 (W := (r.w : Int)) (H := (r.h : Int)) (by omega) (by omega)
  rw [← Int.natCast_mul, ← h3] at this
  omega
section
variable {r : Ra}
theorem ea_t (h : r.ok) (l : List Op) : eaR r (tO :: l) = eaR (turnR r) l := by rw [eaR_cons, opDo_ok h (o := tO) rfl]; rfl
theorem ea_x (h : r.ok) (l : List Op) : eaR r (xO :: l) = eaR (flipXR r) l := by rw [eaR_cons, opDo_ok h (o := xO) rfl]; rfl
theorem ea_y (h : r.ok) (l : List Op) : eaR r (yO :: l) = eaR (flipYR r) l := by rw [eaR_cons, opDo_ok h (o := yO) rfl]; rfl
theorem ea_g (h : r.ok) (l : List Op) : eaR r (gO :: l) = eaR (eachR grayP r) l := by rw [eaR_cons, opDo_ok h (o := gO) rfl]; rfl
theorem ea_b (h : r.ok) (l : List Op) : eaR r (bO :: l) = eaR (blurR r) l := by rw [eaR_cons, opDo_ok h (o := bO) rfl]; rfl
theorem ea_f (h : r.ok) (l : List Op) {a b c : Int} (ha : 0 ≤ a ∧ a ≤ 255) (hb : 0 ≤ b ∧ b ≤ 255) (hc : 0 ≤ c ∧ c ≤ 255) : eaR r (fO a b c :: l) = eaR (eachR (flatP1 (fO a b c)) r) l := by
  have ho : opB (fO a b c) = true := by
    unfold opB inR fO
    simp only [show ¬ ((8 : Int) = 1) by decide, show ¬ ((8 : Int) = 7) by decide, if_false, if_true, Bool.and_eq_true, decide_eq_true_eq]
    omega
  rw [eaR_cons, opDo_ok h ho]
  rfl
theorem ea_s (h : r.ok) (l : List Op) {a b : Nat} (ha : 1 ≤ a ∧ a ≤ 6) (hb : 1 ≤ b ∧ b ≤ 6) : eaR r (sO (a : Int) (b : Int) :: l) = eaR (sizeR r a b) l := by
  have ho : opB (sO (a : Int) (b : Int)) = true := by
    unfold opB inR sO
    simp only [show ¬ ((7 : Int) = 1) by decide, if_false, if_true, Bool.and_eq_true, decide_eq_true_eq]
    omega
  rw [eaR_cons, opDo_ok h ho]
  rfl
theorem ea_c (h : r.ok) (l : List Op) {a b c d : Nat} (hc : 1 ≤ c) (hd : 1 ≤ d) (hac : a + c ≤ r.w) (hbd : b + d ≤ r.h) : eaR r (cO (a : Int) (b : Int) (c : Int) (d : Int) :: l) = eaR (cropR r a b c d) l := by
  have h1 := h.parts.1
  have h2 := h.parts.2.1
  have ho : opB (cO (a : Int) (b : Int) (c : Int) (d : Int)) = true := by
    unfold opB inR cO
    simp only [if_true, Bool.and_eq_true, decide_eq_true_eq]
    omega
  rw [eaR_cons, opDo_ok h ho]
  unfold doR cO
  simp only [if_true]
  rw [if_neg (by omega)]
  rfl
end
end Go.Proofs.YtiemlakjallphabDoor
namespace Go.Proofs.YtiemlakjallphabDoor
set_option maxRecDepth 4000

/-- Operations one behind the other, on a raster that is one. -/
def opsR (r : Ra) : List Op → Option Ra
  | [] => some r
  | o :: t => (doR r o).bind fun s => opsR s t
theorem opsR_append : ∀ (l m : List Op) (r : Ra), opsR r (l ++ m) = (opsR r l).bind fun s => opsR s m
  | [], _, _ => rfl
  | o :: t, m, r => by
    show (doR r o).bind (fun s => opsR s (t ++ m)) = ((doR r o).bind fun s => opsR s t).bind fun s => opsR s m
    rw [Option.bind_assoc]
    congr 1
    funext s
    exact opsR_append t m s
theorem opsR_ok : ∀ {l : List Op} {r s : Ra}, r.ok → l.all opB = true → opsR r l = some s → s.ok
  | [], r, s, h, _, e => by
    injection e with e
    subst e
    exact h
  | o :: t, r, s, h, hl, e => by
    rw [List.all_cons, Bool.and_eq_true] at hl
    obtain ⟨u, hu, e⟩ := Option.bind_eq_some_iff.1 e
    exact opsR_ok (doR_ok h hl.1 hu) hl.2 e
theorem doR_2 (r : Ra) {o : Op} (h : o.k = 2) : doR r o = some (flipXR r) := by unfold doR; rw [h]; rfl
theorem doR_3 (r : Ra) {o : Op} (h : o.k = 3) : doR r o = some (flipYR r) := by unfold doR; rw [h]; rfl
theorem doR_4 (r : Ra) {o : Op} (h : o.k = 4) : doR r o = some (turnR r) := by unfold doR; rw [h]; rfl
theorem doR_5 (r : Ra) {o : Op} (h : o.k = 5) : doR r o = some (eachR grayP r) := by unfold doR; rw [h]; rfl
theorem doR_6 (r : Ra) {o : Op} (h : o.k = 6) : doR r o = some (blurR r) := by unfold doR; rw [h]; rfl
theorem doR_7 (r : Ra) {o : Op} (h : o.k = 7) : doR r o = some (sizeR r o.a.toNat o.b.toNat) := by unfold doR; rw [h]; rfl
theorem doR_8 (r : Ra) {o : Op} (h : o.k = 8) : doR r o = some (eachR (flatP1 o) r) := by unfold doR; rw [h]; rfl
theorem opB_1 {o : Op} (h : o.k = 1) (ho : opB o = true) : (0 ≤ o.a ∧ o.a ≤ 5) ∧ (0 ≤ o.b ∧ o.b ≤ 5) ∧ (1 ≤ o.c ∧ o.c ≤ 6) ∧ (1 ≤ o.d ∧ o.d ≤ 6) := by
  unfold opB inR at ho
  rw [if_pos h] at ho
  simpa using ho
theorem opB_7 {o : Op} (h : o.k = 7) (ho : opB o = true) : (1 ≤ o.a ∧ o.a ≤ 6) ∧ (1 ≤ o.b ∧ o.b ≤ 6) := by
  unfold opB inR at ho
  rw [if_neg (by omega), if_pos h] at ho
  simp only [Bool.and_eq_true, decide_eq_true_eq] at ho
  exact ⟨ho.1, ho.2.1⟩
theorem opB_8 {o : Op} (h : o.k = 8) (ho : opB o = true) : (0 ≤ o.a ∧ o.a ≤ 255) ∧ (0 ≤ o.b ∧ o.b ≤ 255) ∧ (0 ≤ o.c ∧ o.c ≤ 255) := by
  unfold opB inR at ho
  rw [if_neg (by omega), if_neg (by omega), if_pos h] at ho
  simp only [Bool.and_eq_true, decide_eq_true_eq] at ho
  exact ⟨ho.1, ho.2.1, ho.2.2.1⟩
/-- What a crop does. -/
theorem doR_1 (r : Ra) {o : Op} (h : o.k = 1) (ho : opB o = true) {s : Ra} (e : doR r o = some s) : o.a.toNat + o.c.toNat ≤ r.w ∧ o.b.toNat + o.d.toNat ≤ r.h ∧ s = cropR r o.a.toNat o.b.toNat o.c.toNat o.d.toNat := by
  have := opB_1 h ho
  unfold doR at e
  rw [if_pos h] at e
  split at e
  · cases e
  · injection e with e
    exact ⟨by omega, by omega, e.symm⟩
theorem pair_do {r : Ra} (h : r.ok) {a b : Op} (ha : opB a = true) (hb : opB b = true) {s : List Op} (hp : pairR a b = some s) {x : Ra} (hx : opsR r [a, b] = some x) : opsR r s = some x := by
  obtain ⟨u, hu, hx⟩ := Option.bind_eq_some_iff.1 hx
  obtain ⟨v, hv, hx⟩ := Option.bind_eq_some_iff.1 hx
  injection hx with hx
  subst hx
  unfold pairR at hp
  split at hp
  · cases hp
  rename_i hk
  have hk : b.k = a.k := by omega
  split at hp
  · rename_i h23
    injection hp with hp
    subst hp
    rcases h23 with h2 | h3
    · rw [doR_2 r h2] at hu
      injection hu with hu
      subst hu
      rw [doR_2 _ (hk.trans h2), flipX2 h] at hv
      exact hv
    · rw [doR_3 r h3] at hu
      injection hu with hu
      subst hu
      rw [doR_3 _ (hk.trans h3), flipY2 h] at hv
      exact hv
  split at hp
  · rename_i h587
    injection hp with hp
    subst hp
    show (doR r a).bind (fun s => opsR s []) = _
    rw [hu]
    show some u = some v
    rw [← hv]
    rcases h587 with h5 | h8 | ⟨h7, hab⟩
    · rw [doR_5 r h5] at hu
      injection hu with hu
      subst hu
      rw [doR_5 _ (hk.trans h5), each_twice h (fun _ hp => grayP_ok hp) grayP_twice]
    · rw [doR_8 r h8] at hu
      injection hu with hu
      subst hu
      obtain ⟨g1, g2, g3⟩ := opB_8 h8 ha
      obtain ⟨k1, k2, k3⟩ := opB_8 (hk.trans h8) hb
      rw [doR_8 _ (hk.trans h8)]
      congr 1
      have h1 : (eachR (flatP1 a) r).ok := eachR_ok h fun _ hp => flatP1_ok hp g1 g2 g3
      refine ra_ext h1 (eachR_ok h1 fun _ hp => flatP1_ok hp k1 k2 k3) rfl rfl fun x y hx hy => ?_
      rw [eachR_w] at hx
      rw [eachR_h] at hy
      rw [eachR_at (flatP1 b) (eachR (flatP1 a) r) hx hy, eachR_at (flatP1 a) r hx hy]
      exact (flatP1_full b rfl).symm
    · subst hab
      obtain ⟨k1, k2⟩ := opB_7 h7 ha
      rw [doR_7 r h7] at hu
      injection hu with hu
      subst hu
      rw [doR_7 _ h7, size_twice h (by omega) (by omega)]
  split at hp
  · rename_i hc
    injection hp with hp
    subst hp
    obtain ⟨h1, h2, h3, h4, h5⟩ := hc
    have oa := opB_1 h1 ha
    have ob := opB_1 (hk.trans h1) hb
    obtain ⟨e1, e2, rfl⟩ := doR_1 r h1 ha hu
    obtain ⟨f1, f2, rfl⟩ := doR_1 _ (hk.trans h1) hb hv
    rw [cropR_w] at f1
    rw [cropR_h] at f2
    rw [crop_crop h e1 e2 (by omega) (by omega) f1 f2]
    show (doR r ⟨1, a.a + b.a, a.b + b.b, b.c, b.d⟩).bind (fun s => opsR s []) = _
    have hd : doR r ⟨1, a.a + b.a, a.b + b.b, b.c, b.d⟩ = some (cropR r (a.a + b.a).toNat (a.b + b.b).toNat b.c.toNat b.d.toNat) := by
      unfold doR
      simp only [if_true]
      rw [if_neg (by omega)]
    rw [hd, show (a.a + b.a).toNat = a.a.toNat + b.a.toNat from by omega, show (a.b + b.b).toNat = a.b.toNat + b.b.toNat from by omega]
    rfl
  · cases hp
theorem head_do {r : Ra} (h : r.ok) {l s : List Op} (hl : l.all opB = true) (hp : head1 l = some s) {x : Ra} (hx : opsR r l = some x) : opsR r s = some x := by
  unfold head1 at hp
  split at hp
  · rename_i h4
    injection hp with hp
    have hlen := four_len h4
    unfold four at h4
    rw [Bool.and_eq_true] at h4
    match l, hlen, h4.2 with
    | a :: b :: c :: d :: t, _, hk =>
      simp only [List.take_succ_cons, List.take_zero, List.all_cons, List.all_nil, Bool.and_true, Bool.and_eq_true, beq_iff_eq] at hk
      obtain ⟨k1, k2, k3, k4⟩ := hk
      subst hp
      show opsR r t = some x
      have e : opsR r (a :: b :: c :: d :: t) = opsR (turnR (turnR (turnR (turnR r)))) t := by
        show (doR r a).bind _ = _
        rw [doR_4 r k1]
        show (doR (turnR r) b).bind _ = _
        rw [doR_4 _ k2]
        show (doR (turnR (turnR r)) c).bind _ = _
        rw [doR_4 _ k3]
        show (doR (turnR (turnR (turnR r))) d).bind _ = _
        rw [doR_4 _ k4]
        rfl
      rw [e, turn4 h] at hx
      exact hx
  · split at hp
    · rename_i a b t _
      rw [Option.map_eq_some_iff] at hp
      obtain ⟨u, hu, rfl⟩ := hp
      simp only [List.all_cons, Bool.and_eq_true] at hl
      have e : opsR r (a :: b :: t) = (opsR r [a, b]).bind fun s => opsR s t := opsR_append [a, b] t r
      rw [e] at hx
      obtain ⟨y, hy, hx⟩ := Option.bind_eq_some_iff.1 hx
      rw [opsR_append, pair_do h hl.1 hl.2.1 hu hy]
      exact hx
    · cases hp
theorem foldO_do : ∀ {l s : List Op} {r x : Ra}, r.ok → l.all opB = true → foldO l = some s → opsR r l = some x → opsR r s = some x
  | [], _, _, _, _, _, h, _ => by cases h
  | a :: t, s, r, x, h, hl, hf, hx => by
    rw [foldO] at hf
    split at hf
    · rename_i u hu
      injection hf with hf
      subst hf
      exact head_do h hl hu hx
    · rw [Option.map_eq_some_iff] at hf
      obtain ⟨u, hu, rfl⟩ := hf
      rw [List.all_cons, Bool.and_eq_true] at hl
      obtain ⟨y, hy, hx⟩ := Option.bind_eq_some_iff.1 hx
      show (doR r a).bind (fun s => opsR s u) = some x
      rw [hy]
      exact foldO_do (doR_ok h hl.1 hy) hl.2 hu hx
theorem foldN_do : ∀ (n : Nat) {l : List Op} {r x : Ra}, r.ok → l.all opB = true → opsR r l = some x → opsR r (foldN n l) = some x
  | 0, _, _, _, _, _, hx => hx
  | n + 1, l, r, x, h, hl, hx => by
    rw [foldN]
    cases hf : foldO l with
    | none => exact hx
    | some u => exact foldN_do n h (foldO_ok hl hf) (foldO_do h hl hf hx)
theorem foldR_do {l : List Op} {r x : Ra} (h : r.ok) (hl : l.all opB = true) (hx : opsR r l = some x) : opsR r (foldR l) = some x := foldN_do _ h hl hx
end Go.Proofs.YtiemlakjallphabDoor
