/-
  Operations on rasters as plain functions, and what they come to one behind the other. Plain functions alone; no condition.
-/
import Derived.Test.YthdggnfffebnlaaDoorFlip
namespace Go.Proofs.YthdggnfffebnlaaDoor
set_option maxRecDepth 4000

/-- An operation: its kind and four numbers. -/
structure Op where
  k : Int
  a : Int
  b : Int
  c : Int
  d : Int
/-- A raster. -/
structure Ra where
  w : Nat
  h : Nat
  p : List Px
/-- No raster. -/
def ra0 : Ra := ⟨0, 0, []⟩
/-- The first n pixels of a table that is W wide. -/
def tab (W n : Nat) (f : Nat → Nat → Px) : List Px := (List.range n).map fun i => f (i % W) (i / W)
theorem tab_length (W n : Nat) (f : Nat → Nat → Px) : (tab W n f).length = n := by simp [tab]
theorem tab_zero (W : Nat) (f : Nat → Nat → Px) : tab W 0 f = [] := rfl
theorem tab_succ (W n : Nat) (f : Nat → Nat → Px) : tab W (n + 1) f = tab W n f ++ [f (n % W) (n / W)] := by
  unfold tab
  rw [List.range_succ, List.map_append]
  rfl
theorem place_div {W x y : Nat} (hx : x < W) : (y * W + x) % W = x ∧ (y * W + x) / W = y := by
  have hW : 0 < W := by omega
  constructor
  · rw [Nat.add_comm, Nat.add_mul_mod_self_right, Nat.mod_eq_of_lt hx]
  · rw [Nat.add_comm, Nat.add_mul_div_right _ _ hW, Nat.div_eq_of_lt hx, Nat.zero_add]
theorem tab_step {W x y : Nat} (f : Nat → Nat → Px) (hx : x < W) : tab W (y * W + (x + 1)) f = tab W (y * W + x) f ++ [f x y] := by
  rw [← Nat.add_assoc, tab_succ, (place_div hx).1, (place_div hx).2]
theorem tab_at {W n i : Nat} (f : Nat → Nat → Px) (h : i < n) : (tab W n f)[i]? = some (f (i % W) (i / W)) := by
  unfold tab
  rw [List.getElem?_map, List.getElem?_range h]
  rfl
theorem place_in {W H x y : Nat} (hx : x < W) (hy : y < H) : y * W + x < W * H := by
  have h1 : (y + 1) * W ≤ H * W := Nat.mul_le_mul_right _ hy
  rw [Nat.add_mul, Nat.one_mul] at h1
  rw [Nat.mul_comm W H]
  omega
theorem place_back {W H i : Nat} (h : i < W * H) : i % W < W ∧ i / W < H ∧ i / W * W + i % W = i := by
  have hW : 0 < W := Nat.pos_of_ne_zero fun e => by subst e; omega
  exact ⟨Nat.mod_lt _ hW, by rw [Nat.div_lt_iff_lt_mul hW, Nat.mul_comm]; exact h, by rw [Nat.mul_comm]; exact Nat.div_add_mod i W⟩
/-- The raster that a function draws. -/
def mkR (W H : Nat) (f : Nat → Nat → Px) : Ra := ⟨W, H, tab W (W * H) f⟩
/-- The pixel at a column and a row. -/
def Ra.at (r : Ra) (x y : Nat) : Px := (r.p[y * r.w + x]?).getD px0
theorem mk_at {W H x y : Nat} (f : Nat → Nat → Px) (hx : x < W) (hy : y < H) : (mkR W H f).at x y = f x y := by
  show ((tab W (W * H) f)[y * W + x]?).getD px0 = _
  rw [tab_at f (place_in hx hy), (place_div hx).1, (place_div hx).2]
  rfl
theorem tab_congr {W H : Nat} {f g : Nat → Nat → Px} (h : ∀ x y, x < W → y < H → f x y = g x y) : tab W (W * H) f = tab W (W * H) g := by
  unfold tab
  refine List.map_congr_left fun i hi => ?_
  obtain ⟨h1, h2, _⟩ := place_back (List.mem_range.1 hi)
  exact h _ _ h1 h2
theorem mk_congr {W H : Nat} {f g : Nat → Nat → Px} (h : ∀ x y, x < W → y < H → f x y = g x y) : mkR W H f = mkR W H g := by
  unfold mkR
  rw [tab_congr h]
/-- Whether a raster is one. -/
def Ra.ok (r : Ra) : Prop := rasB r.w r.h r.p = true
theorem Ra.ok.parts {r : Ra} (h : r.ok) : (1 ≤ r.w ∧ r.w ≤ 6) ∧ (1 ≤ r.h ∧ r.h ≤ 6) ∧ r.p.length = r.w * r.h ∧ ∀ p ∈ r.p, pixB p = true := by
  obtain ⟨hW, hH, hl, ha⟩ := rasB_parts h
  have : ((r.w * r.h : Nat) : Int) = (r.w : Int) * r.h := Int.natCast_mul _ _
  exact ⟨by omega, by omega, by omega, fun p hp => List.all_eq_true.1 ha p hp⟩
theorem eq_mk {W H : Nat} {l : List Px} (h : l.length = W * H) : (⟨W, H, l⟩ : Ra) = mkR W H (Ra.at ⟨W, H, l⟩) := by
  unfold mkR
  congr 1
  refine List.ext_getElem? fun i => ?_
  by_cases hi : i < W * H
  · rw [tab_at _ hi]
    unfold Ra.at
    simp only
    rw [(place_back hi).2.2, List.getElem?_eq_getElem (by omega)]
    rfl
  · rw [List.getElem?_eq_none (by omega), List.getElem?_eq_none (by rw [tab_length]; omega)]
theorem Ra.ok.eq_mk {r : Ra} (h : r.ok) : r = mkR r.w r.h r.at := Go.Proofs.YthdggnfffebnlaaDoor.eq_mk h.parts.2.2.1
theorem Ra.ok.eq_of {r : Ra} {f : Nat → Nat → Px} (h : r.ok) (hf : ∀ x y, x < r.w → y < r.h → f x y = r.at x y) : mkR r.w r.h f = r := by
  conv => rhs; rw [h.eq_mk]
  exact mk_congr hf
theorem Ra.ok.at {r : Ra} (h : r.ok) {x y : Nat} (hx : x < r.w) (hy : y < r.h) : r.p[y * r.w + x]? = some (r.at x y) ∧ pixB (r.at x y) = true := by
  have hi := place_in hx hy
  rw [← h.parts.2.2.1] at hi
  unfold Ra.at
  rw [List.getElem?_eq_getElem hi]
  exact ⟨rfl, h.parts.2.2.2 _ (List.getElem_mem hi)⟩
theorem mk_ok {W H : Nat} {f : Nat → Nat → Px} (hW : 1 ≤ W ∧ W ≤ 6) (hH : 1 ≤ H ∧ H ≤ 6) (hf : ∀ x y, x < W → y < H → pixB (f x y) = true) : (mkR W H f).ok := by
  have : ((W * H : Nat) : Int) = (W : Int) * H := Int.natCast_mul _ _
  unfold Ra.ok rasB mkR
  simp only
  rw [tab_length, decide_eq_true ⟨by omega, by omega, by omega⟩, Bool.true_and, List.all_eq_true]
  intro p hp
  unfold tab at hp
  obtain ⟨i, hi, rfl⟩ := List.mem_map.1 hp
  obtain ⟨h1, h2, _⟩ := place_back (List.mem_range.1 hi)
  exact hf _ _ h1 h2

/-- A number in a range. -/
def inR (n lo hi : Int) : Bool := decide (lo ≤ n ∧ n ≤ hi)
/-- Whether an operation is one. -/
def opB (o : Op) : Bool :=
  if o.k = 1 then inR o.a 0 5 && (inR o.b 0 5 && (inR o.c 1 6 && inR o.d 1 6))
  else if o.k = 7 then inR o.a 1 6 && (inR o.b 1 6 && (inR o.c 0 0 && inR o.d 0 0))
  else if o.k = 8 then inR o.a 0 255 && (inR o.b 0 255 && (inR o.c 0 255 && inR o.d 0 0))
  else inR o.k 2 6 && (inR o.a 0 0 && (inR o.b 0 0 && (inR o.c 0 0 && inR o.d 0 0)))
/-- A pixel without colour. -/
def grayP (p : Px) : Px := ⟨(77 * p.r + 150 * p.g + 29 * p.b) / 256, (77 * p.r + 150 * p.g + 29 * p.b) / 256, (77 * p.r + 150 * p.g + 29 * p.b) / 256, p.a⟩
/-- A pixel in front of another one. -/
def flatP1 (o : Op) (p : Px) : Px := ⟨(p.r * p.a + o.a * (255 - p.a)) / 255, (p.g * p.a + o.b * (255 - p.a)) / 255, (p.b * p.a + o.c * (255 - p.a)) / 255, 255⟩
/-- Two pixels' sums. -/
def addP (p q : Px) : Px := ⟨p.r + q.r, p.g + q.g, p.b + q.b, p.a + q.a⟩
/-- The pixels of a row from j on, n of them, summed onto s. -/
def sumRow (f : Nat → Px) (s : Px) (j : Nat) : Nat → Px
  | 0 => s
  | n + 1 => addP (sumRow f s j n) (f (j + n))
/-- The pixels of m rows from k on. -/
def sumBox (f : Nat → Nat → Px) (j n k : Nat) : Nat → Px
  | 0 => px0
  | m + 1 => sumRow (fun x => f x (k + m)) (sumBox f j n k m) j n
/-- Where the pixels about a place begin, and how many there are. -/
def lo1 (x : Nat) : Nat := x - 1
def cnt1 (W x : Nat) : Nat := min (x + 1) (W - 1) + 1 - lo1 x
/-- The mean of the pixels about a place. -/
def meanP (r : Ra) (x y : Nat) : Px :=
  let s := sumBox r.at (lo1 x) (cnt1 r.w x) (lo1 y) (cnt1 r.h y)
  let n : Int := (cnt1 r.h y * cnt1 r.w x : Nat)
  ⟨s.r / n, s.g / n, s.b / n, s.a / n⟩
def turnR (r : Ra) : Ra := mkR r.h r.w fun x y => r.at y (r.h - 1 - x)
def flipXR (r : Ra) : Ra := mkR r.w r.h fun x y => r.at (r.w - 1 - x) y
def flipYR (r : Ra) : Ra := mkR r.w r.h fun x y => r.at x (r.h - 1 - y)
def cropR (r : Ra) (a b c d : Nat) : Ra := mkR c d fun x y => r.at (a + x) (b + y)
def eachR (g : Px → Px) (r : Ra) : Ra := mkR r.w r.h fun x y => g (r.at x y)
def blurR (r : Ra) : Ra := mkR r.w r.h fun x y => meanP r x y
def sizeR (r : Ra) (a b : Nat) : Ra := mkR a b fun x y => r.at ((2 * x + 1) * r.w / (2 * a)) ((2 * y + 1) * r.h / (2 * b))
/-- An operation on a raster, both being ones; nothing if that has not the part. -/
def doR (r : Ra) (o : Op) : Option Ra :=
  if o.k = 1 then if o.a + o.c > r.w ∨ o.b + o.d > r.h then none else some (cropR r o.a.toNat o.b.toNat o.c.toNat o.d.toNat)
  else if o.k = 2 then some (flipXR r)
  else if o.k = 3 then some (flipYR r)
  else if o.k = 4 then some (turnR r)
  else if o.k = 5 then some (eachR grayP r)
  else if o.k = 6 then some (blurR r)
  else if o.k = 7 then some (sizeR r o.a.toNat o.b.toNat)
  else some (eachR (flatP1 o) r)
/-- What OpDo answers. -/
def opDo (W H : Int) (l : List Px) (o : Op) : Option Ra := if rasB W H l && opB o then doR ⟨W.toNat, H.toNat, l⟩ o else none
theorem opDo_ok {r : Ra} (h : r.ok) {o : Op} (ho : opB o = true) : opDo r.w r.h r.p o = doR r o := by
  unfold opDo
  rw [show rasB r.w r.h r.p = true from h, ho]
  rfl
end Go.Proofs.YthdggnfffebnlaaDoor
