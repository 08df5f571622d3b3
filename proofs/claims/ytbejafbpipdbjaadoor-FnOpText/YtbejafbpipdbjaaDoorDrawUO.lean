/-
  DrawOpText draws some operation, DrawOpRead some text of at most 26 bytes. Condition: at most 2^30 bytes to draw from.
-/
import Derived.Test.YtbejafbpipdbjaaDoorDrawOpA
import Derived.Test.YtbejafbpipdbjaaDoorDrawS
import Derived.Test.YtbejafbpipdbjaaDoorUrlV
namespace Go.Proofs.YtbejafbpipdbjaaDoor
set_option maxRecDepth 4000
open Go.RowKit

/-- Some operation. -/
def DrewV (w : World) (e : Ending) (w' : World) : Prop := ∃ o : Op, e = .returned o.v ∧ Below w.heap.size w w'
set_option maxHeartbeats 1000000 in
theorem drawOpText_any (A : Option Addr) (c : Nat) (l : List UInt8) (w : World) (hs : l.length ≤ 1073741824) (hc : l.length ≤ c) (h : Has w w.heap.size A l) :
    Calls Tryd.prog 32 #[.slice A l.length c] w (DrewV w) := by
  have hb0 : Below w.heap.size w (w.alloc (.cells #[.int .i64 0, .int .i64 0, .int .i64 0, .int .i64 0, .int .i64 0] 25)) := (Below.refl _ w).alloc (Nat.le_refl _) _
  have hx0 : Box (w.alloc (.cells #[.int .i64 0, .int .i64 0, .int .i64 0, .int .i64 0, .int .i64 0] 25)) w.heap.size #[.int .i64 0, .int .i64 0, .int .i64 0, .int .i64 0, .int .i64 0] 25 := Box.new w _ _
  have h0 : Has (w.alloc (.cells #[.int .i64 0, .int .i64 0, .int .i64 0, .int .i64 0, .int .i64 0] 25)) (w.alloc (.cells #[.int .i64 0, .int .i64 0, .int .i64 0, .int .i64 0, .int .i64 0] 25)).heap.size A l := (h.below hb0).wider (by simp)
  go_enter Tryd.func32, Tryd.ntmps32
  go_wp2_with fail
  generalize w.alloc (.cells #[.int .i64 0, .int .i64 0, .int .i64 0, .int .i64 0, .int .i64 0] 25) = w0 at *
  have hlt := hx0.lt
  refine (l20Open_any A c l _ hs hc h0).mono ?_
  rintro e w1 ⟨rfl, hr, b1⟩
  have hx1 := hx0.below b1 hlt
  have B1 : Below w.heap.size w w1 := hb0.trans (b1.mono (by omega))
  have hz1 := hr.lt
  clear hb0 b1 hx0 h0 h hs hc
  go_wp2_with fail
  refine (l20Op_any _ 0 4 _ hr (by omega) (by omega) (by omega)).mono ?_
  rintro e w2 ⟨o, rfl, -, hg2⟩
  have HX2 := Lib.hid (hx1.grown hg2 (by simp; omega))
  have HB2 := Lib.hid (below_of_grown B1 hg2 (by omega) B1.size)
  have r0 := Box.cell HX2.out (i := 0) rfl
  have r1 := Box.cell HX2.out (i := 1) rfl
  have r2 := Box.cell HX2.out (i := 2) rfl
  have r3 := Box.cell HX2.out (i := 3) rfl
  have r4 := Box.cell HX2.out (i := 4) rfl
  have f0 := HX2.out.free 0
  have f1 := HX2.out.free 1
  have f2 := HX2.out.free 2
  have f3 := HX2.out.free 3
  have f4 := HX2.out.free 4
  clear hx1 B1 hg2 hr
  unfold Op.v
  go_wp2_with fail
  (try simp only [Exit.inBlock, Exit.then])
  refine bodyPost_ret (results_cell_row rfl _ _ w.heap.size 25 #[.int .i64 o.k, .int .i64 o.a, .int .i64 o.b, .int .i64 o.c, .int .i64 o.d] (0, 0) _ rfl (fin_op HX2.out _ _ _ _ _) Tryd.underlying25 rfl (by kernel_rfl)) rfl ?_
  exact ⟨o, rfl, ((((HB2.out.setCell (Nat.le_refl _) _).setCell (Nat.le_refl _) _).setCell (Nat.le_refl _) _).setCell (Nat.le_refl _) _).setCell (Nat.le_refl _) _⟩
theorem words_at (k : Nat) (hk : k < 10) : ∃ t : List UInt8, (#[.string ⟨#[]⟩, .string ⟨#[99, 114, 111, 112]⟩, .string ⟨#[99, 114, 111, 112, 46, 48, 46, 48, 46, 49]⟩, .string ⟨#[99, 114, 111, 112, 46, 48, 46, 48, 46, 49, 46, 49, 46, 49]⟩, .string ⟨#[99, 114, 111, 112, 46, 48, 46, 48, 46, 48, 46, 49]⟩, .string ⟨#[116, 117, 114, 110, 46, 48]⟩, .string ⟨#[115, 105, 122, 101, 46, 55, 46, 49]⟩, .string ⟨#[115, 105, 122, 101, 46, 48, 49, 46, 49]⟩, .string ⟨#[102, 108, 97, 116, 46, 49, 46, 50, 46, 50, 53, 54]⟩, .string ⟨#[103, 114, 97, 121, 46]⟩] : Array Value)[k]? = some (.string (bs t)) ∧ t.length ≤ 26 := by
  match k, hk with
  | 0, _ => exact ⟨[], rfl, by decide⟩
  | 1, _ => exact ⟨[99, 114, 111, 112], rfl, by decide⟩
  | 2, _ => exact ⟨[99, 114, 111, 112, 46, 48, 46, 48, 46, 49], rfl, by decide⟩
  | 3, _ => exact ⟨[99, 114, 111, 112, 46, 48, 46, 48, 46, 49, 46, 49, 46, 49], rfl, by decide⟩
  | 4, _ => exact ⟨[99, 114, 111, 112, 46, 48, 46, 48, 46, 48, 46, 49], rfl, by decide⟩
  | 5, _ => exact ⟨[116, 117, 114, 110, 46, 48], rfl, by decide⟩
  | 6, _ => exact ⟨[115, 105, 122, 101, 46, 55, 46, 49], rfl, by decide⟩
  | 7, _ => exact ⟨[115, 105, 122, 101, 46, 48, 49, 46, 49], rfl, by decide⟩
  | 8, _ => exact ⟨[102, 108, 97, 116, 46, 49, 46, 50, 46, 50, 53, 54], rfl, by decide⟩
  | 9, _ => exact ⟨[103, 114, 97, 121, 46], rfl, by decide⟩
/-- Some text, no longer than n. -/
def SomeB (w : World) (n : Nat) (e : Ending) (w' : World) : Prop := ∃ l : List UInt8, e = .returned (.string (bs l)) ∧ l.length ≤ n ∧ Below w.heap.size w w'
theorem opTx_len (o : Op) : (opTx o).length ≤ 25 := by
  unfold opTx
  split
  · exact opT_len (by assumption)
  · exact Nat.zero_le _
set_option maxHeartbeats 1000000 in
theorem drawOpRead_any (A : Option Addr) (c : Nat) (l : List UInt8) (w : World) (hs : l.length ≤ 1073741824) (hc : l.length ≤ c) (h : Has w w.heap.size A l) :
    Calls Tryd.prog 33 #[.slice A l.length c] w (SomeB w 26) := by
  go_enter Tryd.func33, Tryd.ntmps33
  go_wp2_with fail
  refine (l20Open_any A c l _ hs hc h).mono ?_
  rintro e w1 ⟨rfl, hr, hb⟩
  have hz := hr.lt
  clear h hs hc
  go_wp2_with fail
  refine (l20Op_any _ 0 0 _ hr (by omega) (by omega) (by omega)).mono ?_
  rintro e w2 ⟨o, rfl, ⟨p', hp, hr2⟩, hg⟩
  have hb2 := below_of_grown hb hg (Nat.le_refl _) (by omega)
  clear hg hr hb
  have HR2 := Lib.hid hr2
  have HB2 := Lib.hid hb2
  have hz2 := hr2.lt
  clear hr2 hb2
  have CT := Lib.hid (specOpText_any o w2)
  unfold Op.v at CT ⊢
  go_wp2_with fail
  refine CT.out.mono ?_
  rintro e w3 ⟨rfl, b3⟩
  have HR3 := Lib.hid (HR2.out.below b3 hz2)
  have HB3 := Lib.hid (HB2.out.trans (b3.mono HB2.out.size))
  have hz3 := HR3.out.lt
  have HL := Lib.hid (opTx_len o)
  clear b3 HR2 HB2 CT hz2
  generalize opTx o = s at *
  go_wp2_with fail
  refine (pick_any _ p' 4 _ HR3.out (by omega) (by omega) (by omega)).mono ?_
  rintro e w4 ⟨k, rfl, hk4, -, hr4, hg4, -⟩
  have HB4 := Lib.hid (below_of_grown HB3.out hg4 (Nat.le_refl _) (by omega))
  have HR4 := Lib.hid hr4
  have hz4 := hr4.lt
  clear hg4 hr4 HR3 HB3 hk4
  have hsz : (bs s).size ≤ 25 := by rw [bs_size]; exact HL.out
  by_cases hk : (k : Int) = 0
  · go_wp2_with fail
    refine (l20Bent_any _ (p' + 1) (bs s) _ HR4.out (by omega) (by omega)).mono ?_
    rintro e w5 ⟨t0, p5, rfl, ht, -, -, hg5⟩
    obtain ⟨t, rfl⟩ : ∃ t, t0 = bs t := ⟨_, (bs_self t0).symm⟩
    rw [bs_size] at ht
    have hb5 := below_of_grown HB4.out hg5 (Nat.le_refl _) (by omega)
    clear hg5 HR4 HB4
    go_wp2_with fail
    go_ret
    exact ⟨t, rfl, by omega, hb5⟩
  · have hk0 : ((k : Int) == 0) = false := beq_eq_false_iff_ne.2 hk
    clear hk
    by_cases hk1 : (k : Int) = 1
    · go_wp2_with fail
      have HBX : Hid (Box (w4.alloc (.cells #[.string ⟨#[]⟩, .string ⟨#[99, 114, 111, 112]⟩, .string ⟨#[99, 114, 111, 112, 46, 48, 46, 48, 46, 49]⟩, .string ⟨#[99, 114, 111, 112, 46, 48, 46, 48, 46, 49, 46, 49, 46, 49]⟩, .string ⟨#[99, 114, 111, 112, 46, 48, 46, 48, 46, 48, 46, 49]⟩, .string ⟨#[116, 117, 114, 110, 46, 48]⟩, .string ⟨#[115, 105, 122, 101, 46, 55, 46, 49]⟩, .string ⟨#[115, 105, 122, 101, 46, 48, 49, 46, 49]⟩, .string ⟨#[102, 108, 97, 116, 46, 49, 46, 50, 46, 50, 53, 54]⟩, .string ⟨#[103, 114, 97, 121, 46]⟩] 9)) w4.heap.size #[.string ⟨#[]⟩, .string ⟨#[99, 114, 111, 112]⟩, .string ⟨#[99, 114, 111, 112, 46, 48, 46, 48, 46, 49]⟩, .string ⟨#[99, 114, 111, 112, 46, 48, 46, 48, 46, 49, 46, 49, 46, 49]⟩, .string ⟨#[99, 114, 111, 112, 46, 48, 46, 48, 46, 48, 46, 49]⟩, .string ⟨#[116, 117, 114, 110, 46, 48]⟩, .string ⟨#[115, 105, 122, 101, 46, 55, 46, 49]⟩, .string ⟨#[115, 105, 122, 101, 46, 48, 49, 46, 49]⟩, .string ⟨#[102, 108, 97, 116, 46, 49, 46, 50, 46, 50, 53, 54]⟩, .string ⟨#[103, 114, 97, 121, 46]⟩] 9) := Lib.hid (Box.new w4 _ _)
      have HR5 := Lib.hid (HR4.out.alloc (.cells #[.string ⟨#[]⟩, .string ⟨#[99, 114, 111, 112]⟩, .string ⟨#[99, 114, 111, 112, 46, 48, 46, 48, 46, 49]⟩, .string ⟨#[99, 114, 111, 112, 46, 48, 46, 48, 46, 49, 46, 49, 46, 49]⟩, .string ⟨#[99, 114, 111, 112, 46, 48, 46, 48, 46, 48, 46, 49]⟩, .string ⟨#[116, 117, 114, 110, 46, 48]⟩, .string ⟨#[115, 105, 122, 101, 46, 55, 46, 49]⟩, .string ⟨#[115, 105, 122, 101, 46, 48, 49, 46, 49]⟩, .string ⟨#[102, 108, 97, 116, 46, 49, 46, 50, 46, 50, 53, 54]⟩, .string ⟨#[103, 114, 97, 121, 46]⟩] 9))
      have HB5 := Lib.hid (HB4.out.alloc HB4.out.size (.cells #[.string ⟨#[]⟩, .string ⟨#[99, 114, 111, 112]⟩, .string ⟨#[99, 114, 111, 112, 46, 48, 46, 48, 46, 49]⟩, .string ⟨#[99, 114, 111, 112, 46, 48, 46, 48, 46, 49, 46, 49, 46, 49]⟩, .string ⟨#[99, 114, 111, 112, 46, 48, 46, 48, 46, 48, 46, 49]⟩, .string ⟨#[116, 117, 114, 110, 46, 48]⟩, .string ⟨#[115, 105, 122, 101, 46, 55, 46, 49]⟩, .string ⟨#[115, 105, 122, 101, 46, 48, 49, 46, 49]⟩, .string ⟨#[102, 108, 97, 116, 46, 49, 46, 50, 46, 50, 53, 54]⟩, .string ⟨#[103, 114, 97, 121, 46]⟩] 9))
      clear HR4 HB4 hsz hk1
      refine (pick_any _ (p' + 1) 10 _ HR5.out (by omega) (by omega) (by omega)).mono ?_
      rintro e w6 ⟨j, rfl, hj, -, -, hg6, -⟩
      have hj10 : (j : Int) < 10 := hj (by decide)
      obtain ⟨t, ht, htl⟩ := words_at j (by omega)
      have HX6 := Lib.hid (HBX.out.grown hg6 (by simp; omega))
      have c0 := HX6.out.cell ht
      have HB6 := Lib.hid (below_of_grown HB5.out hg6 (Nat.le_refl _) HB5.out.size)
      clear HBX HR5 HB5 hg6 ht
      go_wp2_with fail
      go_ret
      exact ⟨t, rfl, htl, HB6.out⟩
    · have hk2 : ((k : Int) == 1) = false := beq_eq_false_iff_ne.2 hk1
      clear hk1
      go_wp2_with fail
      go_ret
      exact ⟨s, rfl, by have := HL.out; omega, HB4.out⟩
end Go.Proofs.YtbejafbpipdbjaaDoor
