/-
  The law FnSumOf returns true for every list of bytes. No condition.
-/
import Derived.Test.YtfdbonlagfmegaaDrawSum
import Derived.Test.YtfdbonlagfmegaaPushAll
import Derived.Test.YtfdbonlagfmegaaOwnSet
import Derived.Test.YtfdbonlagfmegaaSum
import Derived.StillTailTactics
namespace Go.Proofs.Ytfdbonlagfmegaa
open Go.RowKit

theorem adler_fst (l : List UInt8) : (adler l).1 = (1 + (l.map UInt8.toNat).sum) % 65521 := by
  suffices h : ∀ (l : List UInt8) (s : Nat × Nat), s.1 < 65521 → (l.foldl adl s).1 = (s.1 + (l.map UInt8.toNat).sum) % 65521 from h l (1, 0) (by decide)
  intro l
  induction l with
  | nil => intro s hs; simp [Nat.mod_eq_of_lt hs]
  | cons b t ih =>
    intro s _
    rw [List.foldl_cons, ih _ (Nat.mod_lt _ (by omega))]
    simp only [adl, List.map_cons, List.sum_cons]
    omega
theorem sum_set (l : List UInt8) (i : Nat) (x y : UInt8) (h : l[i]? = some x) : ((l.set i y).map UInt8.toNat).sum + x.toNat = (l.map UInt8.toNat).sum + y.toNat := by
  induction l generalizing i with
  | nil => simp at h
  | cons b t ih =>
    cases i with
    | zero => simp at h; subst h; simp; omega
    | succ i => have := ih i (by simpa using h); simp only [List.set_cons_succ, List.map_cons, List.sum_cons]; omega
/-- Bytes of which one is turned have another sum. -/
theorem sumN_set (l : List UInt8) (i : Nat) (x y : UInt8) (h : l[i]? = some x) (hne : y ≠ x) : sumN (l.set i y) ≠ sumN l := by
  intro e
  have h1 := adler_lt l
  have h2 := adler_lt (l.set i y)
  unfold sumN at e
  have e1 : (adler (l.set i y)).1 = (adler l).1 := by omega
  rw [adler_fst, adler_fst] at e1
  have hs := sum_set l i x y h
  have hx := x.toNat_lt
  have hy := y.toNat_lt
  have : y.toNat ≠ x.toNat := fun e => hne (UInt8.toNat_inj.1 e)
  omega
theorem sumN_snoc (l : List UInt8) (x : UInt8) : sumN (l ++ [x]) = ((adler l).2 + ((adler l).1 + x.toNat) % 65521) % 65521 * 65536 + ((adler l).1 + x.toNat) % 65521 := by
  unfold sumN
  rw [adler_snoc]
  rfl
theorem xor8 (a b : UInt8) : bits .xor .u8 (a.toNat : Int) (b.toNat : Int) = ((a ^^^ b).toNat : Int) := by
  have ha := a.toNat_lt
  have hb := b.toNat_lt
  show IntKind.u8.wrap ((BitVec.ofInt 8 (a.toNat : Int) ^^^ BitVec.ofInt 8 (b.toNat : Int)).toNat : Int) = _
  rw [BitVec.toNat_xor, BitVec.ofInt_natCast, BitVec.ofInt_natCast, BitVec.toNat_ofNat, BitVec.toNat_ofNat, Nat.mod_eq_of_lt (by omega), Nat.mod_eq_of_lt (by omega), IntKind.wrap_u8, UInt8.toNat_xor]
  have : a.toNat ^^^ b.toNat < 2 ^ 8 := Nat.xor_lt_two_pow ha hb
  omega
theorem xor_ne (a b : UInt8) (h : b ≠ 0) : a ^^^ b ≠ a := by
  intro e
  apply h
  have : a ^^^ (a ^^^ b) = a ^^^ a := by rw [e]
  rw [← UInt8.xor_assoc, UInt8.xor_self, UInt8.zero_xor] at this
  exact this

set_option maxHeartbeats 2000000 in
theorem fnSumOf_small (A : Option Addr) (c : Nat) (l : List UInt8) (w : World) (h : Has w w.heap.size A l) (hc : l.length ≤ c) (hs : l.length ≤ 1048576) :
    Calls Try.prog 3 #[.slice A l.length c] w fun e w' => e = .returned (.bool true) ∧ Below w.heap.size w w' := by
  have hb : (l.length : Int) ≤ 1048576 := by omega
  go_enter Try.func3, Try.ntmps3
  go_wp2_with fail
  refine (drawSumOf_any A c l _ (by omega) hc h).mono ?_
  rintro e w1 ⟨A1, c1, b, rfl, h1, hbl, B1⟩
  have z1 := B1.size
  clear h hc
  have hbl2 : (b.length : Int) ≤ 700 := by omega
  have HBL := Lib.hid hbl
  clear hbl
  go_wp2_with fail
  refine (implSumOf_any A1 c1 b _ w1 (by omega) h1).mono ?_
  rintro e w' ⟨rfl, rfl⟩
  go_wp2_with fail
  refine (specSumOf_any A1 c1 b _ w1 (by omega) h1).mono ?_
  rintro e w' ⟨rfl, rfl⟩
  go_wp2_with fail
  have C0 := implSumOf_any (some ⟨w1.heap.size, 0, none⟩) 0 [] 0 (w1.alloc (.cells #[] 5)) (by simp) (.inl rfl)
  refine C0.mono ?_
  rintro e w' ⟨rfl, rfl⟩
  clear C0
  rw [show ((sumN [] : Nat) : Int) = 1 from rfl]
  have B2 : Below w.heap.size w (w1.alloc (.cells #[] 5)) := B1.alloc z1 _
  have h2 : Has (w1.alloc (.cells #[] 5)) w1.heap.size A1 b := h1.kept fun p hp => World.cell?_of_block (Below.heap_alloc w1 _ p.block hp)
  have h3 := h2.wider (B' := (w1.alloc (.cells #[] 5)).heap.size) (by simp)
  clear h1 B1 z1 h2
  generalize w1.alloc (.cells #[] 5) = w2 at *
  have z2 := B2.size
  obtain ⟨n, hn⟩ : ∃ n, sumN b = n := ⟨_, rfl⟩
  obtain ⟨p, hp⟩ : ∃ p, (adler b).1 = p := ⟨_, rfl⟩
  obtain ⟨q, hq⟩ : ∃ q, (adler b).2 = q := ⟨_, rfl⟩
  obtain ⟨x, hx⟩ := byte_of (l.length : Int)
  have hpq := adler_lt b
  rw [hp, hq] at hpq
  have hnpq : n = q * 65536 + p := by rw [← hn, ← hp, ← hq]; rfl
  have hx8 := x.toNat_lt
  obtain ⟨p', hp'⟩ : ∃ p', (p + x.toNat) % 65521 = p' := ⟨_, rfl⟩
  obtain ⟨q', hq'⟩ : ∃ q', (q + p') % 65521 = q' := ⟨_, rfl⟩
  have HSN : Hid (((sumN (b ++ [x]) : Nat) : Int) = (q' : Int) * 65536 + (p' : Int)) := Lib.hid (by rw [sumN_snoc, hp, hq, hp', hq']; omega)
  have HNE : Hid (∀ i u y, b[i]? = some u → y ≠ u → sumN (b.set i y) ≠ n) := Lib.hid fun i u y h1 h2 => by rw [← hn]; exact sumN_set b i u y h1 h2
  have t1 : (n : Int) % 65536 = (p : Int) := by omega
  have t2 : (n : Int) / 65536 = (q : Int) := by omega
  have t3 : ((p : Int) + (x.toNat : Int)) % 65521 = (p' : Int) := by omega
  have t4 : ((q : Int) + (p' : Int)) % 65521 = (q' : Int) := by omega
  have lp : (p : Int) < 65521 := by omega
  have lq : (q : Int) < 65521 := by omega
  have lp' : (p' : Int) < 65521 := by omega
  have lq' : (q' : Int) < 65521 := by omega
  have ln : (n : Int) < 4294967296 := by omega
  have hx8' : (x.toNat : Int) < 256 := by omega
  rw [hn]
  clear hp hq hpq hp' hq' hn hnpq hx8
  have hk0 : (b ++ [x]).length = b.length + 1 := by simp
  have HK1 := Lib.hid (h3.kept (w' := w2.alloc (.cells #[] 5)) fun p hp => World.cell?_of_block (Below.heap_alloc w2 _ p.block hp))
  have CI := Lib.hid fun A c B W (hh : Has W B A (b ++ [x])) => implSumOf_any A c (b ++ [x]) B W (by rw [hk0]; omega) hh
  rw [hk0, HSN.out] at CI
  have HL1 : Hid (∀ q, (Value.slice (some ⟨w2.heap.size, 0, none⟩) 0 0).ownBlock = some q → w2.heap.size ≤ q) := Lib.hid fun q hq => by simp [Value.ownBlock] at hq; omega
  clear hk0
  go_wp2_with (first
      | (at_builtin; refine wpList_pushAll rfl (.tmp 39) (.tmp 40) rfl w2.heap.size _ [] rfl (own_empty (Nat.le_refl _)) _ A1 c1 b rfl HK1.out (by simp; omega) (by simp) ?_; intro v5 w5 ho5 hg5; rw [List.nil_append] at ho5)
      | (at_builtin; refine wpList_push1 rfl (.tmp 41) (.tmp 43) rfl w2.heap.size v5 b rfl ho5 x w5.heap.size rfl rfl (by omega) (by have := hg5.size; simp at this; omega) ?_; intro g6 c6 w6 ho6 hg6))
  have hb5 : Below w2.heap.size w2 w5 := ((Below.refl _ w2).alloc (Nat.le_refl _) _).grown hg5 (by simp) HL1.out
  have hb6 : Below w2.heap.size w2 w6 := (hb5.alloc hb5.size _).grown hg6 (by have := hb5.size; simp; omega) (fun q hq => (World.ownsRow.lt ho5 q hq).1)
  have h6 := h3.carry hb6 (Nat.le_refl _) hb6.size
  have B6 : Below w.heap.size w w6 := B2.trans (hb6.mono z2)
  have hr6 := ho6.reads
  clear hb5 hb6 ho5 ho6 hg5 hg6 B2 HK1 HL1 h3
  refine (CI.out _ _ _ _ hr6).mono ?_
  rintro e w' ⟨rfl, rfl⟩
  clear hr6 hbl2 t1 t2 t3 t4 CI hx hx8'
  have hnn : ¬ ((q' : Int) * 65536 + (p' : Int) < 0) := by omega
  by_cases hb0 : b.length = 0
  · have hb0' : ((b.length : Int) == 0) = true := beq_iff_eq.2 (by omega)
    go_wp2_with fail
    go_ret
    exact ⟨rfl, B6⟩
  · have hb0' : ((b.length : Int) == 0) = false := beq_eq_false_iff_ne.2 (by omega)
    have z6 := B6.size
    have HK6 := Lib.hid (h6.kept (w' := w6.alloc (.cells #[] 5)) fun p hp => World.cell?_of_block (Below.heap_alloc w6 _ p.block hp))
    have HL6 : Hid (∀ q, (Value.slice (some ⟨w6.heap.size, 0, none⟩) 0 0).ownBlock = some q → w6.heap.size ≤ q) := Lib.hid fun q hq => by simp [Value.ownBlock] at hq; omega
    clear h6
    go_wp2_with (at_builtin; refine wpList_pushAll rfl (.tmp 54) (.tmp 55) rfl w6.heap.size _ [] rfl (own_empty (Nat.le_refl _)) _ A1 c1 b rfl HK6.out (by simp; have := HBL.out; omega) (by simp) ?_; intro v7 w7 ho7 hg7; rw [List.nil_append] at ho7; obtain ⟨A7, c7, hv7, -, -⟩ := ho7.has; subst hv7)
    have B7 : Below w.heap.size w w7 := (B6.alloc z6 _).grown hg7 (by simp; omega) (fun q hq => by have := HL6.out q hq; omega)
    obtain ⟨g, rfl, hg1, -⟩ := ho7.nonnil (by omega)
    obtain ⟨i, hi⟩ : ∃ i, l.length % b.length = i := ⟨_, rfl⟩
    have hil : i < b.length := by rw [← hi]; exact Nat.mod_lt _ (by omega)
    have ti : (l.length : Int).tmod (b.length : Int) = (i : Int) := by rw [tmod_cast, hi]
    obtain ⟨u, hu⟩ : ∃ u, b[i]? = some u := ⟨_, List.getElem?_eq_getElem hil⟩
    have cg : w7.drew.cell? ⟨g, i, none⟩ = some (.int .u8 (u.toNat : Int)) := by
      have := World.ownsRow.cellAt ho7 i (by omega)
      show w7.cell? _ = _
      rw [this]
      simp [hu, bv]
    have fg : w7.drew.frozen? ⟨g, i, none⟩ = false := World.ownsRow.frozenAt ho7 i
    obtain ⟨y, hy⟩ : ∃ y : UInt8, UInt8.ofNat (1 + l.length % 255) = y := ⟨_, rfl⟩
    have hyn : y.toNat = 1 + l.length % 255 := by rw [← hy]; simp; omega
    have hy0 : y ≠ 0 := fun e => by rw [e] at hyn; simp at hyn; omega
    have ty2 : bits .xor .u8 (u.toNat : Int) (1 + (l.length : Int) % 255) = ((u ^^^ y).toNat : Int) := by rw [show 1 + (l.length : Int) % 255 = (y.toNat : Int) from by rw [hyn]; omega]; exact xor8 u y
    have ho8 : Own w7.drew w6.heap.size (.slice (some ⟨g, 0, none⟩) b.length c7) b := ho7
    have HST := Lib.hid (ho8.set i (u ^^^ y))
    have HB8 : Hid (Below w.heap.size w (w7.drew.setCell ⟨g, i, none⟩ (.int .u8 ((u ^^^ y).toNat : Int)))) := Lib.hid ((show Below w.heap.size w w7.drew from ⟨B7.os, B7.tape, B7.output, B7.size, B7.block⟩).setCell (by simp; omega) _)
    clear ho8
    have HN := Lib.hid (HNE.out i u (u ^^^ y) hu (xor_ne u y hy0))
    have pi : 0 ≤ (i : Int) ∧ (i : Int) < (b.length : Int) := by omega
    have hbz : ¬ ((b.length : Int) = 0) := by omega
    generalize u ^^^ y = z at *
    clear hi hu hy hyn hy0 ho7 hg7 B7 B6 HNE HK6 HL6 hg1 hnn HSN lp lq lp' lq'
    refine wp_region_still_tail 20 (by kernel_rfl) (by kernel_rfl) ?_
    simp only [List.take_succ_cons, List.take_zero, List.drop_succ_cons, List.drop_zero]
    change wpStill _ _ w7.drew _ _ _
    repeat still_step
    refine wpStill_nil ?_
    change wpList _ _ _ _ _ w7.drew
    generalize w7.drew = w8 at *
    have hsl : (b.set i z).length = b.length := List.length_set
    have CX := Lib.hid fun A c B W (hh : Has W B A (b.set i z)) => implSumOf_any A c (b.set i z) B W (by rw [hsl]; have := HBL.out; omega) hh
    rw [hsl] at CX
    clear hsl
    go_wp2_with fail
    refine (CX.out _ _ _ _ HST.out.1.reads).mono ?_
    rintro e w' ⟨rfl, rfl⟩
    obtain ⟨m, hm⟩ : ∃ m, sumN (b.set i z) = m := ⟨_, rfl⟩
    rw [hm] at HN ⊢
    have hne : ((m : Int) != (n : Int)) = true := bne_iff_ne.2 (fun e => HN.out (by omega))
    clear hm cg fg ti ty2
    go_wp2_with fail
    go_ret
    exact ⟨rfl, HB8.out⟩

theorem fnSumOf_walk (A : Option Addr) (c : Nat) (l : List UInt8) (w : World) (h : Has w w.heap.size A l) (hc : l.length ≤ c) :
    Calls Try.prog 3 #[.slice A l.length c] w fun e w' => e = .returned (.bool true) ∧ Below w.heap.size w w' := by
  by_cases hbig : 1048576 < l.length
  · have hb : (1048576 : Int) < (l.length : Int) := by omega
    go_enter Try.func3, Try.ntmps3
    go_wp2
    go_ret
    exact ⟨rfl, Below.refl _ _⟩
  · exact fnSumOf_small A c l w h hc (by omega)
end Go.Proofs.Ytfdbonlagfmegaa
