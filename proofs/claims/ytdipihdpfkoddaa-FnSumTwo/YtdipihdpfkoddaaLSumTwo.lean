/-
  The law FnSumTwo returns true for every two lists of bytes. No condition.
-/
import Derived.Test.YtdipihdpfkoddaaDrawSum
import Derived.Test.YtdipihdpfkoddaaPushAll
import Derived.Test.YtdipihdpfkoddaaSum
import Derived.Test.YtdipihdpfkoddaaEaOk
namespace Go.Proofs.Ytdipihdpfkoddaa
open Go.RowKit

/-- Each byte as often as there are bytes from it on. -/
def weigh : List UInt8 → Nat
  | [] => 0
  | b :: t => (t.length + 1) * b.toNat + weigh t
theorem fold_fst (l : List UInt8) : ∀ s : Nat × Nat, s.1 < 65521 → (l.foldl adl s).1 = (s.1 + (l.map UInt8.toNat).sum) % 65521 := by
  induction l with
  | nil => intro s hs; simp [Nat.mod_eq_of_lt hs]
  | cons b t ih =>
    intro s _
    rw [List.foldl_cons, ih _ (Nat.mod_lt _ (by omega))]
    simp only [adl, List.map_cons, List.sum_cons]
    omega
theorem fold_snd (l : List UInt8) : ∀ s : Nat × Nat, s.2 < 65521 → (l.foldl adl s).2 = (s.2 + l.length * s.1 + weigh l) % 65521 := by
  induction l with
  | nil => intro s hs; simp [weigh, Nat.mod_eq_of_lt hs]
  | cons b t ih =>
    intro s _
    rw [List.foldl_cons, ih _ (Nat.mod_lt _ (by omega))]
    simp only [adl, weigh, List.length_cons]
    have e : s.2 + (t.length + 1) * s.1 + ((t.length + 1) * b.toNat + weigh t) = s.2 + (s.1 + b.toNat) + t.length * (s.1 + b.toNat) + weigh t := by
      rw [Nat.add_mul, Nat.add_mul, Nat.mul_add]; omega
    rw [e]
    generalize s.1 + b.toNat = u
    simp [Nat.add_mod, Nat.mul_mod]
theorem adler_append (a b : List UInt8) : adler (a ++ b) = b.foldl adl (adler a) := by simp [adler]
/-- The sum of two parts, of the sums of both. -/
theorem adler_two (a b : List UInt8) : (adler (a ++ b)).1 = ((adler a).1 + (adler b).1 + 65520) % 65521 ∧ (adler (a ++ b)).2 = ((adler a).2 + (adler b).2 + b.length % 65521 * ((adler a).1 + 65520)) % 65521 := by
  have ha := adler_lt a
  have f1 := fold_fst b (adler a) ha.1
  have f2 := fold_snd b (adler a) ha.2
  have g1 := fold_fst b (1, 0) (by decide)
  have g2 := fold_snd b (1, 0) (by decide)
  rw [adler_append]
  have e1 : (adler b).1 = (1 + (b.map UInt8.toNat).sum) % 65521 := g1
  have e2 : (adler b).2 = (b.length + weigh b) % 65521 := by simpa [adler] using g2
  rw [f1, f2, e1, e2]
  generalize (adler a).1 = p at *
  generalize (adler a).2 = q at *
  generalize (b.map UInt8.toNat).sum = s
  generalize weigh b = t
  generalize b.length = n
  refine ⟨by omega, ?_⟩
  have h1 : (q + (n + t) % 65521 + n % 65521 * (p + 65520)) % 65521 = (q + (n + t) + n * (p + 65520)) % 65521 := by simp [Nat.add_mod, Nat.mul_mod]
  rw [h1, Nat.mul_add]
  have h2 : q + (n + t) + (n * p + n * 65520) = q + n * p + t + 65521 * n := by omega
  rw [h2, Nat.add_mul_mod_self_left]
theorem sumN_two (a b : List UInt8) : sumN (a ++ b) = ((adler a).2 + (adler b).2 + b.length % 65521 * ((adler a).1 + 65520)) % 65521 * 65536 + ((adler a).1 + (adler b).1 + 65520) % 65521 := by
  unfold sumN
  rw [(adler_two a b).1, (adler_two a b).2]

set_option maxHeartbeats 2000000 in
theorem fnSumTwo_small (A A' : Option Addr) (c c' : Nat) (l l' : List UInt8) (w : World) (h : Has w w.heap.size A l) (hc : l.length ≤ c) (h' : Has w w.heap.size A' l') (hc' : l'.length ≤ c') (hs : l.length ≤ 1048576) (hs' : l'.length ≤ 1048576) :
    Calls Try.prog 5 #[.slice A l.length c, .slice A' l'.length c'] w fun e w' => e = .returned (.bool true) ∧ Below w.heap.size w w' := by
  have hb : (l.length : Int) ≤ 1048576 := by omega
  have hb' : (l'.length : Int) ≤ 1048576 := by omega
  go_enter Try.func5, Try.ntmps5
  go_wp2_with fail
  refine (drawSumOf_any A c l _ (by omega) hc h).mono ?_
  rintro e w1 ⟨A1, c1, a, rfl, h1, hal, B1⟩
  have z1 := B1.size
  have h1' := h'.carry B1 (Nat.le_refl _) z1
  have HAL := Lib.hid hal
  clear h hc h' hal
  go_wp2_with fail
  refine (drawSumOf_any A' c' l' _ (by omega) hc' h1').mono ?_
  rintro e w2 ⟨A2, c2, b, rfl, h2, hbl, b2⟩
  have B2 : Below w.heap.size w w2 := B1.trans (b2.mono z1)
  have z2 := B2.size
  have h12 := h1.carry b2 (Nat.le_refl _) b2.size
  have HBL := Lib.hid hbl
  clear h1' hc' hbl b2 B1 h1
  have C1 := Lib.hid fun W hh => implSumOf_any A1 c1 a w2.heap.size W (by have := HAL.out; omega) hh
  have C2 := Lib.hid fun W hh => implSumOf_any A2 c2 b w2.heap.size W (by have := HBL.out; omega) hh
  have D1 := Lib.hid fun W hh => specSumOf_any A1 c1 a w2.heap.size W (by have := HAL.out; omega) hh
  have D2 := Lib.hid fun W hh => specSumOf_any A2 c2 b w2.heap.size W (by have := HBL.out; omega) hh
  have hk0 : (a ++ b).length = a.length + b.length := by simp
  have C3 := Lib.hid fun A c B W (hh : Has W B A (a ++ b)) => implSumOf_any A c (a ++ b) B W (by rw [hk0]; have := HAL.out; have := HBL.out; omega) hh
  obtain ⟨n, hn⟩ : ∃ n, sumN a = n := ⟨_, rfl⟩
  obtain ⟨m, hm⟩ : ∃ m, sumN b = m := ⟨_, rfl⟩
  obtain ⟨p, hp⟩ : ∃ p, (adler a).1 = p := ⟨_, rfl⟩
  obtain ⟨q, hq⟩ : ∃ q, (adler a).2 = q := ⟨_, rfl⟩
  obtain ⟨r, hr⟩ : ∃ r, (adler b).1 = r := ⟨_, rfl⟩
  obtain ⟨s, hs2⟩ : ∃ s, (adler b).2 = s := ⟨_, rfl⟩
  have ha2 := adler_lt a
  have hb2 := adler_lt b
  rw [hp, hq] at ha2
  rw [hr, hs2] at hb2
  have hnpq : n = q * 65536 + p := by rw [← hn, ← hp, ← hq]; rfl
  have hmrs : m = s * 65536 + r := by rw [← hm, ← hr, ← hs2]; rfl
  have hblx := HBL.out
  obtain ⟨nb, hnb⟩ : ∃ nb, b.length % 65521 = nb := ⟨_, rfl⟩
  obtain ⟨pr, hpr⟩ : ∃ pr, nb * (p + 65520) = pr := ⟨_, rfl⟩
  have hprl : pr ≤ 700 * 131041 := by rw [← hpr]; exact Nat.mul_le_mul (by omega) (by omega)
  obtain ⟨lo, hlo⟩ : ∃ lo, (p + r + 65520) % 65521 = lo := ⟨_, rfl⟩
  obtain ⟨hi, hhi⟩ : ∃ hi, (q + s + pr) % 65521 = hi := ⟨_, rfl⟩
  have HSN : Hid (((sumN (a ++ b) : Nat) : Int) = (hi : Int) * 65536 + (lo : Int)) := Lib.hid (by rw [sumN_two, hp, hq, hr, hs2, hnb, hpr, hlo, hhi]; omega)
  rw [hk0, HSN.out] at C3
  rw [hn] at C1 D1
  rw [hm] at C2 D2
  have t1 : (n : Int) % 65536 = (p : Int) := by omega
  have t2 : (n : Int) / 65536 = (q : Int) := by omega
  have t3 : (m : Int) % 65536 = (r : Int) := by omega
  have t4 : (m : Int) / 65536 = (s : Int) := by omega
  have t5 : ((p : Int) + (r : Int) + 65520) % 65521 = (lo : Int) := by omega
  have t6 : ((q : Int) + (s : Int) + (pr : Int)) % 65521 = (hi : Int) := by omega
  have t7 : (b.length : Int) % 65521 = (nb : Int) := by omega
  have t8 : (nb : Int) * ((p : Int) + 65520) = (pr : Int) := by rw [← hpr]; simp
  have lp : (p : Int) < 65521 := by omega
  have lq : (q : Int) < 65521 := by omega
  have lr : (r : Int) < 65521 := by omega
  have ls : (s : Int) < 65521 := by omega
  have lo2 : (lo : Int) < 65521 := by omega
  have hi2 : (hi : Int) < 65521 := by omega
  have pr2 : (pr : Int) < 100000000 := by omega
  clear hn hm hp hq hr hs2 ha2 hb2 hnpq hmrs hnb hpr hprl hlo hhi hblx hk0
  go_wp2_with fail
  refine (C1.out _ h12).mono ?_
  rintro e w' ⟨rfl, rfl⟩
  go_wp2_with fail
  refine (C2.out _ h2).mono ?_
  rintro e w' ⟨rfl, rfl⟩
  go_wp2_with fail
  refine (D1.out _ h12).mono ?_
  rintro e w' ⟨rfl, rfl⟩
  go_wp2_with fail
  refine (D2.out _ h2).mono ?_
  rintro e w' ⟨rfl, rfl⟩
  have HK1 := Lib.hid (h12.kept (w' := w2.alloc (.cells #[] 5)) fun p hp => World.cell?_of_block (Below.heap_alloc w2 _ p.block hp))
  have HL1 : Hid (∀ q, (Value.slice (some ⟨w2.heap.size, 0, none⟩) 0 0).ownBlock = some q → w2.heap.size ≤ q) := Lib.hid fun q hq => by simp [Value.ownBlock] at hq; omega
  clear C1 C2 D1 D2 h12
  go_wp2_with (first
      | (at_builtin; refine wpList_pushAll rfl (.tmp 58) (.tmp 59) rfl w2.heap.size _ [] rfl (own_empty (Nat.le_refl _)) _ A1 c1 a rfl HK1.out (by have := HAL.out; simp; omega) (by simp) ?_; intro v5 w5 ho5 hg5; rw [List.nil_append] at ho5; have hb5 : Below w2.heap.size w2 w5 := (((Below.refl _ w2).alloc (Nat.le_refl _) _).grown hg5 (by simp) HL1.out); clear hg5)
      | (at_builtin; refine wpList_pushAll rfl (.tmp 60) (.tmp 61) rfl w2.heap.size v5 a rfl ho5 _ A2 c2 b rfl (h2.below hb5) (by have := HAL.out; have := HBL.out; omega) hb5.size ?_; intro v6 w6 ho6 hg6; obtain ⟨A6, c6, hv6, -, hr6⟩ := ho6.has; rw [List.length_append] at hv6; subst hv6))
  have hb6 : Below w2.heap.size w2 w6 := hb5.grown hg6 hb5.size (fun q hq => (World.ownsRow.lt ho5 q hq).1)
  have B6 : Below w.heap.size w w6 := B2.trans (hb6.mono z2)
  clear hb5 hb6 ho5 hg6 ho6 B2 HK1 HL1 h2
  refine (C3.out _ _ _ _ hr6).mono ?_
  rintro e w' ⟨rfl, rfl⟩
  clear hr6 t1 t2 t3 t4 t5 t6 t7 t8 C3
  have hee : ((hi : Int) * 65536 + (lo : Int) == (hi : Int) * 65536 + (lo : Int)) = true := beq_iff_eq.2 rfl
  go_wp2_with fail
  refine (eaOk_any _).mono ?_
  rintro e w7 ⟨rfl, b7⟩
  have B7 := B6.trans (b7.mono B6.size)
  clear b7 B6
  go_wp2_with fail
  go_ret
  exact ⟨rfl, B7⟩

theorem fnSumTwo_walk (A : Option Addr) (c : Nat) (l : List UInt8) (A' : Option Addr) (c' : Nat) (l' : List UInt8) (w : World) (h : Has w w.heap.size A l) (hc : l.length ≤ c) (h' : Has w w.heap.size A' l') (hc' : l'.length ≤ c') :
    Calls Try.prog 5 #[.slice A l.length c, .slice A' l'.length c'] w fun e w' => e = .returned (.bool true) ∧ Below w.heap.size w w' := by
  by_cases hbig : 1048576 < l.length
  · have hb : (1048576 : Int) < (l.length : Int) := by omega
    go_enter Try.func5, Try.ntmps5
    go_wp2
    go_ret
    exact ⟨rfl, Below.refl _ _⟩
  · by_cases hbig' : 1048576 < l'.length
    · have hb0 : ¬ ((1048576 : Int) < (l.length : Int)) := by omega
      have hb : (1048576 : Int) < (l'.length : Int) := by omega
      go_enter Try.func5, Try.ntmps5
      go_wp2
      go_ret
      exact ⟨rfl, Below.refl _ _⟩
    · exact fnSumTwo_small A A' c c' l l' w h hc h' hc' (by omega) (by omega)
end Go.Proofs.Ytdipihdpfkoddaa
