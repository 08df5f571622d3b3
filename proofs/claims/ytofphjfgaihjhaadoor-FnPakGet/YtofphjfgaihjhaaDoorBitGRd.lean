/-
  The program's bit reader: get over a reader without an error, newBitReader. Conditions: at most 2^30 bytes; the three errors are not nil.
-/
import Derived.Test.YtofphjfgaihjhaaDoorBitGI
namespace Go.Proofs.YtofphjfgaihjhaaDoor
open Go.RowKit

/-- A reader behind a read: it stands at the next place, or has an error. -/
def GotP (w : World) (g : Nat) (A : Option Addr) (c : Nat) (l : List UInt8) (ok : Bool) (a : Int) : Prop := (ok = true ∧ RdB w g A c l a .nilIface) ∨ (ok = false ∧ ∃ a u v, RdB w g A c l a (.iface u v))
set_option maxHeartbeats 1000000 in
theorem get_pos (g : Nat) (A : Option Addr) (c : Nat) (l : List UInt8) (p q : Nat) (w : World) (h : RdB w g A c l p .nilIface) (hs : l.length ≤ 1073741824) (hp : p < 9223372036854775808) (hq : 1 ≤ (q : Int) ∧ (q : Int) ≤ 12) (he : ErrV w 2) (hg : 2 < g) :
    Calls Tryd.prog 34 #[.pointer (some ⟨g, 0, none⟩), .int .i64 (q : Int)] w fun e w' => e = .returned (.int .i64 ((bitGetN l p q : Nat) : Int)) ∧ GotP w' g A c l (bitGetB l p q) ((p : Int) + (q : Int)) ∧ w.grownBy w' (some g) := by
  have c2 := h.c2
  have hd : decide (1 ≤ (q : Int) ∧ (q : Int) ≤ 12) = true := decide_eq_true hq
  have HP := Lib.hid hp
  have HS := Lib.hid hs
  have HE := Lib.hid he
  clear hp hs he
  go_enter Tryd.func34, Tryd.ntmps34
  go_wp2_with fail
  refine (bitWidthOk_any _ _).mono ?_
  rintro e w' ⟨rfl, rfl⟩
  go_wp2
  clear c2
  go_loopw [5, 6] (fun n i wr => ∃ k : Nat, k ≤ q ∧ i = .int .i64 k ∧ w'.grownBy wr (some g) ∧
      ((∃ m : Nat, n = .int .i64 m ∧ getN l p k = m ∧ (k = 0 ∨ p + k ≤ 8 * l.length) ∧ RdB wr g A c l ((p : Int) + k) .nilIface) ∨
        (∃ (z a : Int) (u : TypeId) (v : Value), n = .int .i64 z ∧ 8 * l.length < p + q ∧ RdB wr g A c l a (.iface u v)))) (fun _ i _ => q - (intOf i).toNat)
  case atStart => exact ⟨0, Nat.zero_le _, rfl, World.grownBy.refl _ _, .inl ⟨0, rfl, rfl, .inl rfl, by rw [show (p : Int) + ((0 : Nat) : Int) = (p : Int) from by omega]; exact h⟩⟩
  case round =>
    clear h
    obtain ⟨k, hk, rfl, hgr, ⟨m, rfl, hm, hk8, hr⟩ | ⟨z, a, u, v, rfl, hk8, hr⟩⟩ := hrel
    · have c2 := hr.c2
      have HR := Lib.hid hr
      have HG := Lib.hid hgr
      have HK8 := Lib.hid hk8
      clear hr hgr hk8
      by_cases hlt : k < q
      · by_cases hin : (p + k) / 8 < l.length
        · have hb1 := bitAt_lt l (p + k)
          have HV := Lib.hid (or_step m k (bitAt l (p + k)) (by rw [← hm]; exact getN_lt l p k) (by omega) (by omega))
          have HN : Hid (getN l p (k + 1) = m + bitAt l (p + k) * 2 ^ k) := Lib.hid (by rw [getN, hm])
          have CG := Lib.hid (getOne_bit g A c l (p + k) _ HR.out HS.out hin)
          rw [Int.natCast_add] at CG
          generalize bitAt l (p + k) = bt at *
          have HIN := Lib.hid hin
          clear hin hm
          go_wp2_with fail
          refine CG.out.mono ?_
          rintro e w2 ⟨rfl, hr2, hg2⟩
          have HR2 := Lib.hid hr2
          have HG2 := Lib.hid (grown_trans HG.out hg2)
          clear hr2 hg2 CG c2
          go_wp2
          go_roundw
          case rel => exact ⟨k + 1, by omega, by go_num, HG2.out, .inl ⟨m + bt * 2 ^ k, by rw [HV.out], HN.out, .inr (by have := HIN.out; omega), by rw [show (p : Int) + ((k + 1 : Nat) : Int) = (p : Int) + (k : Int) + 1 from by omega]; exact HR2.out⟩⟩
          case measure => simp [intOf]; omega
        · have hpk : p + k < 9223372036854775808 := by have h1 := HP.out; have h2 := HS.out; rcases HK8.out with h0 | h0 <;> omega
          have CG := Lib.hid (getOne_end g A c l (p + k) _ HR.out (by omega) hpk (HE.out.grown HG.out (by omega)))
          rw [Int.natCast_add] at CG
          have HIN : Hid (8 * l.length < p + q) := Lib.hid (by omega)
          clear hin hm hpk
          go_wp2_with fail
          refine CG.out.mono ?_
          rintro e w2 ⟨rfl, u, v, hr2, hg2⟩
          have HR2 := Lib.hid hr2
          have HG2 := Lib.hid (grown_trans HG.out hg2)
          clear hr2 hg2 CG c2
          go_wp2
          go_roundw
          case rel => exact ⟨k + 1, by omega, by go_num, HG2.out, .inr ⟨_, _, u, v, rfl, HIN.out, HR2.out⟩⟩
          case measure => simp [intOf]; omega
      · obtain rfl : k = q := by omega
        have hB : bitGetB l p k = true := decide_eq_true (by rcases HK8.out with h0 | h0 <;> omega)
        have HN : Hid (bitGetN l p k = m) := Lib.hid (by unfold bitGetN; rw [hB]; simp [hm])
        have HQ : Hid (GotP wr g A c l (bitGetB l p k) ((p : Int) + (k : Int))) := Lib.hid (.inl ⟨hB, HR.out⟩)
        clear hB hm
        go_wp2
        go_ret
        exact ⟨by rw [HN.out]; rfl, HQ.out, HG.out⟩
    · have c2 := hr.c2
      have hB : bitGetB l p q = false := decide_eq_false (by omega)
      have HN : Hid (bitGetN l p q = 0) := Lib.hid (bitGetN_no hB)
      have HQ : Hid (GotP wr g A c l (bitGetB l p q) ((p : Int) + (q : Int))) := Lib.hid (.inr ⟨hB, _, u, v, hr⟩)
      have HG := Lib.hid hgr
      clear hB hr hgr hk8
      by_cases hlt : k < q
      all_goals
        go_wp2
        go_ret
        exact ⟨by rw [HN.out]; rfl, HQ.out, HG.out⟩

theorem get_num (g : Nat) (A : Option Addr) (c : Nat) (l : List UInt8) (p q : Nat) (w : World) (h : RdB w g A c l p .nilIface) (hs : l.length ≤ 1073741824) (hp : p < 9223372036854775808) (hq : 1 ≤ (q : Int) ∧ (q : Int) ≤ 12) (he : ErrV w 2) (hg : 2 < g) :
    Calls Tryd.prog 34 #[.pointer (some ⟨g, 0, none⟩), .int .i64 (q : Int)] w fun e w' => e = .returned (.int .i64 ((bitGetN l p q : Nat) : Int)) ∧ Got w' g A c l (bitGetB l p q) ∧ w.grownBy w' (some g) := by
  refine (get_pos g A c l p q w h hs hp hq he hg).mono ?_
  rintro e w' ⟨he, ⟨hb, hr⟩ | ⟨hb, a, u, v, hr⟩, hg⟩
  · exact ⟨he, .inl ⟨hb, _, hr⟩, hg⟩
  · exact ⟨he, .inr ⟨hb, a, u, v, hr⟩, hg⟩

theorem RdB.has {w : World} {g : Nat} {A : Option Addr} {c : Nat} {l : List UInt8} {a : Int} {e : Value} (h : RdB w g A c l a e) : Has w g A l := h.2
theorem rdB_new {w : World} {A : Option Addr} {l : List UInt8} (c : Nat) (a : Int) (e : Value) (h : Has w w.heap.size A l) : RdB (w.alloc (.cells #[.slice A l.length c, .int .i64 a, e] 64)) w.heap.size A c l a e :=
  ⟨heap_alloc_new w _, h.kept fun q hq => World.cell?_of_block (Below.heap_alloc w _ q.block hq)⟩
/-- What a new reader is: without an error just if its place is none below the first. -/
def NewRd (w : World) (g : Nat) (A : Option Addr) (c : Nat) (l : List UInt8) (a : Int) : Prop := (0 ≤ a ∧ RdB w g A c l a .nilIface) ∨ (a < 0 ∧ ∃ u v, RdB w g A c l a (.iface u v))

set_option maxHeartbeats 400000 in
theorem newBitReader_any (A : Option Addr) (c : Nat) (l : List UInt8) (a : Int) (w : World) (h : Has w w.heap.size A l) (he : ErrV w 0) :
    Calls Tryd.prog 33 #[.slice A l.length c, .int .i64 a] w fun e w' => e = .returned (.pointer (some ⟨w.heap.size, 0, none⟩)) ∧ NewRd w' w.heap.size A c l a ∧ Below w.heap.size w w' := by
  have hlt := he.lt
  have he2 := he.below ((Below.refl _ w).alloc (Nat.le_refl _) (.cells #[.slice A l.length c, .int .i64 a, .nilIface] 64)) hlt
  obtain ⟨u, v, ce⟩ := he2
  by_cases ha : a < 0
  · have HR : Hid (NewRd (w.alloc (.cells #[.slice A l.length c, .int .i64 a, .iface u v] 64)) w.heap.size A c l a) := Lib.hid (.inr ⟨ha, u, v, rdB_new c a _ h⟩)
    clear h he
    go_enter Tryd.func33, Tryd.ntmps33
    go_wp2
    go_ret
    exact ⟨rfl, HR.out, (Below.refl _ w).alloc (Nat.le_refl _) _⟩
  · have HR : Hid (NewRd (w.alloc (.cells #[.slice A l.length c, .int .i64 a, .nilIface] 64)) w.heap.size A c l a) := Lib.hid (.inl ⟨by omega, rdB_new c a _ h⟩)
    clear h he
    go_enter Tryd.func33, Tryd.ntmps33
    go_wp2
    go_ret
    exact ⟨rfl, HR.out, (Below.refl _ w).alloc (Nat.le_refl _) _⟩

/-- The three errors of reading are not nil. -/
def Errs (w : World) : Prop := ErrV w 1 ∧ ErrV w 0 ∧ ErrV w 2
theorem Errs.below {w w' : World} {B : Nat} (h : Errs w) (hb : Below B w w') (hB : w.heap.size ≤ B) : Errs w' :=
  ⟨h.1.below hb (Nat.lt_of_lt_of_le h.1.lt hB), h.2.1.below hb (Nat.lt_of_lt_of_le h.2.1.lt hB), h.2.2.below hb (Nat.lt_of_lt_of_le h.2.2.lt hB)⟩

/-- What get answers over a new reader. -/
theorem get_new (g : Nat) (A : Option Addr) (c : Nat) (l : List UInt8) (a b : Int) (w : World) (h : NewRd w g A c l a) (hs : l.length ≤ 1073741824) (ha : a < 9223372036854775808) (he : Errs w) (hg : 2 < g) (hg0 : 1 < g) :
    Calls Tryd.prog 34 #[.pointer (some ⟨g, 0, none⟩), .int .i64 b] w fun e w' => e = .returned (.int .i64 ((bitGetN l a b : Nat) : Int)) ∧ Got w' g A c l (bitGetB l a b) ∧ w.grownBy w' (some g) := by
  rcases h with ⟨h0, h⟩ | ⟨h0, u, v, h⟩
  · by_cases hb : 1 ≤ b ∧ b ≤ 12
    · obtain ⟨p, rfl⟩ : ∃ p : Nat, a = (p : Int) := ⟨a.toNat, by omega⟩
      obtain ⟨q, rfl⟩ : ∃ q : Nat, b = (q : Int) := ⟨b.toNat, by omega⟩
      exact get_num g A c l p q w h hs (by omega) hb he.2.2 hg
    · have hB : bitGetB l a b = false := decide_eq_false (by omega)
      refine (get_bad g A c l a b w h hb he.1 hg0).mono ?_
      rintro e w' ⟨rfl, ⟨u, v, hr⟩, hgr⟩
      exact ⟨by rw [bitGetN_no hB]; rfl, .inr ⟨hB, _, u, v, hr⟩, hgr⟩
  · have hB : bitGetB l a b = false := decide_eq_false (by omega)
    refine (get_err g A c l a b u v w h).mono ?_
    rintro e w' ⟨rfl, rfl⟩
    exact ⟨by rw [bitGetN_no hB]; rfl, .inr ⟨hB, _, u, v, h⟩, World.grownBy.refl _ _⟩
end Go.Proofs.YtofphjfgaihjhaaDoor
