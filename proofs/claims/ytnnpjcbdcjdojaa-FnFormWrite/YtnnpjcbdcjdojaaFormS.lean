/-
  l5Body, l5File, FormWrite and FormPut of the reference. Conditions: the pixels and the note are read from memory that was there.
-/
import Derived.Test.YtnnpjcbdcjdojaaFlipS
import Derived.Test.YtnnpjcbdcjdojaaRunS
import Derived.Test.YtnnpjcbdcjdojaaPakSP
import Derived.Test.YtnnpjcbdcjdojaaPushAll
namespace Go.Proofs.Ytnnpjcbdcjdojaa
set_option maxRecDepth 4000
open Go.RowKit

theorem u8_not (k : UInt8) (n : Nat) (hn : n < 256) (h : k ≠ UInt8.ofNat n) : ((k.toNat : Int) == (n : Int)) = false := by rw [u8_eq k n hn]; exact beq_eq_false_iff_ne.2 h
theorem bodied_below {r : List UInt8} {w w1 : World} {e : Ending} {w' : World} (hb : Below w.heap.size w w1) (h : Bodied r w1 e w') : Bodied r w e w' := by
  obtain ⟨v, he, ho, hb'⟩ := h
  exact ⟨v, he, ho.lower hb.size, hb.trans (hb'.mono hb.size)⟩
theorem bodied_own {r : List UInt8} {w w1 w2 : World} {v : Value} (hb : Below w.heap.size w w1) (ho : Own w2 w1.heap.size v r) (hb2 : Below w1.heap.size w1 w2) : Bodied r w (.returned v) w2 := ⟨v, rfl, ho.lower hb.size, hb.trans (hb2.mono hb.size)⟩
/-- l3Bytes over a valid raster. -/
theorem l3Bytes_ok (W H : Int) (A : Option Addr) (c : Nat) (l : List Px) (w : World) (hok : rasB W H l = true) (h : HasP w w.heap.size A l) :
    Calls Try.prog 58 #[rasV W H A l.length c] w fun e w' => ∃ v, e = .returned v ∧ Own w' w.heap.size v (rasBy W H l) ∧ Below w.heap.size w w' := by
  obtain ⟨hW, hH, hl, ha⟩ := rasB_parts hok
  have h36 := mul36 hW hH
  exact l3Bytes_any W H A c l w (by omega) (by omega) (by omega) ha h
set_option maxHeartbeats 1000000 in
theorem l5Body_any (k : UInt8) (W H : Int) (A : Option Addr) (c : Nat) (l : List Px) (w : World) (hok : rasB W H l = true) (hc : l.length ≤ c) (h : HasP w w.heap.size A l) :
    Calls Try.prog 66 #[.int .u8 (k.toNat : Int), rasV W H A l.length c] w (Bodied (bodyB k W H l) w) := by
  have hb0 : Below w.heap.size w (w.alloc (.cells #[.int .i64 W, .int .i64 H, .slice A l.length c] 25)) := (Below.refl _ w).alloc (Nat.le_refl _) _
  have hh0 := (h.below hb0).wider hb0.size
  have HB0 := Lib.hid hb0
  have C3 := Lib.hid (l3Bytes_ok W H A c l _ hok hh0)
  have CF := Lib.hid (l5Flip_any W H A c l _ hok hc hh0)
  have CR := Lib.hid (l5Runs_any W H A c l _ hok hh0)
  have CF2 := Lib.hid fun A c W0 hh => l3Bytes_ok W H A c (flipR W H l) W0 (flipR_ok hok) hh
  have HLE := Lib.hid (rasBy_le hok)
  have HFL := Lib.hid (flipR_length hok)
  unfold rasV at *
  clear h hh0 hb0 hc
  by_cases h1 : k = 68
  · subst h1
    have e1 : ((68 : UInt8).toNat : Int) = 68 := rfl
    have HE : Hid (bodyB 68 W H l = rasBy W H l) := Lib.hid rfl
    rw [e1, HE.out]
    clear CF CR CF2
    go_enter Try.func66, Try.ntmps66
    go_wp2_with fail
    refine C3.out.mono ?_
    rintro e w2 ⟨v, rfl, ho, b2⟩
    have HF := Lib.hid (bodied_own HB0.out ho b2)
    clear ho b2
    go_wp2_with fail
    go_ret
    exact HF.out
  have n1 : ((k.toNat : Int) == 68) = false := u8_not k 68 (by omega) h1
  by_cases h2 : k = 85
  · subst h2
    have e1 : ((85 : UInt8).toNat : Int) = 85 := rfl
    have HE : Hid (bodyB 85 W H l = rasBy W H (flipR W H l)) := Lib.hid rfl
    rw [e1, HE.out]
    clear C3 CR n1
    go_enter Try.func66, Try.ntmps66
    go_wp2_with fail
    refine CF.out.mono ?_
    rintro e w2 ⟨A2, c2, rfl, hc2, ho2, b2⟩
    have HB2 := Lib.hid (HB0.out.trans (b2.mono HB0.out.size))
    have C4 := Lib.hid (CF2.out A2 c2 w2 ho2.reads)
    unfold rasV
    clear ho2 b2 CF CF2
    go_wp2_with fail
    refine C4.out.mono ?_
    rintro e w3 ⟨v, rfl, ho, b3⟩
    have HF := Lib.hid (bodied_own HB2.out ho b3)
    clear ho b3
    go_wp2_with fail
    go_ret
    exact HF.out
  have n2 : ((k.toNat : Int) == 85) = false := u8_not k 85 (by omega) h2
  by_cases h3 : k = 82
  · subst h3
    have e1 : ((82 : UInt8).toNat : Int) = 82 := rfl
    have HE : Hid (bodyB 82 W H l = runsB W H l) := Lib.hid rfl
    rw [e1, HE.out]
    clear C3 CF CF2 n1 n2
    go_enter Try.func66, Try.ntmps66
    go_wp2_with fail
    refine CR.out.mono ?_
    rintro e w2 h2
    have h3 := bodied_below HB0.out h2
    obtain ⟨v, rfl, ho, b2⟩ := h3
    have HF : Hid (Bodied (runsB W H l) w (.returned v) w2) := Lib.hid ⟨v, rfl, ho, b2⟩
    clear ho b2 h2
    go_wp2_with fail
    go_ret
    exact HF.out
  have n3 : ((k.toNat : Int) == 82) = false := u8_not k 82 (by omega) h3
  have HE : Hid (bodyB k W H l = pakPutB (rasBy W H l)) := Lib.hid (by unfold bodyB; rw [if_neg h1, if_neg h2, if_neg h3])
  rw [HE.out]
  clear CF CR CF2 h1 h2 h3
  go_enter Try.func66, Try.ntmps66
  go_wp2_with fail
  refine C3.out.mono ?_
  rintro e w2 ⟨v, rfl, ho, b2⟩
  obtain ⟨A2, c2, rfl, hc2, h2⟩ := ho.has
  have HB2 := Lib.hid (HB0.out.trans (b2.mono HB0.out.size))
  have CP := Lib.hid (specPakPut_any A2 c2 (rasBy W H l) w2 (by have := HLE.out; omega) hc2 h2)
  unfold PakOut at CP
  clear ho b2 h2 C3
  generalize rasBy W H l = rb at *
  go_wp2_with fail
  refine CP.out.mono ?_
  rintro e w3 ⟨v, rfl, ho, b3⟩
  have HF := Lib.hid (bodied_own HB2.out ho b3)
  clear ho b3
  go_wp2_with fail
  go_ret
  exact HF.out
end Go.Proofs.Ytnnpjcbdcjdojaa
