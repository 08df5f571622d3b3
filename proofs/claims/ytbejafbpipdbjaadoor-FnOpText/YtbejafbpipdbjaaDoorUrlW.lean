/-
  The scanner reads a word, a mark; it keeps its first error. Condition: the scanner's block holds a text.
-/
import Derived.Test.YtbejafbpipdbjaaDoorUrlM
import Derived.Test.YtbejafbpipdbjaaDoorUrlB
import Derived.Test.YtbejafbpipdbjaaDoorShelf
import Derived.Test.YtbejafbpipdbjaaDoorBitE
namespace Go.Proofs.YtbejafbpipdbjaaDoor
set_option maxRecDepth 4000
open Go.RowKit

/-- The scanner's block: the text that is left, and the error. -/
def Scn (w : World) (g : Nat) (l : List UInt8) (ev : Value) : Prop := Box w g #[.string (bs l), ev] 101
theorem nameByteOk_any (c : UInt8) (w : World) : Calls Tryd.prog 77 #[.int .u8 (c.toNat : Int)] w fun e w' => e = .returned (.bool (nameB c)) ∧ w' = w := by
  unfold nameB
  generalize c.toNat = n
  by_cases h1 : 97 ≤ n
  · by_cases h2 : n ≤ 122
    · rw [decide_eq_true h1, decide_eq_true h2]
      go_enter Tryd.func77, Tryd.ntmps77
      go_wp2
      go_ret
      exact ⟨by simp <;> omega, rfl⟩
    · rw [decide_eq_true h1, decide_eq_false h2, decide_eq_true (show 48 ≤ n by omega), decide_eq_false (show ¬ n ≤ 57 by omega)]
      go_enter Tryd.func77, Tryd.ntmps77
      go_wp2
      go_ret
      exact ⟨by simp <;> omega, rfl⟩
  · by_cases h3 : 48 ≤ n
    · by_cases h4 : n ≤ 57
      · rw [decide_eq_false h1, decide_eq_true h3, decide_eq_true h4]
        go_enter Tryd.func77, Tryd.ntmps77
        go_wp2
        go_ret
        exact ⟨by simp <;> omega, rfl⟩
      · rw [decide_eq_false h1, decide_eq_true h3, decide_eq_false h4]
        go_enter Tryd.func77, Tryd.ntmps77
        go_wp2
        go_ret
        exact ⟨by simp <;> omega, rfl⟩
    · rw [decide_eq_false h1, decide_eq_false h3]
      go_enter Tryd.func77, Tryd.ntmps77
      go_wp2
      go_ret
      exact ⟨by simp <;> omega, rfl⟩

theorem wd_of {l : List UInt8} {k : Nat} (h1 : (l.take k).all nameB = true) (h2 : stopB (l.drop k) = true) : wd l = l.take k ∧ rst l = l.drop k := by
  have := wd_append h1 h2
  rwa [List.take_append_drop] at this
theorem scn_set {w : World} {g : Nat} {l : List UInt8} {ev : Value} (h : Scn w g l ev) (m : List UInt8) : Scn (w.setCell ⟨g, 0, none⟩ (.string (bs m))) g m ev := Box.set h 0 _
set_option maxHeartbeats 1000000 in
/-- (*urlScanner).word. -/
theorem word_any (g : Nat) (l : List UInt8) (ev : Value) (w : World) (hl : l.length ≤ 1073741824) (h : Scn w g l ev) :
    Calls Tryd.prog 73 #[.pointer (some ⟨g, 0, none⟩)] w fun e w' => e = .returned (.string (bs (wd l))) ∧ Scn w' g (rst l) ev ∧ w.grownBy w' (some g) := by
  have c0 := h.cell (i := 0) (v := .string (bs l)) rfl
  have fr := h.free 0
  have HS := Lib.hid h
  obtain ⟨n, hn⟩ : ∃ n, l.length = n := ⟨_, rfl⟩
  have sz : (bs l).size = n := by rw [bs_size, hn]
  have HN := Lib.hid hn
  have CN := Lib.hid nameByteOk_any
  have AT := Lib.hid fun (u : World) (i : Nat) (x : UInt8) (hx : l[i]? = some x) => bs_at u l .i64 i x hx
  rw [hn] at hl
  clear hn h
  go_enter Tryd.func73, Tryd.ntmps73
  go_wp2_with fail
  go_loopw [3] (fun v wr => ∃ k : Nat, k ≤ n ∧ v = .int .i64 (k : Int) ∧ (l.take k).all nameB = true ∧ Scn wr g l ev ∧ w.grownBy wr (some g)) (fun v _ => n - (intOf v).toNat)
  case atStart => exact ⟨0, Nat.zero_le _, rfl, rfl, HS.out, World.grownBy.refl _ _⟩
  case round =>
    obtain ⟨k, hk, rfl, hal, hs, hg⟩ := hrel
    have d0 := hs.cell (i := 0) (v := .string (bs l)) rfl
    have fk := hs.free 0
    have HAL := Lib.hid hal
    have HB := Lib.hid hs
    have HG := Lib.hid hg
    clear hal hs hg c0 fr
    by_cases hlt : k < n
    · obtain ⟨x, hx⟩ : ∃ x, l[k]? = some x := ⟨_, List.getElem?_eq_getElem (by rw [HN.out]; exact hlt)⟩
      have at1 := fun u => AT.out u k x hx
      have HX := Lib.hid hx
      clear hx
      go_wp2_with (go_at_call 77; refine (CN.out x _).mono ?_; rintro e w' ⟨rfl, rfl⟩)
      · have hnx : nameB x = true := by assumption
        go_roundw
        case rel =>
          refine ⟨k + 1, by omega, by go_num, ?_, HB.out, HG.out⟩
          rw [List.take_add_one, HX.out, List.all_append, HAL.out]
          simp [hnx]
        case measure => simp [intOf]; omega
      · have hnx : nameB x = false := by assumption
        obtain ⟨h1, h2⟩ := wd_of HAL.out (by
          have := HX.out
          obtain ⟨hi, he⟩ := List.getElem?_eq_some_iff.1 this
          rw [List.drop_eq_getElem_cons hi, he]
          simp [stopB, hnx])
        go_ret
        rw [h1, h2]
        refine ⟨by rw [bs_cut]; simp, ?_, grown_trans HG.out (grown_cell _ _ _ _)⟩
        have := scn_set HB.out (l.drop k)
        rwa [bs_cut, List.take_of_length_le (by rw [List.length_drop, HN.out]; omega)]
    · obtain rfl : k = n := by omega
      have h0 : l.take k = l := List.take_of_length_le (by rw [HN.out]; omega)
      obtain ⟨h1, h2⟩ := wd_of HAL.out (by rw [List.drop_of_length_le (by rw [HN.out]; omega)]; rfl)
      have H1 := Lib.hid h1
      have H2 := Lib.hid h2
      have H0 := Lib.hid h0
      clear h0 h1 h2
      go_wp2_with fail
      go_ret
      rw [H1.out, H2.out]
      refine ⟨by rw [bs_cut]; simp, ?_, grown_trans HG.out (grown_cell _ _ _ _)⟩
      have := scn_set HB.out (l.drop k)
      rw [show bs (l.drop k) = ByteArray.empty from by rw [List.drop_of_length_le (by rw [HN.out]; omega)]; rfl] at this
      exact this
/-- The error that is kept: none, or one of a malformed text. -/
def Bad (w : World) (ev : Value) (ok : Bool) : Prop :=
  (ok = true ∧ ev = .nilIface) ∨ (ok = false ∧ ∃ p y, ev = .iface 110 (.pointer (some ⟨p, 0, none⟩)) ∧ Box w p #[.int .i64 400, .string y] 112)
/-- The scanner: the text that is left, and whether all was good. -/
def Sc (w : World) (g : Nat) (l : List UInt8) (ok : Bool) : Prop := ∃ ev, Scn w g l ev ∧ Bad w ev ok
theorem Bad.grown {w w' : World} {g : Nat} {l : List UInt8} {e0 ev : Value} {ok : Bool} (h : Bad w ev ok) (hs : Scn w g l e0) (hg : w.grownBy w' (some g)) : Bad w' ev ok := by
  rcases h with h | ⟨h1, p, y, h2, h3⟩
  · exact .inl h
  · refine .inr ⟨h1, p, y, h2, h3.grown hg ?_⟩
    intro e
    injection e with e
    subst e
    unfold Scn Box at hs
    unfold Box at h3
    rw [hs] at h3
    injection h3 with h3
    injection h3 with _ h4 _
    cases h4
theorem Bad.keep {w w' : World} {ev : Value} {ok : Bool} (h : Bad w ev ok) (hb : Below w.heap.size w w') : Bad w' ev ok := by
  rcases h with h | ⟨h1, p, y, h2, h3⟩
  · exact .inl h
  · exact .inr ⟨h1, p, y, h2, h3.next hb⟩
theorem Sc.next {w w' : World} {g : Nat} {l : List UInt8} {ok : Bool} (h : Sc w g l ok) (hb : Below w.heap.size w w') : Sc w' g l ok := by
  obtain ⟨ev, h1, h2⟩ := h
  exact ⟨ev, Box.next h1 hb, h2.keep hb⟩
theorem grown_of_below {w w' : World} {g : Nat} (hb : Below w.heap.size w w') : w.grownBy w' (some g) := ⟨hb.os, hb.tape, hb.output, hb.size, fun k hk _ => hb.block k hk⟩
theorem below_of_grown_at {w w' : World} {g B : Nat} (h : w.grownBy w' (some g)) (hB : B ≤ g) (hs : B ≤ w.heap.size) : Below B w w' := (Below.refl _ w).grown h hs fun q hq => by injection hq with hq; omega
/-- (*urlScanner).word, the error kept. -/
theorem word_sc (g : Nat) (l : List UInt8) (ok : Bool) (w : World) (hl : l.length ≤ 1073741824) (h : Sc w g l ok) :
    Calls Tryd.prog 73 #[.pointer (some ⟨g, 0, none⟩)] w fun e w' => e = .returned (.string (bs (wd l))) ∧ Sc w' g (rst l) ok ∧ w.grownBy w' (some g) := by
  obtain ⟨ev, h1, h2⟩ := h
  refine (word_any g l ev w hl h1).mono ?_
  rintro e w' ⟨rfl, k1, k2⟩
  exact ⟨rfl, ⟨ev, k1, h2.grown h1 k2⟩, k2⟩
/-- strings.CutPrefix. -/
theorem cutPrefix_bs (l p : List UInt8) (w : World) :
    Calls Tryd.prog 90 #[.string (bs l), .string (bs p)] w fun e w' => e = .returned (.tuple #[.string (bs (cutP p l)), .bool (p.isPrefixOf l)]) ∧ w' = w := by
  refine (Tryd.strings_CutPrefix (bs l) (bs p) w).mono ?_
  rintro e w' ⟨rfl, rfl⟩
  rw [bs_data, bs_data]
  exact ⟨rfl, rfl⟩
set_option maxHeartbeats 1000000 in
/-- (*urlScanner).follows. -/
theorem follows_any (g : Nat) (l p : List UInt8) (ok : Bool) (w : World) (h : Sc w g l ok) :
    Calls Tryd.prog 74 #[.pointer (some ⟨g, 0, none⟩), .string (bs p)] w fun e w' => e = .returned (.bool (p.isPrefixOf l)) ∧ Sc w' g (cutP p l) ok ∧ w.grownBy w' (some g) := by
  obtain ⟨ev, hs, hb⟩ := h
  have c0 := hs.cell (i := 0) (v := .string (bs l)) rfl
  have fr := hs.free 0
  have HS := Lib.hid hs
  have HB := Lib.hid hb
  have CC := Lib.hid (cutPrefix_bs l p)
  clear hs hb
  go_enter Tryd.func74, Tryd.ntmps74
  go_wp2_with (go_at_call 90; refine (CC.out _).mono ?_; rintro e w' ⟨rfl, rfl⟩)
  go_ret
  exact ⟨rfl, ⟨ev, scn_set HS.out _, HB.out.grown HS.out (grown_cell _ _ _ _)⟩, grown_cell _ _ _ _⟩
set_option maxHeartbeats 1000000 in
/-- (*urlScanner).fail. -/
theorem fail_any (g : Nat) (l : List UInt8) (ok : Bool) (y : ByteArray) (w : World) (h : Sc w g l ok) :
    Calls Tryd.prog 71 #[.pointer (some ⟨g, 0, none⟩), .string y] w fun e w' => e = .returned (.tuple #[]) ∧ Sc w' g l false ∧ w.grownBy w' (some g) := by
  obtain ⟨ev, hs, hb⟩ := h
  have c0 := hs.cell (i := 0) (v := .string (bs l)) rfl
  have c1 := hs.cell (i := 1) (v := ev) rfl
  have fr := hs.free 1
  have HS := Lib.hid hs
  rcases hb with ⟨rfl, rfl⟩ | ⟨rfl, p, z, rfl, hp⟩
  · clear hs
    have hlt := HS.out.lt
    go_enter Tryd.func71, Tryd.ntmps71
    go_wp2
    have hb1 := Box.set HS.out 1 (.iface 110 (.pointer (some ⟨w.heap.size, 0, none⟩)))
    have hw1 : (w.setCell ⟨g, 1, none⟩ (.iface 110 (.pointer (some ⟨w.heap.size, 0, none⟩)))).heap.size = w.heap.size := by simp
    have hb2 := Box.new (w.setCell ⟨g, 1, none⟩ (.iface 110 (.pointer (some ⟨w.heap.size, 0, none⟩)))) #[.int .i64 400, .string y] 112
    rw [hw1] at hb2
    exact bodyPost_end (results_none Tryd.results71 _ _ _) rfl ⟨rfl, ⟨_, hb1.alloc _, .inr ⟨rfl, w.heap.size, y, rfl, hb2⟩⟩, grown_trans (grown_cell _ _ _ _) (World.grownBy_alloc _ _ _)⟩
  · have HP := Lib.hid hp
    clear hs hp
    go_enter Tryd.func71, Tryd.ntmps71
    go_wp2
    exact bodyPost_end (results_none Tryd.results71 _ _ _) rfl ⟨rfl, ⟨_, HS.out, .inr ⟨rfl, p, z, rfl, HP.out⟩⟩, World.grownBy.refl _ _⟩
set_option maxHeartbeats 1000000 in
/-- (*urlScanner).mark. -/
theorem mark_any (g : Nat) (l p : List UInt8) (ok : Bool) (w : World) (hp : p.length ≤ 100) (h : Sc w g l ok) :
    Calls Tryd.prog 98 #[.pointer (some ⟨g, 0, none⟩), .string (bs p)] w fun e w' => e = .returned (.tuple #[]) ∧ Sc w' g (cutP p l) (ok && p.isPrefixOf l) ∧ w.grownBy w' (some g) := by
  have CF := Lib.hid (follows_any g l p)
  have CB := Lib.hid (fail_any g (cutP p l))
  have HS := Lib.hid h
  have sz : (bs p).size ≤ 100 := by rw [bs_size]; exact hp
  obtain ⟨q, hq⟩ : ∃ q, p.isPrefixOf l = q := ⟨_, rfl⟩
  have HQ := Lib.hid hq
  rw [hq]
  clear h hq hp
  go_enter Tryd.func98, Tryd.ntmps98
  go_wp2_with fail
  refine (CF.out ok _ HS.out).mono ?_
  rintro e w1 ⟨rfl, s1, g1⟩
  rw [HQ.out]
  have HS1 := Lib.hid s1
  have HG1 := Lib.hid g1
  clear s1 g1
  cases q
  · go_wp2_with fail
    refine (CB.out ok _ _ HS1.out).mono ?_
    rintro e w2 ⟨rfl, s2, g2⟩
    have HS2 := Lib.hid s2
    have HG2 := Lib.hid g2
    clear s2 g2
    go_wp2_with fail
    rw [Bool.and_false]
    exact bodyPost_end (results_none Tryd.results98 _ _ _) rfl ⟨rfl, HS2.out, grown_trans HG1.out HG2.out⟩
  · go_wp2_with fail
    rw [Bool.and_true]
    exact bodyPost_end (results_none Tryd.results98 _ _ _) rfl ⟨rfl, HS1.out, HG1.out⟩
end Go.Proofs.YtbejafbpipdbjaaDoor
