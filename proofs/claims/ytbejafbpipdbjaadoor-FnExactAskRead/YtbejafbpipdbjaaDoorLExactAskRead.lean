/-
  FnExactAskRead: the program and the reference read every request alike, and what was read stays. Condition: the listed variables hold what they must.
-/
import Derived.Test.YtbejafbpipdbjaaDoorAskRT
import Derived.Test.YtbejafbpipdbjaaDoorAskM
namespace Go.Proofs.YtbejafbpipdbjaaDoor
set_option maxRecDepth 4000
open Go.RowKit

/-- What a text reads as, whoever reads it. -/
def ReadsAs (l : List UInt8) (x : Ask) (b : Bool) : Prop := (b = true ∧ askB x = true ∧ askT x = l) ∨ (b = false ∧ x = ⟨[], [], 0⟩ ∧ ∀ a, askB a = true → askT a ≠ l)
theorem readsAs (l : List UInt8) : ∃ x b, ReadsAs l x b ∧ x.ops.length ≤ 5 := by
  by_cases h : ∃ a, askB a = true ∧ askT a = l
  · obtain ⟨a, h1, h2⟩ := h
    exact ⟨a, true, .inl ⟨rfl, h1, h2⟩, (ask_parts h1).2.1⟩
  · exact ⟨⟨[], [], 0⟩, false, .inr ⟨rfl, rfl, fun a h1 h2 => h ⟨a, h1, h2⟩⟩, Nat.zero_le _⟩
theorem GaveR.one {l : List UInt8} {x : Ask} {b : Bool} {w w' : World} {e : Ending} (hx : ReadsAs l x b) (h : GaveR l w e w') :
    ∃ A c, e = .returned (.tuple #[.agg #[.slice A x.ops.length c, .string (bs x.path), .int .i64 x.till], .bool b]) ∧ opE.Own w' w.heap.size (.slice A x.ops.length c) x.ops ∧ Below w.heap.size w w' := by
  obtain ⟨h, hb⟩ := h
  rcases h with ⟨a, A, c, h1, h2, ho, he⟩ | ⟨hno, he⟩
  · rcases hx with ⟨rfl, k1, k2⟩ | ⟨rfl, -, k⟩
    · obtain rfl := ask_of_text h1 k1 (h2.trans k2.symm)
      exact ⟨A, c, he, ho, hb⟩
    · exact absurd h2 (k a h1)
  · rcases hx with ⟨rfl, k1, k2⟩ | ⟨rfl, rfl, k⟩
    · exact absurd k2 (hno x k1)
    · exact ⟨none, 0, he, El.own_nil opE w' w.heap.size, hb⟩
set_option maxHeartbeats 4000000 in
theorem fnExactAskRead_walk (l : List UInt8) (w : World) (hE : Env w w.heap.size) : Calls Tryd.prog 8 #[.string (bs l)] w fun e w' => e = .returned (.bool true) ∧ Below w.heap.size w w' := by
  obtain ⟨m, hm⟩ : ∃ m, l.length = m := ⟨_, rfl⟩
  have sz : (bs l).size = m := by rw [bs_size, hm]
  by_cases hbig : (m : Int) > 1048576
  · clear hE hm
    go_enter Tryd.func8, Tryd.ntmps8
    go_wp2_with fail
    go_ret
    exact ⟨rfl, Below.refl _ _⟩
  obtain ⟨x, b, hx, h5⟩ := readsAs l
  have CS := Lib.hid fun u => (specAskRead_any l u (by omega)).mono fun e w' h => GaveR.one hx h
  have CI := Lib.hid fun u (hb : Below w.heap.size w u) => (askRead_any l w.heap.size u (by omega) (hE.below hb) hb.size).mono fun e w' h => GaveR.one hx h
  have CE := Lib.hid fun A A' c c' u hh hh' => eqUrlAsk_same A A' c c' x.ops x.path x.till u (by omega) hh hh'
  have CM := Lib.hid fun A c base u hh => markUrlAsk_one A c x.ops x.path x.till base u (by omega) hh
  have CH := Lib.hid fun A c u hh => heldUrlAsk_one A c x.ops.length x.path x.till u (by omega) hh
  have hbb : (b != b) = false := bne_self_eq_false _
  unfold askV at CE CM CH
  obtain ⟨n, hn⟩ : ∃ n, x.ops.length = n := ⟨_, rfl⟩
  rw [hn] at CS CI CE CM CH h5
  have HN := Lib.hid hn
  have hz : ¬ (1 + 5 * (n : Int) < 0) := by omega
  clear hx hE hm hn h5
  obtain ⟨p, hp⟩ : ∃ p, x.path = p := ⟨_, rfl⟩
  obtain ⟨t, ht⟩ : ∃ t, x.till = t := ⟨_, rfl⟩
  rw [hp, ht] at CS CI CE CM CH
  clear hp ht
  go_enter Tryd.func8, Tryd.ntmps8
  go_wp2_with fail
  refine (CS.out _).mono ?_
  rintro e w1 ⟨A1, c1, rfl, o1, b1⟩
  -- the reference's, boxed
  have BM1 := Lib.hid (b1.alloc b1.size (.cells #[.slice A1 n c1, .string (bs p), .int .i64 t] 39))
  have XW1 : Hid (Box (w1.alloc (.cells #[.slice A1 n c1, .string (bs p), .int .i64 t] 39)) w1.heap.size #[.slice A1 n c1, .string (bs p), .int .i64 t] 39) := Lib.hid (Box.new w1 _ _)
  have HW1 := Lib.hid (El.Own.reads (o1.alloc (.cells #[.slice A1 n c1, .string (bs p), .int .i64 t] 39)))
  obtain ⟨g3, hg3⟩ : ∃ g3, w1.heap.size = g3 := ⟨_, rfl⟩
  rw [hg3] at XW1
  clear o1 b1 CS
  go_wp2_with fail
  -- the program's, boxed
  obtain ⟨M, hM⟩ : ∃ M, w1.alloc (.cells #[.slice A1 n c1, .string (bs p), .int .i64 t] 39) = M := ⟨_, rfl⟩
  rw [hM] at BM1 XW1 HW1 ⊢
  clear hM
  refine (CI.out _ BM1.out).mono ?_
  rintro e w4 ⟨A4, c4, rfl, o4, b4⟩
  have BA := Lib.hid (b4.alloc b4.size (.cells #[.slice A4 n c4, .string (bs p), .int .i64 t] 39))
  have BW := Lib.hid (BM1.out.trans (BA.out.mono BM1.out.size))
  have X5 : Hid (Box (w4.alloc (.cells #[.slice A4 n c4, .string (bs p), .int .i64 t] 39)) w4.heap.size #[.slice A4 n c4, .string (bs p), .int .i64 t] 39) := Lib.hid (Box.new w4 _ _)
  have O5 := Lib.hid (o4.alloc (.cells #[.slice A4 n c4, .string (bs p), .int .i64 t] 39))
  have HQ5 := Lib.hid (show ∀ q, (Value.slice A4 n c4).ownBlock = some q → q < w4.heap.size from fun q hq => (World.ownsRow.lt o4 q hq).2)
  have XW5 := Lib.hid (XW1.out.next BA.out)
  have HW5 := Lib.hid (HW1.out.carry BA.out (Nat.le_refl _) BA.out.size)
  clear o4 b4
  have x0 := X5.out.cell (i := 0) (v := .slice A4 n c4) rfl
  have x1 := X5.out.cell (i := 1) (v := .string (bs p)) rfl
  have x2 := X5.out.cell (i := 2) (v := .int .i64 t) rfl
  have y0 := XW5.out.cell (i := 0) (v := .slice A1 n c1) rfl
  have y1 := XW5.out.cell (i := 1) (v := .string (bs p)) rfl
  have y2 := XW5.out.cell (i := 2) (v := .int .i64 t) rfl
  go_wp2_with fail
  refine (CE.out _ _ _ _ _ (by have := O5.out.reads; exact this) HW5.out).mono ?_
  rintro e w6 ⟨rfl, b6⟩
  have BA6 := Lib.hid (BA.out.trans (b6.mono BA.out.size))
  have BW6 := Lib.hid (BW.out.trans (b6.mono BW.out.size))
  have X6 := Lib.hid (X5.out.next b6)
  have O6 := Lib.hid (O5.out.below b6 (Nat.le_refl _))
  clear b6 x0 x1 x2 y0 y1 y2 X5 O5 XW5 HW5 BA BW
  have x0 := X6.out.cell (i := 0) (v := .slice A4 n c4) rfl
  have x1 := X6.out.cell (i := 1) (v := .string (bs p)) rfl
  have x2 := X6.out.cell (i := 2) (v := .int .i64 t) rfl
  go_wp2_with fail
  refine (CM.out _ _ _ _ O6.out).mono ?_
  rintro e w7 ⟨rfl, o7, hg⟩
  have O6a := Lib.hid (O6.out.alloc (.cells #[.slice A4 n c4, .string (bs p), .int .i64 t] 39))
  have BA6a := Lib.hid (BA6.out.alloc BA6.out.size (.cells #[.slice A4 n c4, .string (bs p), .int .i64 t] 39))
  have BW6a := Lib.hid (BW6.out.alloc BW6.out.size (.cells #[.slice A4 n c4, .string (bs p), .int .i64 t] 39))
  have X6a := Lib.hid (X6.out.alloc (.cells #[.slice A4 n c4, .string (bs p), .int .i64 t] 39))
  have hb7 := El.Own.below_grown O6a.out hg (Nat.le_refl _) (by have := BA6a.out.size; exact this)
  have BA7 := Lib.hid (BA6a.out.trans hb7)
  have BW7 := Lib.hid (BW6a.out.trans (hb7.mono BM1.out.size))
  have X7 := Lib.hid (X6a.out.grown hg (fun e => Nat.lt_irrefl _ (HQ5.out _ e)))
  have O7 := Lib.hid o7
  clear o7 hg hb7 x0 x1 x2 O6 O6a BA6 BA6a BW6 BW6a X6 X6a CM
  have x0 := X7.out.cell (i := 0) (v := .slice A4 n c4) rfl
  have x1 := X7.out.cell (i := 1) (v := .string (bs p)) rfl
  have x2 := X7.out.cell (i := 2) (v := .int .i64 t) rfl
  go_wp2_with fail
  refine (CH.out _ _ _ (by have := O7.out.reads; exact this)).mono ?_
  rintro e w8 ⟨rfl, b8⟩
  have BA8 := Lib.hid (BA7.out.trans (b8.mono BA7.out.size))
  have BW8 := Lib.hid (BW7.out.trans (b8.mono BW7.out.size))
  have X8 := Lib.hid (X7.out.next b8)
  have O8 := Lib.hid (O7.out.below b8 (Nat.le_refl _))
  clear b8 x0 x1 x2 BA7 BW7 X7 O7
  go_wp2_with fail
  refine (CI.out _ BW8.out).mono ?_
  rintro e w9 ⟨A9, c9, rfl, o9, b9⟩
  have BZ := Lib.hid (b9.alloc b9.size (.cells #[.slice A9 n c9, .string (bs p), .int .i64 t] 39))
  have BA9 := Lib.hid (BA8.out.trans (BZ.out.mono BA8.out.size))
  have BW9 := Lib.hid (BW8.out.trans (BZ.out.mono BW8.out.size))
  have X9 := Lib.hid (X8.out.next BZ.out)
  have O9 := Lib.hid (O8.out.below BZ.out (Nat.le_refl _))
  have Z9 : Hid (Box (w9.alloc (.cells #[.slice A9 n c9, .string (bs p), .int .i64 t] 39)) w9.heap.size #[.slice A9 n c9, .string (bs p), .int .i64 t] 39) := Lib.hid (Box.new w9 _ _)
  have P9 := Lib.hid (El.Own.reads (o9.alloc (.cells #[.slice A9 n c9, .string (bs p), .int .i64 t] 39)))
  have XW9 := Lib.hid (XW1.out.next BA9.out)
  have HW9 := Lib.hid (HW1.out.carry BA9.out (Nat.le_refl _) BA9.out.size)
  clear o9 b9 BA8 BW8 X8 O8 BZ
  have x0 := Z9.out.cell (i := 0) (v := .slice A9 n c9) rfl
  have x1 := Z9.out.cell (i := 1) (v := .string (bs p)) rfl
  have x2 := Z9.out.cell (i := 2) (v := .int .i64 t) rfl
  have y0 := XW9.out.cell (i := 0) (v := .slice A1 n c1) rfl
  have y1 := XW9.out.cell (i := 1) (v := .string (bs p)) rfl
  have y2 := XW9.out.cell (i := 2) (v := .int .i64 t) rfl
  go_wp2_with fail
  refine (CE.out _ _ _ _ _ P9.out HW9.out).mono ?_
  rintro e w10 ⟨rfl, b10⟩
  have BW10 := Lib.hid (BW9.out.trans (b10.mono BW9.out.size))
  have X10 := Lib.hid (X9.out.next b10)
  have O10 := Lib.hid (O9.out.below b10 (Nat.le_refl _))
  clear b10 x0 x1 x2 y0 y1 y2 BA9 BW9 X9 O9 Z9 P9 XW9 HW9
  have x0 := X10.out.cell (i := 0) (v := .slice A4 n c4) rfl
  have x1 := X10.out.cell (i := 1) (v := .string (bs p)) rfl
  have x2 := X10.out.cell (i := 2) (v := .int .i64 t) rfl
  go_wp2_with fail
  refine (CH.out _ _ _ (by have := O10.out.reads; exact this)).mono ?_
  rintro e w11 ⟨rfl, b11⟩
  have BW11 := Lib.hid (BW10.out.trans (b11.mono BW10.out.size))
  clear b11 x0 x1 x2 BW10 X10 O10
  go_wp2_with fail
  go_ret
  exact ⟨rfl, BW11.out⟩
end Go.Proofs.YtbejafbpipdbjaaDoor
