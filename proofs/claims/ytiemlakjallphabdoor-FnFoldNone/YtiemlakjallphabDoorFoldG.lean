/-
  slices.Grow of nothing, slices.Clone and slices.Concat of operations. Conditions as they stand.
-/
import Derived.Test.YtiemlakjallphabDoorFoldP
import Derived.Lib.AppendZeros
namespace Go.Proofs.YtiemlakjallphabDoor
set_option maxRecDepth 4000
open Go.RowKit

/-- An append whose answer is known. -/
theorem wpList_appendKnown {w w' : World} {ops : Array Oper} {rest : List Oper} {o : Oper} {a : Act} {Q : Exit → Act → World → Prop} (T tn : TypeId) (hgd : o.guard = none) (s x : Operand)
    (ho : o.op = .call { callee := .builtin .append, args := #[s, x], argTypes := #[T, tn] }) (v u r : Value) (hs : a.eval s = v) (hx : a.eval x = u)
    (hrun : (Builtin.append_ #[T, tn] o.type #[v, u]).run Tryd.prog w = .ok r w') (h : wpList Tryd.prog ops Q rest (a.put o.dst r) w') : wpList Tryd.prog ops Q (o :: rest) a w := by
  refine wpList_plain hgd fun K hK => ?_
  unfold Oper.wp
  simp [execOp, ho, resolve, invoke, builtin, hs, hx, hrun, Result.andThen]
  exact hK _ _ h
set_option maxHeartbeats 1000000 in
theorem growOp_any (n : Nat) (w : World) (hn : n ≤ 1000) :
    Calls Tryd.prog 111 #[.slice none 0 0, .int .i64 (n : Int)] w fun e w' => ∃ A c, e = .returned (.slice A 0 c) ∧ opE.Own w' w.heap.size (.slice A 0 c) [] ∧ Below w.heap.size w w' := by
  by_cases h0 : n = 0
  · subst h0
    go_enter Tryd.func111, Tryd.ntmps111
    go_wp2_with fail
    go_ret
    exact ⟨none, 0, rfl, El.own_nil opE _ _, Below.refl _ _⟩
  · obtain ⟨i0, hi, hz0, hz1, hz2⟩ := opE.parts
    have hz := Go.Lib.run_append_nil_zeros (P := Tryd.prog) w 34 3 34 49 i0 opE.z .i64 .i64 Tryd.underlying34 Tryd.underlying3 hi hz0 n (by omega) (by rw [hz1]; decide) (by omega) (by rw [hz2]; show n * 40 ≤ _; omega)
    have hc1 := grownCap_ge w n 0 49
    have hc2 := grownCap_le_maxLen w n 0 49 (by unfold maxLen; omega)
    have hsz : (Builtin.zeroCells opE.z.cells n ++ Builtin.zeroCells opE.z.cells (grownCap w n 0 49 - n)).size = grownCap w n 0 49 * 5 := by
      rw [Array.size_append, size_zeroCells, size_zeroCells]
      show n * 5 + _ * 5 = _
      omega
    obtain ⟨cap, hcap⟩ : ∃ cap, grownCap w n 0 49 = cap := ⟨_, rfl⟩
    rw [hcap] at hz hc1 hc2 hsz
    obtain ⟨cur, hcur⟩ : ∃ cur, Builtin.zeroCells opE.z.cells n ++ Builtin.zeroCells opE.z.cells (cap - n) = cur := ⟨_, rfl⟩
    rw [hcur] at hz hsz
    have HO : Hid (opE.Own (w.drew.alloc (.cells cur 49)) w.heap.size (.slice (some ⟨w.heap.size, 0, none⟩) 0 cap) []) := Lib.hid (World.ownsRow_made w.drew cur cap (Nat.le_refl _) hc2 hsz)
    have HB : Hid (Below w.heap.size w (w.drew.alloc (.cells cur 49))) := Lib.hid ((below_draws (Below.refl _ _) 1).alloc (Nat.le_refl _) _)
    have h1 : (0 : Int) < (n : Int) := by omega
    have h2 : (0 : Int) ≤ (0 : Int) ∧ (0 : Int) ≤ (cap : Int) := by omega
    clear hi hz0 hz1 hz2 hcap hcur hsz hc2 hc1
    go_enter Tryd.func111, Tryd.ntmps111
    have HZ := Lib.hid hz
    clear hz
    go_wp2_with (at_builtin; refine wpList_appendKnown 34 3 rfl (.tmp 20) (.tmp 21) rfl (.slice none 0 0) (.int .i64 (n : Int)) _ rfl rfl HZ.out ?_)
    go_ret
    exact ⟨_, _, rfl, HO.out, HB.out⟩
set_option maxHeartbeats 1000000 in
theorem cloneOp_any (A : Option Addr) (c : Nat) (l : List Op) (w : World) (hl : l.length ≤ 1000) (h : opE.Has w w.heap.size A l) :
    Calls Tryd.prog 48 #[.slice A l.length c] w fun e w' => ∃ A0 c0, e = .returned (.slice A0 l.length c0) ∧ opE.Own w' w.heap.size (.slice A0 l.length c0) l ∧ Below w.heap.size w w' := by
  have ho : opE.Own (w.alloc (.cells #[] 49)) w.heap.size (.slice (some ⟨w.heap.size, 0, none⟩) 0 0) [] := El.own_empty opE (Nat.le_refl _)
  have hb : Below w.heap.size w (w.alloc (.cells #[] 49)) := (Below.refl _ w).alloc (Nat.le_refl _) _
  have HO := Lib.hid ho
  have HB := Lib.hid hb
  have HH := Lib.hid (h.below hb)
  have HL := Lib.hid hl
  have hn : A = none → l = [] := fun e => by
    cases l with
    | nil => rfl
    | cons x t =>
      obtain ⟨b, o, y, e2, -⟩ := h.spot (k := 0) (Nat.zero_lt_succ _)
      rw [e] at e2
      cases e2
  clear ho hb h hl
  cases A with
  | none =>
    obtain rfl : l = [] := hn rfl
    have hnil : ∀ u, (binOp .eql 34 (.slice none 0 c) (.slice none 0 0)).run Tryd.prog u = .ok (.bool true) u := fun u => rfl
    clear hn
    go_enter Tryd.func48, Tryd.ntmps48
    go_wp2_with fail
    go_ret
    exact ⟨none, 0, rfl, El.own_nil opE _ _, Below.refl _ _⟩
  | some p =>
    have hnil : ∀ u, (binOp .eql 34 (.slice (some p) l.length c) (.slice none 0 0)).run Tryd.prog u = .ok (.bool false) u := fun u => rfl
    clear hn
    go_enter Tryd.func48, Tryd.ntmps48
    go_wp2_with (at_builtin; refine El.wpList_pushAll (E := opE) 34 Tryd.underlying34 rfl (.tmp 5) (.tmp 6) rfl w.heap.size (.slice (some ⟨w.heap.size, 0, none⟩) 0 0) [] rfl HO.out w.heap.size (some p) c l.length l rfl HH.out rfl (by have := HL.out; simp; omega) HB.out.size ?_; intro A3 c3 w3 ho3 hg3; rw [List.nil_append] at ho3; rw [List.nil_append]; have HE := Lib.hid (And.intro ho3 (HB.out.grown hg3 HB.out.size (fun q e => (World.ownsRow.lt HO.out q e).1))); clear ho3 hg3)
    go_ret
    exact ⟨A3, c3, rfl, HE.out.1, HE.out.2⟩
/-- The first k of three lengths, summed; the first k of three lists, joined. -/
def sum3 (a b c : Nat) : Nat → Nat
  | 0 => 0
  | 1 => a
  | 2 => a + b
  | _ => a + b + c
def join3 (a b c : List Op) : Nat → List Op
  | 0 => []
  | 1 => a
  | 2 => a ++ b
  | _ => a ++ b ++ c
set_option maxHeartbeats 4000000 in
theorem concatOp_any (g : Nat) (A1 A2 A3 : Option Addr) (c1 c2 c3 N1 N2 N3 : Nat) (m1 m2 m3 : List Op) (w : World) (H1 : m1.length = N1) (H2 : m2.length = N2) (H3 : m3.length = N3) (hl : N1 ≤ 100 ∧ N2 ≤ 100 ∧ N3 ≤ 100)
    (hg : Box w g #[.slice A1 N1 c1, .slice A2 N2 c2, .slice A3 N3 c3] 34) (h1 : opE.Has w w.heap.size A1 m1) (h2 : opE.Has w w.heap.size A2 m2) (h3 : opE.Has w w.heap.size A3 m3) :
    Calls Tryd.prog 82 #[.slice (some ⟨g, 0, none⟩) 3 3] w fun e w' => ∃ A c n, n = (m1 ++ m2 ++ m3).length ∧ e = .returned (.slice A n c) ∧ opE.Own w' w.heap.size (.slice A n c) (m1 ++ m2 ++ m3) ∧ Below w.heap.size w w' := by
  have HA := Lib.hid (And.intro H1 (And.intro H2 H3))
  have HL := Lib.hid hl
  have HH1 := Lib.hid fun u (hb : Below w.heap.size w u) => h1.below hb
  have HH2 := Lib.hid fun u (hb : Below w.heap.size w u) => h2.below hb
  have HH3 := Lib.hid fun u (hb : Below w.heap.size w u) => h3.below hb
  have HG := Lib.hid fun u (hb : Below w.heap.size w u) => Box.below hg hb hg.lt
  have a0 := hg.cell (i := 0) rfl
  have a1 := hg.cell (i := 1) rfl
  have a2 := hg.cell (i := 2) rfl
  have u1 : N1 ≤ 100 := hl.1
  have u2 : N2 ≤ 100 := hl.2.1
  have u3 : N3 ≤ 100 := hl.2.2
  have HJ1 : Hid ((m1 ++ m2).length = N1 + N2) := Lib.hid (by rw [List.length_append, H1, H2])
  have HJ2 : Hid ((m1 ++ m2 ++ m3).length = N1 + N2 + N3) := Lib.hid (by rw [List.length_append, HJ1.out, H3])
  have CG := Lib.hid (growOp_any (N1 + N2 + N3) w (by omega))
  clear H1 H2 H3 hl hg h1 h2 h3
  go_enter Tryd.func82, Tryd.ntmps82
  go_wp2_with fail
  go_loopw [3, 11] (fun s i wr => w = wr ∧ ∃ k : Nat, k ≤ 3 ∧ i = .int .i64 (k : Int) ∧ s = .int .i64 (sum3 N1 N2 N3 k : Int)) (fun _ i _ => 3 - (intOf i).toNat)
  case atStart => exact ⟨rfl, 0, by omega, rfl, rfl⟩
  case round =>
    obtain ⟨rfl, k, hk, rfl, rfl⟩ := hrel
    match k, hk with
    | 0, _ =>
      simp only [sum3]
      go_wp2_with fail
      go_roundw
      case rel => exact ⟨trivial, 1, by omega, by go_num, by simp⟩
      case measure => simp [intOf]
    | 1, _ =>
      simp only [sum3]
      go_wp2_with fail
      go_roundw
      case rel => exact ⟨trivial, 2, by omega, by go_num, by simp⟩
      case measure => simp [intOf]
    | 2, _ =>
      simp only [sum3]
      go_wp2_with fail
      go_roundw
      case rel => exact ⟨trivial, 3, by omega, by go_num, by simp⟩
      case measure => simp [intOf]
    | 3, _ =>
      simp only [sum3]
      have C1 := CG.out
      simp only [Int.natCast_add] at C1 ⊢
      go_wp2_with fail
      refine C1.mono ?_
      rintro e w1 ⟨A, c, rfl, ho, hb⟩
      have HO := Lib.hid ho
      have HB := Lib.hid hb
      clear ho hb C1 a0 a1 a2
      go_wp2_with fail
      go_loopw [6, 27] (fun v i wr => ∃ k : Nat, k ≤ 3 ∧ i = .int .i64 (k : Int) ∧ opE.Own wr w.heap.size v (join3 m1 m2 m3 k) ∧ Below w.heap.size w wr) (fun _ i _ => 3 - (intOf i).toNat)
      case atStart => exact ⟨0, by omega, rfl, HO.out, HB.out⟩
      case round =>
        obtain ⟨k, hk, rfl, ho, hb⟩ := hrel
        have HB2 := Lib.hid hb
        have hG := HG.out _ hb
        have a0 := hG.cell (i := 0) rfl
        have a1 := hG.cell (i := 1) rfl
        have a2 := hG.cell (i := 2) rfl
        clear hb hG
        match k, hk with
        | 0, _ =>
          have HO2 : Hid (opE.Own wr w.heap.size _ ([])) := Lib.hid ho
          clear ho
          go_wp2_with (at_builtin; refine El.wpList_pushAll (E := opE) 34 Tryd.underlying34 rfl (.tmp 31) (.tmp 32) rfl w.heap.size _ ([]) rfl HO2.out w.heap.size A1 c1 N1 m1 HA.out.1 (HH1.out _ HB2.out) rfl (by have := HA.out.1; simp only [List.length_nil] at *; omega) HB2.out.size ?_; intro A4 c4 w4 ho4 hg4; have HB4 := Lib.hid (HB2.out.grown hg4 HB2.out.size (fun q e => (World.ownsRow.lt HO2.out q e).1)); have HO4 := Lib.hid ho4; clear ho4 hg4)
          go_roundw
          case rel => exact ⟨1, by omega, by go_num, HO4.out, HB4.out⟩
          case measure => simp [intOf]
        | 1, _ =>
          have HO2 : Hid (opE.Own wr w.heap.size _ (m1)) := Lib.hid ho
          clear ho
          go_wp2_with (at_builtin; refine El.wpList_pushAll (E := opE) 34 Tryd.underlying34 rfl (.tmp 31) (.tmp 32) rfl w.heap.size _ (m1) rfl HO2.out w.heap.size A2 c2 N2 m2 HA.out.2.1 (HH2.out _ HB2.out) rfl (by have := HA.out.1; omega) HB2.out.size ?_; intro A4 c4 w4 ho4 hg4; obtain ⟨n4, hn4⟩ : ∃ n4, (m1 ++ m2).length = n4 := ⟨_, rfl⟩; rw [hn4] at ho4 ⊢; clear hn4; have HB4 := Lib.hid (HB2.out.grown hg4 HB2.out.size (fun q e => (World.ownsRow.lt HO2.out q e).1)); have HO4 := Lib.hid ho4; clear ho4 hg4)
          go_roundw
          case rel => exact ⟨2, by omega, by go_num, HO4.out, HB4.out⟩
          case measure => simp [intOf]
        | 2, _ =>
          have HO2 : Hid (opE.Own wr w.heap.size _ (m1 ++ m2)) := Lib.hid ho
          clear ho
          go_wp2_with (at_builtin; refine El.wpList_pushAll (E := opE) 34 Tryd.underlying34 rfl (.tmp 31) (.tmp 32) rfl w.heap.size _ (m1 ++ m2) rfl HO2.out w.heap.size A3 c3 N3 m3 HA.out.2.2 (HH3.out _ HB2.out) rfl (by have := HJ1.out; omega) HB2.out.size ?_; intro A4 c4 w4 ho4 hg4; obtain ⟨n4, hn4⟩ : ∃ n4, (m1 ++ m2 ++ m3).length = n4 := ⟨_, rfl⟩; rw [hn4] at ho4 ⊢; clear hn4; have HB4 := Lib.hid (HB2.out.grown hg4 HB2.out.size (fun q e => (World.ownsRow.lt HO2.out q e).1)); have HO4 := Lib.hid ho4; clear ho4 hg4)
          go_roundw
          case rel => exact ⟨3, by omega, by go_num, HO4.out, HB4.out⟩
          case measure => simp [intOf]
        | 3, _ =>
          obtain ⟨A4, c4, rfl, -, -⟩ := ho.has
          have HO2 : Hid (opE.Own wr w.heap.size _ (m1 ++ m2 ++ m3)) := Lib.hid ho
          clear ho
          go_wp2_with fail
          go_ret
          exact ⟨A4, c4, _, rfl, rfl, HO2.out, HB2.out⟩
end Go.Proofs.YtiemlakjallphabDoor
