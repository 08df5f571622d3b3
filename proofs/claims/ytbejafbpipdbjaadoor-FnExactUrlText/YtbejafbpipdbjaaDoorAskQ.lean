/-
  szUrlAsk counts a request, toUrlAsk copies it, eqUrlAsk tells that the same are the same. Conditions: the lengths fit an int; at most 2^30 operations.
-/
import Derived.Test.YtbejafbpipdbjaaDoorOpQ
import Derived.Test.YtbejafbpipdbjaaDoorOpIn
import Derived.Test.YtbejafbpipdbjaaDoorUrlQ
namespace Go.Proofs.YtbejafbpipdbjaaDoor
set_option maxRecDepth 4000
open Go.RowKit

theorem fin_ask {W : World} {R : Nat} {a b c : Value} {t : TypeId} (h : W.heap[R]? = some (.cells #[a, b, c] t (0, 0))) (x y z : Value) : (((W.setCell ⟨R, 0, none⟩ x).setCell ⟨R, 1, none⟩ y).setCell ⟨R, 2, none⟩ z).heap[R]? = some (.cells #[x, y, z] t (0, 0)) := by
  have h1 := Box.set h 0 x
  have h2 := Box.set h1 1 y
  have h3 := Box.set h2 2 z
  exact h3
theorem szUrlAsk_any (A : Option Addr) (n c : Nat) (p : List UInt8) (t M : Int) (w : World) (hM : 0 ≤ M ∧ M ≤ 1048576) (hn : n ≤ maxLen) (hp : (bs p).size ≤ maxLen) :
    Calls Tryd.prog 17 #[askV A n c p t, .int .i64 M] w fun e w' => e = .returned (.int .i64 (if (n : Int) + (p.length : Int) ≤ M then M - (n : Int) - (p.length : Int) else -1)) ∧ Below w.heap.size w w' := by
  have b0 : Below w.heap.size w (w.alloc (.cells #[.slice A n c, .string (bs p), .int .i64 t] 34)) := (Below.refl _ w).alloc (Nat.le_refl _) _
  have X0 : Hid (Box (w.alloc (.cells #[.slice A n c, .string (bs p), .int .i64 t] 34)) w.heap.size #[.slice A n c, .string (bs p), .int .i64 t] 34) := Lib.hid (Box.new w _ _)
  have HB := Lib.hid b0
  have CS := Lib.hid fun u => szOpOpS_any A n c M u hM hn
  obtain ⟨m, hm⟩ : ∃ m, p.length = m := ⟨_, rfl⟩
  have hz : (bs p).size = m := by rw [bs_size, hm]
  have HM := Lib.hid hm
  rw [hz] at hp
  rw [hm]
  have d0 := X0.out.cell (i := 0) (v := .slice A n c) rfl
  have d1 := X0.out.cell (i := 1) (v := .string (bs p)) rfl
  clear b0 hm
  unfold askV
  by_cases h : (n : Int) ≤ M
  · rw [if_pos h] at CS
    have u1 := IntWalk.i64_in (M - (n : Int) - (m : Int)) (by unfold maxLen at hp hn; omega)
    by_cases h2 : (n : Int) + (m : Int) ≤ M
    · rw [if_pos h2]
      have k1 : ¬ (M - (n : Int) < 0) := by omega
      have k2 : ¬ (M - (n : Int) - (m : Int) < 0) := by omega
      clear hn hp hM h h2
      go_enter Tryd.func17, Tryd.ntmps17
      go_wp2_with fail
      refine (CS.out _).mono ?_
      rintro e w1 ⟨rfl, rfl⟩
      go_wp2_with fail
      go_ret
      exact ⟨rfl, HB.out⟩
    · rw [if_neg h2]
      have k1 : ¬ (M - (n : Int) < 0) := by omega
      have k2 : M - (n : Int) - (m : Int) < 0 := by omega
      clear hn hp hM h h2
      go_enter Tryd.func17, Tryd.ntmps17
      go_wp2_with fail
      refine (CS.out _).mono ?_
      rintro e w1 ⟨rfl, rfl⟩
      go_wp2_with fail
      go_ret
      exact ⟨rfl, HB.out⟩
  · rw [if_neg h] at CS
    rw [if_neg (by omega)]
    clear hn hp hM h
    go_enter Tryd.func17, Tryd.ntmps17
    go_wp2_with fail
    refine (CS.out _).mono ?_
    rintro e w1 ⟨rfl, rfl⟩
    go_wp2_with fail
    go_ret
    exact ⟨rfl, HB.out⟩
set_option maxHeartbeats 1000000 in
theorem toUrlAsk_any (A : Option Addr) (c : Nat) (l : List Op) (p : List UInt8) (t : Int) (w : World) (hs : l.length ≤ 1073741824) (h : opL.Has w w.heap.size A l) :
    Calls Tryd.prog 19 #[askV A l.length c p t] w fun e w' => ∃ g, e = .returned (askV (some ⟨g, 0, none⟩) l.length l.length p t) ∧
      opE.Own w' w.heap.size (.slice (some ⟨g, 0, none⟩) l.length l.length) l ∧ Below w.heap.size w w' := by
  have CT := Lib.hid fun u (hb : Below w.heap.size w u) => toOpOpS_any A c l u hs (h.carry hb (Nat.le_refl _) hb.size)
  obtain ⟨n, hn⟩ : ∃ n, l.length = n := ⟨_, rfl⟩
  rw [hn] at CT hs ⊢
  unfold askV
  clear hn h hs
  go_enter Tryd.func19, Tryd.ntmps19
  go_wp2_with fail
  generalize hW : ((w.alloc (.cells #[.slice A n c, .string (bs p), .int .i64 t] 34)).alloc (.cells #[.slice none 0 0, .string ⟨#[]⟩, .int .i64 0] 39)).alloc (.cells #[.slice none 0 0, .string ⟨#[]⟩, .int .i64 0] 39) = w0
  have hb0 : Below w.heap.size w w0 := by rw [← hW]; exact (((Below.refl _ w).alloc (Nat.le_refl _) _).alloc (by simp) _).alloc (by simp; omega) _
  have hsz : w0.heap.size = w.heap.size + 3 := by rw [← hW]; simp
  have X0 : Hid (Box w0 w.heap.size #[.slice A n c, .string (bs p), .int .i64 t] 34) := Lib.hid (by rw [← hW]; exact ((Box.new w _ _).alloc _).alloc _)
  have hx : Box w0 (w.heap.size + 1) #[.slice none 0 0, .string ⟨#[]⟩, .int .i64 0] 39 := by
    rw [← hW]
    have := (Box.new (w.alloc (.cells #[.slice A n c, .string (bs p), .int .i64 t] 34)) #[.slice none 0 0, .string ⟨#[]⟩, .int .i64 0] 39).alloc (.cells #[.slice none 0 0, .string ⟨#[]⟩, .int .i64 0] 39)
    simpa using this
  have hy : Box w0 (w.heap.size + 1 + 1) #[.slice none 0 0, .string ⟨#[]⟩, .int .i64 0] 39 := by
    rw [← hW]
    have := Box.new ((w.alloc (.cells #[.slice A n c, .string (bs p), .int .i64 t] 34)).alloc (.cells #[.slice none 0 0, .string ⟨#[]⟩, .int .i64 0] 39)) #[.slice none 0 0, .string ⟨#[]⟩, .int .i64 0] 39
    simpa using this
  clear hW
  refine (CT.out _ hb0).mono ?_
  rintro e w1 ⟨rfl, ho, b1⟩
  have X1 := Lib.hid (X0.out.next b1)
  have HX := Lib.hid (hx.next b1)
  have HY := Lib.hid (hy.next b1)
  have HB := Lib.hid (hb0.trans (b1.mono hb0.size))
  have hne : ¬ w.heap.size + 1 = w.heap.size + 1 + 1 := by omega
  have hoz : ∃ g, w0.heap.size = g ∧ w.heap.size + 3 ≤ g ∧ opE.Own w1 g (.slice (some ⟨g, 0, none⟩) n n) l := ⟨_, rfl, by omega, ho⟩
  obtain ⟨g, hg, hgl, hog⟩ := hoz
  rw [hg]
  have HO := Lib.hid hog
  clear b1 hx hy hb0 ho hsz hg hog CT X0
  have d1 := X1.out.cell (i := 1) (v := .string (bs p)) rfl
  have d2 := X1.out.cell (i := 2) (v := .int .i64 t) rfl
  have x0 := HX.out.cell (i := 0) (v := .slice none 0 0) rfl
  have x1 := HX.out.cell (i := 1) (v := .string ⟨#[]⟩) rfl
  have x2 := HX.out.cell (i := 2) (v := .int .i64 0) rfl
  have y0 := HY.out.cell (i := 0) (v := .slice none 0 0) rfl
  have y1 := HY.out.cell (i := 1) (v := .string ⟨#[]⟩) rfl
  have y2 := HY.out.cell (i := 2) (v := .int .i64 0) rfl
  have f0 : w1.frozen? ⟨w.heap.size + 1, 0, none⟩ = false := HX.out.free 0
  have f1 : w1.frozen? ⟨w.heap.size + 1, 1, none⟩ = false := HX.out.free 1
  have f2 : w1.frozen? ⟨w.heap.size + 1, 2, none⟩ = false := HX.out.free 2
  have g0 : w1.frozen? ⟨w.heap.size + 1 + 1, 0, none⟩ = false := HY.out.free 0
  have g1 : w1.frozen? ⟨w.heap.size + 1 + 1, 1, none⟩ = false := HY.out.free 1
  have g2 : w1.frozen? ⟨w.heap.size + 1 + 1, 2, none⟩ = false := HY.out.free 2
  go_wp2_with fail
  (try simp only [Exit.inBlock, Exit.then])
  have HX2 := Lib.hid (Box.set_other (b := w.heap.size + 1 + 1) (Box.set_other (b := w.heap.size + 1 + 1) (Box.set_other (b := w.heap.size + 1 + 1) HX.out (by omega) 0 (.slice (some ⟨g, 0, none⟩) n n)) (by omega) 1 (.string (bs p))) (by omega) 2 (.int .i64 t))
  refine bodyPost_ret (results_cell_row rfl _ _ (w.heap.size + 1) 39 #[.slice (some ⟨g, 0, none⟩) n n, .string (bs p), .int .i64 t] (0, 0) _ rfl (fin_ask HX2.out _ _ _) Tryd.underlying39 rfl (by kernel_rfl)) rfl ?_
  refine ⟨g, rfl, ?_, (((((HB.out.setCell (by simp; omega) _).setCell (by simp; omega) _).setCell (by simp; omega) _).setCell (by simp) _).setCell (by simp) _).setCell (by simp) _⟩
  exact (((((((HO.out.set_low (by omega) 0).set_low (by omega) 1).set_low (by omega) 2).set_low (by omega) 0).set_low (by omega) 1).set_low (by omega) 2)).lower (by omega)
set_option maxHeartbeats 1000000 in
theorem eqUrlAsk_same (A A' : Option Addr) (c c' : Nat) (l : List Op) (p : List UInt8) (t : Int) (w : World) (hs : l.length ≤ 1073741824) (h : opE.Has w w.heap.size A l) (h' : opE.Has w w.heap.size A' l) :
    Calls Tryd.prog 21 #[askV A l.length c p t, askV A' l.length c' p t] w fun e w' => e = .returned (.bool true) ∧ Below w.heap.size w w' := by
  obtain ⟨n, hn⟩ : ∃ n, l.length = n := ⟨_, rfl⟩
  have b0 : Below w.heap.size w ((w.alloc (.cells #[.slice A n c, .string (bs p), .int .i64 t] 39)).alloc (.cells #[.slice A' n c', .string (bs p), .int .i64 t] 39)) := ((Below.refl _ w).alloc (Nat.le_refl _) _).alloc (by simp) _
  have C := Lib.hid (eqOpOpS_same A A' c c' l _ hs (h.carry b0 (Nat.le_refl _) b0.size) (h'.carry b0 (Nat.le_refl _) b0.size))
  rw [hn] at C ⊢
  have X : Hid (Box ((w.alloc (.cells #[.slice A n c, .string (bs p), .int .i64 t] 39)).alloc (.cells #[.slice A' n c', .string (bs p), .int .i64 t] 39)) w.heap.size #[.slice A n c, .string (bs p), .int .i64 t] 39) := Lib.hid ((Box.new w _ _).alloc _)
  have Y : Hid (Box ((w.alloc (.cells #[.slice A n c, .string (bs p), .int .i64 t] 39)).alloc (.cells #[.slice A' n c', .string (bs p), .int .i64 t] 39)) (w.heap.size + 1) #[.slice A' n c', .string (bs p), .int .i64 t] 39) := Lib.hid (by
    have := Box.new (w.alloc (.cells #[.slice A n c, .string (bs p), .int .i64 t] 39)) #[.slice A' n c', .string (bs p), .int .i64 t] 39
    simpa using this)
  have HB := Lib.hid b0
  have hq : ∀ a : List UInt8, ((bs a).toList == (bs a).toList) = true := fun a => by simp
  unfold askV
  clear h h' hs b0 hn
  go_enter Tryd.func21, Tryd.ntmps21
  go_wp2_with fail
  refine C.out.mono ?_
  rintro e w1 ⟨rfl, b1⟩
  have HB1 := Lib.hid (HB.out.trans (b1.mono HB.out.size))
  have X1 := Lib.hid (X.out.next b1)
  have Y1 := Lib.hid (Y.out.next b1)
  have d1 := X1.out.cell (i := 1) (v := .string (bs p)) rfl
  have d2 := X1.out.cell (i := 2) (v := .int .i64 t) rfl
  have y1 := Y1.out.cell (i := 1) (v := .string (bs p)) rfl
  have y2 := Y1.out.cell (i := 2) (v := .int .i64 t) rfl
  clear b1 C HB X Y
  go_wp2_with fail
  go_ret
  exact ⟨rfl, HB1.out⟩
end Go.Proofs.YtbejafbpipdbjaaDoor
