/-
  The program's readers: of an operation, of a request. Condition: the listed variables hold what they must.
-/
import Derived.Test.YtbejafbpipdbjaaDoorUrlS
namespace Go.Proofs.YtbejafbpipdbjaaDoor
set_option maxRecDepth 4000
open Go.RowKit

/-- What scanAsk answers. -/
def GaveA (l : List UInt8) (w : World) (e : Ending) (w' : World) : Prop :=
  ((∃ a A c, askB a = true ∧ askT a = l ∧ opE.Own w' w.heap.size (.slice A a.ops.length c) a.ops ∧ e = .returned (.tuple #[askV A a.ops.length c a.path a.till, .nilIface])) ∨
    ((∀ a, askB a = true → askT a ≠ l) ∧ ∃ ev, ErrU w' ev ∧ e = .returned (.tuple #[.agg #[.slice none 0 0, .string ⟨#[]⟩, .int .i64 0], ev]))) ∧ Below w.heap.size w w'
theorem GaveAsk.a {l : List UInt8} {w w' : World} {e : Ending} (h : GaveAsk l w e w') : GaveA l w e w' := by
  obtain ⟨a, A, c, r, q, h1, h2, h3⟩ := h
  have hk := AskRd.of_scan h1
  refine ⟨?_, h3⟩
  rcases h2 with ⟨rfl, rfl, ho, he⟩ | ⟨hn, ev, hev, he⟩
  · rw [if_pos ⟨rfl, rfl⟩] at hk
    exact .inl ⟨a, A, c, hk.1, hk.2, ho, he⟩
  · rw [if_neg hn] at hk
    exact .inr ⟨hk, ev, hev, he⟩
theorem GaveOp.o {l : List UInt8} {w w' : World} {e : Ending} (h : GaveOp l w e w') :
    ((∃ o, opB o = true ∧ opT o = l ∧ e = .returned (.tuple #[o.v, .nilIface])) ∨ ((∀ o, opB o = true → opT o ≠ l) ∧ ∃ ev, ErrU w' ev ∧ e = .returned (.tuple #[.agg #[.int .i64 0, .int .i64 0, .int .i64 0, .int .i64 0, .int .i64 0], ev]))) ∧ Below w.heap.size w w' := by
  obtain ⟨o, r, q, h1, h2, h3⟩ := h
  have hk := OpRd.of_scan h1
  refine ⟨?_, h3⟩
  rcases h2 with ⟨rfl, rfl, he⟩ | ⟨hn, ev, hev, he⟩
  · rw [if_pos ⟨rfl, rfl⟩] at hk
    exact .inl ⟨o, hk.1, hk.2, he⟩
  · rw [if_neg hn] at hk
    exact .inr ⟨hk, ev, hev, he⟩
/-- What the reader of an operation answers. -/
def GaveO (l : List UInt8) (w : World) (e : Ending) (w' : World) : Prop :=
  ((∃ o, opB o = true ∧ opT o = l ∧ e = .returned (.tuple #[o.v, .bool true])) ∨ ((∀ o, opB o = true → opT o ≠ l) ∧ e = .returned (.tuple #[.agg #[.int .i64 0, .int .i64 0, .int .i64 0, .int .i64 0, .int .i64 0], .bool false]))) ∧ Below w.heap.size w w'
/-- What the reader of a request answers. -/
def GaveR (l : List UInt8) (w : World) (e : Ending) (w' : World) : Prop :=
  ((∃ a A c, askB a = true ∧ askT a = l ∧ opE.Own w' w.heap.size (.slice A a.ops.length c) a.ops ∧ e = .returned (.tuple #[askV A a.ops.length c a.path a.till, .bool true])) ∨
    ((∀ a, askB a = true → askT a ≠ l) ∧ e = .returned (.tuple #[.agg #[.slice none 0 0, .string ⟨#[]⟩, .int .i64 0], .bool false]))) ∧ Below w.heap.size w w'
set_option maxHeartbeats 1000000 in
theorem scanAsk_any (l : List UInt8) (B : Nat) (w : World) (hl : l.length ≤ 1048576) (hE : Env w B) (hB : B ≤ w.heap.size) :
    Calls Tryd.prog 60 #[.string (bs l)] w (GaveA l w) := by
  have b0 := alloc_below w (.cells #[.slice none 0 0, .string ⟨#[]⟩, .int .i64 0] 39)
  have HB0 := Lib.hid b0
  have HR0 : Hid (Box (w.alloc (.cells #[.slice none 0 0, .string ⟨#[]⟩, .int .i64 0] 39)) w.heap.size #[.slice none 0 0, .string ⟨#[]⟩, .int .i64 0] 39) := Lib.hid (Box.new w _ _)
  have CW := Lib.hid (wholeAsk_any l B _ hl (hE.below (b0.mono hB)) (Nat.le_trans hB b0.size))
  obtain ⟨n, hn⟩ : ∃ n, l.length = n := ⟨_, rfl⟩
  have sz : (bs l).size = n := by rw [bs_size, hn]
  have HN := Lib.hid hn
  clear hE hB b0 hl hn
  by_cases h2 : (n : Int) > 200
  · go_enter Tryd.func60, Tryd.ntmps60
    go_wp2_with fail
    have F3 := Box.new (w.alloc (.cells #[.slice none 0 0, .string ⟨#[]⟩, .int .i64 0] 39)) #[.int .i64 400, .string ⟨#[116, 111, 111, 32, 108, 111, 110, 103]⟩] 112
    have hsz : (w.alloc (.cells #[.slice none 0 0, .string ⟨#[]⟩, .int .i64 0] 39)).heap.size = w.heap.size + 1 := by simp
    rw [hsz] at F3
    refine bodyPost_ret (v := .tuple #[.agg #[.slice none 0 0, .string ⟨#[]⟩, .int .i64 0], .iface 110 (.pointer (some ⟨w.heap.size + 1, 0, none⟩))]) ?_ rfl ?_
    · exact results_row_tmp rfl _ _ w.heap.size 39 #[.slice none 0 0, .string ⟨#[]⟩, .int .i64 0] (0, 0) _ _ rfl rfl (HR0.out.alloc _) Tryd.underlying39 rfl (by kernel_rfl)
    exact ⟨.inr ⟨fun a ha he => by
      have := askT_len ha
      rw [he, HN.out] at this
      omega, _, ⟨_, _, rfl, F3⟩, rfl⟩, HB0.out.alloc HB0.out.size _⟩
  · go_enter Tryd.func60, Tryd.ntmps60
    go_wp2_with fail
    refine CW.out.mono ?_
    rintro e w1 hg
    obtain ⟨hc, b1⟩ := GaveAsk.a hg
    have HR1 := Lib.hid (HR0.out.next b1)
    have HB1 := Lib.hid (HB0.out.trans (b1.mono HB0.out.size))
    have y0 := HR1.out.cell (i := 0) rfl
    have y1 := HR1.out.cell (i := 1) rfl
    have y2 := HR1.out.cell (i := 2) rfl
    have z0 := HR1.out.free 0
    have z1 := HR1.out.free 1
    have z2 := HR1.out.free 2
    clear b1 hg
    rcases hc with ⟨a, A, c, h1, h3, ho, rfl⟩ | ⟨hno, ev, ⟨p, y, rfl, hp⟩, rfl⟩
    · have HA := Lib.hid (And.intro h1 h3)
      have HO := Lib.hid (El.Own.lower ho HB0.out.size)
      clear h1 h3 ho
      unfold askV
      go_wp2_with fail
      refine bodyPost_ret (v := .tuple #[.agg #[.slice A a.ops.length c, .string (bs a.path), .int .i64 a.till], .nilIface]) ?_ rfl ?_
      · exact results_row_tmp rfl _ _ w.heap.size 39 #[.slice A a.ops.length c, .string (bs a.path), .int .i64 a.till] (0, 0) _ _ rfl rfl (fin_ua HR1.out _ _ _) Tryd.underlying39 rfl (by kernel_rfl)
      exact ⟨.inl ⟨a, A, c, HA.out.1, HA.out.2, ownA_set (ownA_set (ownA_set HO.out HR1.out) (HR1.out.set 0 _)) ((HR1.out.set 0 _).set 1 _), rfl⟩, HB1.out.trans (below_of_grown_at (grown_ua _ _ _ _ _) (Nat.le_refl _) HB1.out.size)⟩
    · have HNO := Lib.hid hno
      have HP := Lib.hid hp
      clear hno hp
      go_wp2_with fail
      have F2 := ErrU.grown_other (⟨p, y, rfl, HP.out⟩ : ErrU w1 (.iface 110 (.pointer (some ⟨p, 0, none⟩)))) HR1.out (by decide) (grown_ua w1 w.heap.size (.slice none 0 0) (.string ⟨#[]⟩) (.int .i64 0))
      refine bodyPost_ret (v := .tuple #[.agg #[.slice none 0 0, .string ⟨#[]⟩, .int .i64 0], .iface 110 (.pointer (some ⟨p, 0, none⟩))]) ?_ rfl ?_
      · exact results_row_tmp rfl _ _ w.heap.size 39 #[.slice none 0 0, .string ⟨#[]⟩, .int .i64 0] (0, 0) _ _ rfl rfl (fin_ua HR1.out _ _ _) Tryd.underlying39 rfl (by kernel_rfl)
      exact ⟨.inr ⟨HNO.out, _, F2, rfl⟩, HB1.out.trans (below_of_grown_at (grown_ua _ _ _ _ _) (Nat.le_refl _) HB1.out.size)⟩
set_option maxHeartbeats 1000000 in
theorem opRead_any (l : List UInt8) (B : Nat) (w : World) (hl : l.length ≤ 1048576) (hE : Env w B) (hB : B ≤ w.heap.size) :
    Calls Tryd.prog 15 #[.string (bs l)] w (GaveO l w) := by
  have b0 := alloc_below w (.cells #[.int .i64 0, .int .i64 0, .int .i64 0, .int .i64 0, .int .i64 0] 25)
  have HB0 := Lib.hid b0
  have HR0 : Hid (Box (w.alloc (.cells #[.int .i64 0, .int .i64 0, .int .i64 0, .int .i64 0, .int .i64 0] 25)) w.heap.size #[.int .i64 0, .int .i64 0, .int .i64 0, .int .i64 0, .int .i64 0] 25) := Lib.hid (Box.new w _ _)
  have CW := Lib.hid (wholeOp_any l B _ hl (hE.below (b0.mono hB)) (Nat.le_trans hB b0.size))
  clear hE hB b0 hl
  go_enter Tryd.func15, Tryd.ntmps15
  go_wp2_with fail
  refine CW.out.mono ?_
  rintro e w1 hg
  obtain ⟨hc, b1⟩ := GaveOp.o hg
  have HR1 := Lib.hid (HR0.out.next b1)
  have HB1 := Lib.hid (HB0.out.trans (b1.mono HB0.out.size))
  have hRw := HR1.out.lt
  have y0 := HR1.out.cell (i := 0) rfl
  have z0 := HR1.out.free 0
  have y1 := HR1.out.cell (i := 1) rfl
  have z1 := HR1.out.free 1
  have y2 := HR1.out.cell (i := 2) rfl
  have z2 := HR1.out.free 2
  have y3 := HR1.out.cell (i := 3) rfl
  have z3 := HR1.out.free 3
  have y4 := HR1.out.cell (i := 4) rfl
  have z4 := HR1.out.free 4
  clear b1
  rcases hc with ⟨o, h1, h2, rfl⟩ | ⟨hno, ev, ⟨p, y, rfl, hp⟩, rfl⟩
  · have HA := Lib.hid (And.intro h1 h2)
    clear h1 h2 hg
    unfold Op.v
    go_wp2_with fail
    go_region
    all_goals go_wp2_with fail
    have F1 := HB1.out.trans (below_of_grown_at (grown_ur w1 w.heap.size (.int .i64 o.k) (.int .i64 o.a) (.int .i64 o.b) (.int .i64 o.c) (.int .i64 o.d)) (Nat.le_refl _) HB1.out.size)
    have F3 := fin_ur HR1.out (.int .i64 o.k) (.int .i64 o.a) (.int .i64 o.b) (.int .i64 o.c) (.int .i64 o.d)
    generalize (((((w1.setCell ⟨w.heap.size, 0, none⟩ (.int .i64 o.k)).setCell ⟨w.heap.size, 1, none⟩ (.int .i64 o.a)).setCell ⟨w.heap.size, 2, none⟩ (.int .i64 o.b)).setCell ⟨w.heap.size, 3, none⟩ (.int .i64 o.c)).setCell ⟨w.heap.size, 4, none⟩ (.int .i64 o.d)) = W1 at F1 F3 ⊢
    refine bodyPost_ret (v := .tuple #[.agg #[.int .i64 o.k, .int .i64 o.a, .int .i64 o.b, .int .i64 o.c, .int .i64 o.d], .bool true]) ?_ rfl ?_
    · exact results_row_tmp rfl _ _ w.heap.size 25 #[.int .i64 o.k, .int .i64 o.a, .int .i64 o.b, .int .i64 o.c, .int .i64 o.d] (0, 0) _ _ rfl rfl ((F3.alloc _).drew) Tryd.underlying25 rfl (by kernel_rfl)
    exact ⟨.inl ⟨o, HA.out.1, HA.out.2, rfl⟩, drew_below (F1.alloc F1.size _)⟩
  · have HNO := Lib.hid hno
    clear hno hp hg
    go_wp2_with fail
    go_region
    all_goals go_wp2_with fail
    have F1 := HB1.out.trans (below_of_grown_at (grown_ur w1 w.heap.size (.int .i64 0) (.int .i64 0) (.int .i64 0) (.int .i64 0) (.int .i64 0)) (Nat.le_refl _) HB1.out.size)
    have F3 := fin_ur HR1.out (.int .i64 0) (.int .i64 0) (.int .i64 0) (.int .i64 0) (.int .i64 0)
    generalize (((((w1.setCell ⟨w.heap.size, 0, none⟩ (.int .i64 0)).setCell ⟨w.heap.size, 1, none⟩ (.int .i64 0)).setCell ⟨w.heap.size, 2, none⟩ (.int .i64 0)).setCell ⟨w.heap.size, 3, none⟩ (.int .i64 0)).setCell ⟨w.heap.size, 4, none⟩ (.int .i64 0)) = W1 at F1 F3 ⊢
    refine bodyPost_ret (v := .tuple #[.agg #[.int .i64 0, .int .i64 0, .int .i64 0, .int .i64 0, .int .i64 0], .bool false]) ?_ rfl ?_
    · exact results_row_tmp rfl _ _ w.heap.size 25 #[.int .i64 0, .int .i64 0, .int .i64 0, .int .i64 0, .int .i64 0] (0, 0) _ _ rfl rfl ((F3.alloc _).drew) Tryd.underlying25 rfl (by kernel_rfl)
    exact ⟨.inr ⟨HNO.out, rfl⟩, drew_below (F1.alloc F1.size _)⟩
set_option maxHeartbeats 1000000 in
theorem askRead_any (l : List UInt8) (B : Nat) (w : World) (hl : l.length ≤ 1048576) (hE : Env w B) (hB : B ≤ w.heap.size) :
    Calls Tryd.prog 29 #[.string (bs l)] w (GaveR l w) := by
  have b0 := alloc_below w (.cells #[.slice none 0 0, .string ⟨#[]⟩, .int .i64 0] 39)
  have HB0 := Lib.hid b0
  have HR0 : Hid (Box (w.alloc (.cells #[.slice none 0 0, .string ⟨#[]⟩, .int .i64 0] 39)) w.heap.size #[.slice none 0 0, .string ⟨#[]⟩, .int .i64 0] 39) := Lib.hid (Box.new w _ _)
  have CW := Lib.hid (scanAsk_any l B _ hl (hE.below (b0.mono hB)) (Nat.le_trans hB b0.size))
  clear hE hB b0 hl
  go_enter Tryd.func29, Tryd.ntmps29
  go_wp2_with fail
  refine CW.out.mono ?_
  rintro e w1 ⟨hc, b1⟩
  have HR1 := Lib.hid (HR0.out.next b1)
  have HB1 := Lib.hid (HB0.out.trans (b1.mono HB0.out.size))
  have hRw := HR1.out.lt
  have y0 := HR1.out.cell (i := 0) rfl
  have z0 := HR1.out.free 0
  have y1 := HR1.out.cell (i := 1) rfl
  have z1 := HR1.out.free 1
  have y2 := HR1.out.cell (i := 2) rfl
  have z2 := HR1.out.free 2
  clear b1
  rcases hc with ⟨a, A, c, h1, h2, ho, rfl⟩ | ⟨hno, ev, ⟨p, y, rfl, hp⟩, rfl⟩
  · have HA := Lib.hid (And.intro h1 h2)
    have HO := Lib.hid (El.Own.lower ho HB0.out.size)
    clear h1 h2 ho
    unfold askV
    go_wp2_with fail
    go_region
    all_goals go_wp2_with fail
    have F1 := HB1.out.trans (below_of_grown_at (grown_ua w1 w.heap.size (.slice A a.ops.length c) (.string (bs a.path)) (.int .i64 a.till)) (Nat.le_refl _) HB1.out.size)
    have F3 := fin_ua HR1.out (.slice A a.ops.length c) (.string (bs a.path)) (.int .i64 a.till)
    have F4 := ownA_set (i := 2) (x := .int .i64 a.till) (ownA_set (i := 1) (x := .string (bs a.path)) (ownA_set (i := 0) (x := .slice A a.ops.length c) HO.out HR1.out) (HR1.out.set 0 _)) ((HR1.out.set 0 _).set 1 _)
    generalize (((w1.setCell ⟨w.heap.size, 0, none⟩ (.slice A a.ops.length c)).setCell ⟨w.heap.size, 1, none⟩ (.string (bs a.path))).setCell ⟨w.heap.size, 2, none⟩ (.int .i64 a.till)) = W1 at F1 F3 F4 ⊢
    refine bodyPost_ret (v := .tuple #[.agg #[.slice A a.ops.length c, .string (bs a.path), .int .i64 a.till], .bool true]) ?_ rfl ?_
    · exact results_row_tmp rfl _ _ w.heap.size 39 #[.slice A a.ops.length c, .string (bs a.path), .int .i64 a.till] (0, 0) _ _ rfl rfl ((F3.alloc _).drew) Tryd.underlying39 rfl (by kernel_rfl)
    exact ⟨.inl ⟨a, A, c, HA.out.1, HA.out.2, (F4.alloc _).drewN 1, rfl⟩, drew_below (F1.alloc F1.size _)⟩
  · have HNO := Lib.hid hno
    clear hno hp
    go_wp2_with fail
    go_region
    all_goals go_wp2_with fail
    have F1 := HB1.out.trans (below_of_grown_at (grown_ua w1 w.heap.size (.slice none 0 0) (.string ⟨#[]⟩) (.int .i64 0)) (Nat.le_refl _) HB1.out.size)
    have F3 := fin_ua HR1.out (.slice none 0 0) (.string ⟨#[]⟩) (.int .i64 0)
    generalize (((w1.setCell ⟨w.heap.size, 0, none⟩ (.slice none 0 0)).setCell ⟨w.heap.size, 1, none⟩ (.string ⟨#[]⟩)).setCell ⟨w.heap.size, 2, none⟩ (.int .i64 0)) = W1 at F1 F3 ⊢
    refine bodyPost_ret (v := .tuple #[.agg #[.slice none 0 0, .string ⟨#[]⟩, .int .i64 0], .bool false]) ?_ rfl ?_
    · exact results_row_tmp rfl _ _ w.heap.size 39 #[.slice none 0 0, .string ⟨#[]⟩, .int .i64 0] (0, 0) _ _ rfl rfl ((F3.alloc _).drew) Tryd.underlying39 rfl (by kernel_rfl)
    exact ⟨.inr ⟨HNO.out, rfl⟩, drew_below (F1.alloc F1.size _)⟩
end Go.Proofs.YtbejafbpipdbjaaDoor
