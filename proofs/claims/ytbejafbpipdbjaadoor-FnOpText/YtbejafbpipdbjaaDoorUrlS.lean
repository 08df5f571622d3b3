/-
  The program reads whole texts: one operation, or one request, and nothing behind it. Condition: the listed variables hold what they must.
-/
import Derived.Test.YtbejafbpipdbjaaDoorUrlR
import Derived.Test.YtbejafbpipdbjaaDoorRes
namespace Go.Proofs.YtbejafbpipdbjaaDoor
set_option maxRecDepth 4000
open Go.RowKit

/-- An error of a malformed text. -/
def ErrU (w : World) (ev : Value) : Prop := ∃ p y, ev = .iface 110 (.pointer (some ⟨p, 0, none⟩)) ∧ Box w p #[.int .i64 400, .string y] 112
theorem ErrU.next {w w' : World} {ev : Value} (h : ErrU w ev) (hb : Below w.heap.size w w') : ErrU w' ev := by
  obtain ⟨p, y, h1, h2⟩ := h
  exact ⟨p, y, h1, h2.next hb⟩
theorem Bad.err {w : World} {ev : Value} (h : Bad w ev false) : ErrU w ev := by
  rcases h with ⟨h, _⟩ | ⟨_, p, y, h1, h2⟩
  · cases h
  · exact ⟨p, y, h1, h2⟩
theorem Bad.good {w : World} {ev : Value} (h : Bad w ev true) : ev = .nilIface := by
  rcases h with ⟨_, h⟩ | ⟨h, _⟩
  · exact h
  · cases h
theorem alloc_below (w : World) (o : Obj) : Below w.heap.size w (w.alloc o) := (Below.refl _ w).alloc (Nat.le_refl _) o
theorem drew_below {B : Nat} {a w : World} (h : Below B a w) : Below B a w.drew := ⟨h.os, h.tape, h.output, h.size, h.block⟩
theorem scn_new {w : World} {l : List UInt8} : Sc (w.alloc (.cells #[.string (bs l), .nilIface] 101)) w.heap.size l true := ⟨.nilIface, Box.new w _ _, .inl ⟨rfl, rfl⟩⟩
theorem ErrU.grown_other {w w' : World} {ev : Value} {R : Nat} {cs : Array Value} {t : TypeId} (h : ErrU w ev) (hx : Box w R cs t) (ht : t ≠ 112) (hg : w.grownBy w' (some R)) : ErrU w' ev := by
  obtain ⟨p, y, h1, h2⟩ := h
  refine ⟨p, y, h1, h2.grown hg ?_⟩
  intro e
  have e := Option.some.inj e
  subst e
  unfold Box at hx h2
  rw [hx] at h2
  injection h2 with h2
  injection h2 with _ k4 _
  exact ht k4
/-- What scanWhole of Op answers. -/
def GaveOp (l : List UInt8) (w : World) (e : Ending) (w' : World) : Prop :=
  ∃ o r q, OpR l o r q ∧ ((r = [] ∧ q = true ∧ e = .returned (.tuple #[o.v, .nilIface])) ∨ (¬ (r = [] ∧ q = true) ∧ ∃ ev, ErrU w' ev ∧ e = .returned (.tuple #[.agg #[.int .i64 0, .int .i64 0, .int .i64 0, .int .i64 0, .int .i64 0], ev]))) ∧ Below w.heap.size w w'
set_option maxHeartbeats 4000000 in
theorem wholeOp_any (l : List UInt8) (B : Nat) (w : World) (hl : l.length ≤ 1048576) (hE : Env w B) (hB : B ≤ w.heap.size) :
    Calls Tryd.prog 45 #[.string (bs l), .func (.func 46) #[] #[]] w (GaveOp l w) := by
  have b0 : Below w.heap.size w ((w.alloc (.cells #[.int .i64 0, .int .i64 0, .int .i64 0, .int .i64 0, .int .i64 0] 25)).alloc (.cells #[.string (bs l), .nilIface] 101)) := ((Below.refl _ w).alloc (Nat.le_refl _) _).alloc (by simp) _
  obtain ⟨g, hg⟩ : ∃ g, w.heap.size + 1 = g := ⟨_, rfl⟩
  have HS0 : Hid (Sc ((w.alloc (.cells #[.int .i64 0, .int .i64 0, .int .i64 0, .int .i64 0, .int .i64 0] 25)).alloc (.cells #[.string (bs l), .nilIface] 101)) g l true) := Lib.hid (by
    have := scn_new (w := w.alloc (.cells #[.int .i64 0, .int .i64 0, .int .i64 0, .int .i64 0, .int .i64 0] 25)) (l := l)
    rw [← hg]
    simpa using this)
  have HR0 : Hid (Box ((w.alloc (.cells #[.int .i64 0, .int .i64 0, .int .i64 0, .int .i64 0, .int .i64 0] 25)).alloc (.cells #[.string (bs l), .nilIface] 101)) w.heap.size #[.int .i64 0, .int .i64 0, .int .i64 0, .int .i64 0, .int .i64 0] 25) := Lib.hid ((Box.new w _ _).alloc _)
  have CP := Lib.hid fun (u : World) (hs : Sc u g l true) (hb : Below w.heap.size w u) => op_any g w.heap.size l true u hl hs ((hE.up hB).below hb) (by omega)
  have CB := Lib.hid fun (m : List UInt8) => fail_any g m
  have HB0 := Lib.hid b0
  have HG := Lib.hid hg
  clear hl hE hB b0
  go_enter Tryd.func45, Tryd.ntmps45
  go_wp2_with fail
  clear hg
  refine (CP.out _ HS0.out HB0.out).mono ?_
  rintro e w1 ⟨o, r, q, hop, rfl, hrl, ⟨ev, hs1, hbad⟩, g1⟩
  unfold Op.v
  have hgR : (some g : Option Nat) ≠ some w.heap.size := by have := HG.out; intro e; injection e; omega
  have HR1 := Lib.hid (HR0.out.grown g1 hgR)
  have HB1 := Lib.hid (HB0.out.trans (below_of_grown_at g1 (by have := HG.out; omega) HB0.out.size))
  have HOP := Lib.hid hop
  have HS1 := Lib.hid hs1
  have HBD := Lib.hid hbad
  have c0 := hs1.cell (i := 0) (v := .string (bs r)) rfl
  have c1 := hs1.cell (i := 1) (v := ev) rfl
  have hlt := hs1.lt
  have hRg : w.heap.size < g := by have := HG.out; omega
  clear hop hs1 hbad g1 HS0 HR0 HB0
  have y0 := HR1.out.cell (i := 0) rfl
  have z0 := HR1.out.free 0
  have y1 := HR1.out.cell (i := 1) rfl
  have z1 := HR1.out.free 1
  have y2 := HR1.out.cell (i := 2) rfl
  have z2 := HR1.out.free 2
  have y3 := HR1.out.cell (i := 3) rfl
  have z3 := HR1.out.free 3
  have y4 := HR1.out.cell (i := 4) rfl
  have z4 := HR1.out.free 4
  have hRw := HR1.out.lt
  have HRW := Lib.hid hRw
  by_cases hr : r = []
  · subst hr
    have hemp : (bs ([] : List UInt8)).toList.isEmpty = true := by rw [bs_toList]; rfl
    cases q
    · obtain ⟨p, y, rfl, hp⟩ := HBD.out.err
      have HP := Lib.hid hp
      clear hp
      go_wp2_with fail
      go_region
      all_goals go_wp2_with fail
      have F1 := HB1.out.trans (below_of_grown_at (grown_ur w1 w.heap.size (.int .i64 0) (.int .i64 0) (.int .i64 0) (.int .i64 0) (.int .i64 0)) (Nat.le_refl _) HB1.out.size)
      have F2 := ErrU.grown_other (⟨p, y, rfl, HP.out⟩ : ErrU w1 (.iface 110 (.pointer (some ⟨p, 0, none⟩)))) HR1.out (by decide) (grown_ur w1 w.heap.size (.int .i64 0) (.int .i64 0) (.int .i64 0) (.int .i64 0) (.int .i64 0))
      have F3 := fin_ur HR1.out (.int .i64 0) (.int .i64 0) (.int .i64 0) (.int .i64 0) (.int .i64 0)
      generalize (((((w1.setCell ⟨w.heap.size, 0, none⟩ (.int .i64 0)).setCell ⟨w.heap.size, 1, none⟩ (.int .i64 0)).setCell ⟨w.heap.size, 2, none⟩ (.int .i64 0)).setCell ⟨w.heap.size, 3, none⟩ (.int .i64 0)).setCell ⟨w.heap.size, 4, none⟩ (.int .i64 0)) = W1 at F1 F2 F3 ⊢
      (try simp only [Exit.inBlock, Exit.then])
      refine bodyPost_ret (v := .tuple #[.agg #[.int .i64 0, .int .i64 0, .int .i64 0, .int .i64 0, .int .i64 0], .iface 110 (.pointer (some ⟨p, 0, none⟩))]) ?_ rfl ?_
      · exact results_row_tmp rfl _ _ w.heap.size 25 #[.int .i64 0, .int .i64 0, .int .i64 0, .int .i64 0, .int .i64 0] (0, 0) _ _ rfl rfl ((F3.alloc _).alloc _) Tryd.underlying25 rfl (by kernel_rfl)
      have F4 := F1.alloc F1.size (.cells #[.int .i64 o.k, .int .i64 o.a, .int .i64 o.b, .int .i64 o.c, .int .i64 o.d] 25)
      have F5 := F2.next (alloc_below W1 (.cells #[.int .i64 o.k, .int .i64 o.a, .int .i64 o.b, .int .i64 o.c, .int .i64 o.d] 25))
      generalize W1.alloc (.cells #[.int .i64 o.k, .int .i64 o.a, .int .i64 o.b, .int .i64 o.c, .int .i64 o.d] 25) = W2 at F4 F5 ⊢
      exact ⟨o, [], false, HOP.out, .inr ⟨fun h => (by cases h.2), _, F5.next (drew_below (alloc_below W2 _)), rfl⟩, drew_below (F4.alloc F4.size _)⟩
    · obtain rfl := HBD.out.good
      go_wp2_with fail
      (try simp only [Exit.inBlock, Exit.then])
      refine bodyPost_ret (v := .tuple #[.agg #[.int .i64 o.k, .int .i64 o.a, .int .i64 o.b, .int .i64 o.c, .int .i64 o.d], .nilIface]) ?_ rfl ?_
      · exact results_row_tmp rfl _ _ w.heap.size 25 #[.int .i64 o.k, .int .i64 o.a, .int .i64 o.b, .int .i64 o.c, .int .i64 o.d] (0, 0) _ .nilIface rfl rfl ((fin_ur HR1.out _ _ _ _ _).alloc _) Tryd.underlying25 rfl (by kernel_rfl)
      exact ⟨o, [], true, HOP.out, .inl ⟨rfl, rfl, rfl⟩, (HB1.out.trans (below_of_grown_at (grown_ur _ _ _ _ _ _ _) (Nat.le_refl _) HB1.out.size)).alloc (Nat.le_trans HB1.out.size (grown_ur _ _ _ _ _ _ _).size) _⟩
  · have hemp : (bs r).toList.isEmpty = false := by
      rw [bs_toList]
      cases r with
      | nil => exact absurd rfl hr
      | cons x r => rfl
    have HNE := Lib.hid hr
    have HSA := Lib.hid (Sc.next ⟨ev, HS1.out, HBD.out⟩ ((Below.refl _ w1).alloc (Nat.le_refl _) (.cells #[.int .i64 o.k, .int .i64 o.a, .int .i64 o.b, .int .i64 o.c, .int .i64 o.d] 25)))
    have HRA := Lib.hid (HR1.out.alloc (.cells #[.int .i64 o.k, .int .i64 o.a, .int .i64 o.b, .int .i64 o.c, .int .i64 o.d] 25))
    have HBA := Lib.hid (HB1.out.alloc HB1.out.size (.cells #[.int .i64 o.k, .int .i64 o.a, .int .i64 o.b, .int .i64 o.c, .int .i64 o.d] 25))
    clear hr
    go_wp2_with fail
    refine (CB.out r _ _ _ HSA.out).mono ?_
    rintro e w2 ⟨rfl, ⟨ev2, hs2, hb2⟩, g2⟩
    obtain ⟨p, y, rfl, hp⟩ := hb2.err
    have HP := Lib.hid hp
    have HR2 := Lib.hid (HRA.out.grown g2 hgR)
    have HB2 := Lib.hid (HBA.out.trans (below_of_grown_at g2 (by omega) HBA.out.size))
    have d1 := hs2.cell (i := 1) rfl
    have hlt2 := hs2.lt
    clear hp hs2 hb2 g2 c0 c1 hemp y0 z0 y1 z1 y2 z2 y3 z3 y4 z4 hRw HRA HBA HSA
    have y0 := HR2.out.cell (i := 0) rfl
    have z0 := HR2.out.free 0
    have y1 := HR2.out.cell (i := 1) rfl
    have z1 := HR2.out.free 1
    have y2 := HR2.out.cell (i := 2) rfl
    have z2 := HR2.out.free 2
    have y3 := HR2.out.cell (i := 3) rfl
    have z3 := HR2.out.free 3
    have y4 := HR2.out.cell (i := 4) rfl
    have z4 := HR2.out.free 4
    have hRw2 := HR2.out.lt
    go_wp2_with fail
    go_region
    all_goals go_wp2_with fail
    have F1 := HB2.out.trans (below_of_grown_at (grown_ur w2 w.heap.size (.int .i64 0) (.int .i64 0) (.int .i64 0) (.int .i64 0) (.int .i64 0)) (Nat.le_refl _) HB2.out.size)
    have F2 := ErrU.grown_other (⟨p, y, rfl, HP.out⟩ : ErrU w2 (.iface 110 (.pointer (some ⟨p, 0, none⟩)))) HR2.out (by decide) (grown_ur w2 w.heap.size (.int .i64 0) (.int .i64 0) (.int .i64 0) (.int .i64 0) (.int .i64 0))
    have F3 := fin_ur HR2.out (.int .i64 0) (.int .i64 0) (.int .i64 0) (.int .i64 0) (.int .i64 0)
    generalize (((((w2.setCell ⟨w.heap.size, 0, none⟩ (.int .i64 0)).setCell ⟨w.heap.size, 1, none⟩ (.int .i64 0)).setCell ⟨w.heap.size, 2, none⟩ (.int .i64 0)).setCell ⟨w.heap.size, 3, none⟩ (.int .i64 0)).setCell ⟨w.heap.size, 4, none⟩ (.int .i64 0)) = W1 at F1 F2 F3 ⊢
    (try simp only [Exit.inBlock, Exit.then])
    refine bodyPost_ret (v := .tuple #[.agg #[.int .i64 0, .int .i64 0, .int .i64 0, .int .i64 0, .int .i64 0], .iface 110 (.pointer (some ⟨p, 0, none⟩))]) ?_ rfl ?_
    · exact results_row_tmp rfl _ _ w.heap.size 25 #[.int .i64 0, .int .i64 0, .int .i64 0, .int .i64 0, .int .i64 0] (0, 0) _ _ rfl rfl (F3.alloc _) Tryd.underlying25 rfl (by kernel_rfl)
    exact ⟨o, r, q, HOP.out, .inr ⟨fun h => HNE.out h.1, _, F2.next (drew_below (alloc_below W1 _)), rfl⟩, drew_below (F1.alloc F1.size _)⟩
/-- What scanWhole of Ask answers. -/
def GaveAsk (l : List UInt8) (w : World) (e : Ending) (w' : World) : Prop :=
  ∃ a A c r q, AskR l a r q ∧ ((r = [] ∧ q = true ∧ opE.Own w' w.heap.size (.slice A a.ops.length c) a.ops ∧ e = .returned (.tuple #[askV A a.ops.length c a.path a.till, .nilIface])) ∨ (¬ (r = [] ∧ q = true) ∧ ∃ ev, ErrU w' ev ∧ e = .returned (.tuple #[.agg #[.slice none 0 0, .string ⟨#[]⟩, .int .i64 0], ev]))) ∧ Below w.heap.size w w'
set_option maxHeartbeats 4000000 in
theorem wholeAsk_any (l : List UInt8) (B : Nat) (w : World) (hl : l.length ≤ 1048576) (hE : Env w B) (hB : B ≤ w.heap.size) :
    Calls Tryd.prog 83 #[.string (bs l), .func (.func 84) #[] #[]] w (GaveAsk l w) := by
  have b0 : Below w.heap.size w ((w.alloc (.cells #[.slice none 0 0, .string ⟨#[]⟩, .int .i64 0] 39)).alloc (.cells #[.string (bs l), .nilIface] 101)) := ((Below.refl _ w).alloc (Nat.le_refl _) _).alloc (by simp) _
  obtain ⟨g, hg⟩ : ∃ g, w.heap.size + 1 = g := ⟨_, rfl⟩
  have HS0 : Hid (Sc ((w.alloc (.cells #[.slice none 0 0, .string ⟨#[]⟩, .int .i64 0] 39)).alloc (.cells #[.string (bs l), .nilIface] 101)) g l true) := Lib.hid (by
    have := scn_new (w := w.alloc (.cells #[.slice none 0 0, .string ⟨#[]⟩, .int .i64 0] 39)) (l := l)
    rw [← hg]
    simpa using this)
  have HR0 : Hid (Box ((w.alloc (.cells #[.slice none 0 0, .string ⟨#[]⟩, .int .i64 0] 39)).alloc (.cells #[.string (bs l), .nilIface] 101)) w.heap.size #[.slice none 0 0, .string ⟨#[]⟩, .int .i64 0] 39) := Lib.hid ((Box.new w _ _).alloc _)
  have CP := Lib.hid fun (u : World) (hs : Sc u g l true) (hb : Below w.heap.size w u) => ask_any g w.heap.size l true u hl hs ((hE.up hB).below hb) (by omega)
  have CB := Lib.hid fun (m : List UInt8) => fail_any g m
  have HB0 := Lib.hid b0
  have HG := Lib.hid hg
  clear hl hE hB b0
  go_enter Tryd.func83, Tryd.ntmps83
  go_wp2_with fail
  clear hg
  refine (CP.out _ HS0.out HB0.out).mono ?_
  rintro e w1 ⟨a, A, c, r, q, hop, rfl, hal, hrl, hown, ⟨ev, hs1, hbad⟩, g1⟩
  unfold askV
  have hgR : (some g : Option Nat) ≠ some w.heap.size := by have := HG.out; intro e; injection e; omega
  have HR1 := Lib.hid (HR0.out.grown g1 hgR)
  have HB1 := Lib.hid (HB0.out.trans (below_of_grown_at g1 (by have := HG.out; omega) HB0.out.size))
  have HOP := Lib.hid hop
  have HS1 := Lib.hid hs1
  have HBD := Lib.hid hbad
  have HOW := Lib.hid (El.Own.lower hown HB0.out.size)
  have HAL := Lib.hid hal
  clear hown hal
  have c0 := hs1.cell (i := 0) (v := .string (bs r)) rfl
  have c1 := hs1.cell (i := 1) (v := ev) rfl
  have hlt := hs1.lt
  have hRg : w.heap.size < g := by have := HG.out; omega
  clear hop hs1 hbad g1 HS0 HR0 HB0
  have y0 := HR1.out.cell (i := 0) rfl
  have z0 := HR1.out.free 0
  have y1 := HR1.out.cell (i := 1) rfl
  have z1 := HR1.out.free 1
  have y2 := HR1.out.cell (i := 2) rfl
  have z2 := HR1.out.free 2
  have hRw := HR1.out.lt
  have HRW := Lib.hid hRw
  by_cases hr : r = []
  · subst hr
    have hemp : (bs ([] : List UInt8)).toList.isEmpty = true := by rw [bs_toList]; rfl
    cases q
    · obtain ⟨p, y, rfl, hp⟩ := HBD.out.err
      have HP := Lib.hid hp
      clear hp
      go_wp2_with fail
      go_region
      all_goals go_wp2_with fail
      have F1 := HB1.out.trans (below_of_grown_at (grown_ua w1 w.heap.size (.slice none 0 0) (.string ⟨#[]⟩) (.int .i64 0)) (Nat.le_refl _) HB1.out.size)
      have F2 := ErrU.grown_other (⟨p, y, rfl, HP.out⟩ : ErrU w1 (.iface 110 (.pointer (some ⟨p, 0, none⟩)))) HR1.out (by decide) (grown_ua w1 w.heap.size (.slice none 0 0) (.string ⟨#[]⟩) (.int .i64 0))
      have F3 := fin_ua HR1.out (.slice none 0 0) (.string ⟨#[]⟩) (.int .i64 0)
      generalize (((w1.setCell ⟨w.heap.size, 0, none⟩ (.slice none 0 0)).setCell ⟨w.heap.size, 1, none⟩ (.string ⟨#[]⟩)).setCell ⟨w.heap.size, 2, none⟩ (.int .i64 0)) = W1 at F1 F2 F3 ⊢
      (try simp only [Exit.inBlock, Exit.then])
      refine bodyPost_ret (v := .tuple #[.agg #[.slice none 0 0, .string ⟨#[]⟩, .int .i64 0], .iface 110 (.pointer (some ⟨p, 0, none⟩))]) ?_ rfl ?_
      · exact results_row_tmp rfl _ _ w.heap.size 39 #[.slice none 0 0, .string ⟨#[]⟩, .int .i64 0] (0, 0) _ _ rfl rfl ((F3.alloc _).alloc _) Tryd.underlying39 rfl (by kernel_rfl)
      have F4 := F1.alloc F1.size (.cells #[.slice A a.ops.length c, .string (bs a.path), .int .i64 a.till] 39)
      have F5 := F2.next (alloc_below W1 (.cells #[.slice A a.ops.length c, .string (bs a.path), .int .i64 a.till] 39))
      generalize W1.alloc (.cells #[.slice A a.ops.length c, .string (bs a.path), .int .i64 a.till] 39) = W2 at F4 F5 ⊢
      exact ⟨a, A, c, [], false, HOP.out, .inr ⟨fun h => (by cases h.2), _, F5.next (drew_below (alloc_below W2 _)), rfl⟩, drew_below (F4.alloc F4.size _)⟩
    · obtain rfl := HBD.out.good
      go_wp2_with fail
      (try simp only [Exit.inBlock, Exit.then])
      refine bodyPost_ret (v := .tuple #[.agg #[.slice A a.ops.length c, .string (bs a.path), .int .i64 a.till], .nilIface]) ?_ rfl ?_
      · exact results_row_tmp rfl _ _ w.heap.size 39 #[.slice A a.ops.length c, .string (bs a.path), .int .i64 a.till] (0, 0) _ .nilIface rfl rfl ((fin_ua HR1.out _ _ _).alloc _) Tryd.underlying39 rfl (by kernel_rfl)
      exact ⟨a, A, c, [], true, HOP.out, .inl ⟨rfl, rfl, ownA_set (ownA_set (ownA_set HOW.out HR1.out) (HR1.out.set 0 _)) ((HR1.out.set 0 _).set 1 _) |>.alloc _, rfl⟩, (HB1.out.trans (below_of_grown_at (grown_ua _ _ _ _ _) (Nat.le_refl _) HB1.out.size)).alloc (Nat.le_trans HB1.out.size (grown_ua _ _ _ _ _).size) _⟩
  · have hemp : (bs r).toList.isEmpty = false := by
      rw [bs_toList]
      cases r with
      | nil => exact absurd rfl hr
      | cons x r => rfl
    have HNE := Lib.hid hr
    have HSA := Lib.hid (Sc.next ⟨ev, HS1.out, HBD.out⟩ ((Below.refl _ w1).alloc (Nat.le_refl _) (.cells #[.slice A a.ops.length c, .string (bs a.path), .int .i64 a.till] 39)))
    have HRA := Lib.hid (HR1.out.alloc (.cells #[.slice A a.ops.length c, .string (bs a.path), .int .i64 a.till] 39))
    have HBA := Lib.hid (HB1.out.alloc HB1.out.size (.cells #[.slice A a.ops.length c, .string (bs a.path), .int .i64 a.till] 39))
    clear hr
    go_wp2_with fail
    refine (CB.out r _ _ _ HSA.out).mono ?_
    rintro e w2 ⟨rfl, ⟨ev2, hs2, hb2⟩, g2⟩
    obtain ⟨p, y, rfl, hp⟩ := hb2.err
    have HP := Lib.hid hp
    have HR2 := Lib.hid (HRA.out.grown g2 hgR)
    have HB2 := Lib.hid (HBA.out.trans (below_of_grown_at g2 (by omega) HBA.out.size))
    have d1 := hs2.cell (i := 1) rfl
    have hlt2 := hs2.lt
    clear hp hs2 hb2 g2 c0 c1 hemp y0 z0 y1 z1 y2 z2 hRw HRA HBA HSA
    have y0 := HR2.out.cell (i := 0) rfl
    have z0 := HR2.out.free 0
    have y1 := HR2.out.cell (i := 1) rfl
    have z1 := HR2.out.free 1
    have y2 := HR2.out.cell (i := 2) rfl
    have z2 := HR2.out.free 2
    have hRw2 := HR2.out.lt
    go_wp2_with fail
    go_region
    all_goals go_wp2_with fail
    have F1 := HB2.out.trans (below_of_grown_at (grown_ua w2 w.heap.size (.slice none 0 0) (.string ⟨#[]⟩) (.int .i64 0)) (Nat.le_refl _) HB2.out.size)
    have F2 := ErrU.grown_other (⟨p, y, rfl, HP.out⟩ : ErrU w2 (.iface 110 (.pointer (some ⟨p, 0, none⟩)))) HR2.out (by decide) (grown_ua w2 w.heap.size (.slice none 0 0) (.string ⟨#[]⟩) (.int .i64 0))
    have F3 := fin_ua HR2.out (.slice none 0 0) (.string ⟨#[]⟩) (.int .i64 0)
    generalize (((w2.setCell ⟨w.heap.size, 0, none⟩ (.slice none 0 0)).setCell ⟨w.heap.size, 1, none⟩ (.string ⟨#[]⟩)).setCell ⟨w.heap.size, 2, none⟩ (.int .i64 0)) = W1 at F1 F2 F3 ⊢
    (try simp only [Exit.inBlock, Exit.then])
    refine bodyPost_ret (v := .tuple #[.agg #[.slice none 0 0, .string ⟨#[]⟩, .int .i64 0], .iface 110 (.pointer (some ⟨p, 0, none⟩))]) ?_ rfl ?_
    · exact results_row_tmp rfl _ _ w.heap.size 39 #[.slice none 0 0, .string ⟨#[]⟩, .int .i64 0] (0, 0) _ _ rfl rfl (F3.alloc _) Tryd.underlying39 rfl (by kernel_rfl)
    exact ⟨a, A, c, r, q, HOP.out, .inr ⟨fun h => HNE.out h.1, _, F2.next (drew_below (alloc_below W1 _)), rfl⟩, drew_below (F1.alloc F1.size _)⟩
end Go.Proofs.YtbejafbpipdbjaaDoor
