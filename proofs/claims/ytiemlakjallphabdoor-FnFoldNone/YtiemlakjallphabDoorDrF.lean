/-
  eaOps finds two lists of the same operations alike. Condition: at most 2^30 operations.
-/
import Derived.Test.YtiemlakjallphabDoorDrOps
import Derived.Test.YtiemlakjallphabDoorOpO
import Derived.BigQuiet
namespace Go.Proofs.YtiemlakjallphabDoor
set_option maxRecDepth 4000
open Go.RowKit

/-- What DrawOpsFold answers. -/
def DrewFo (w : World) (e : Ending) (w' : World) : Prop :=
  ∃ q lc : Nat, ∃ ls : List Op, e = .returned (.slice (some ⟨q, 0, none⟩) ls.length lc) ∧ opE.Has w' w'.heap.size (some ⟨q, 0, none⟩) ls ∧ ls.length ≤ lc ∧ ls.length ≤ 6 ∧ Below w.heap.size w w'
/-- A change of a block that is none of the list's and none of those that were there. -/
theorem DrO.other {w u u' : World} {g p : Nat} {v : Value} {ls : List Op} {row : Option Nat} (h : DrO w g v ls p u) (hg : u.grownBy u' row) (hb : ∀ q, row = some q → w.heap.size ≤ q) (hn : v.ownBlock ≠ row) : DrO w g v ls p u' :=
  ⟨World.ownsRow.kept h.1 hg (.inr hn), h.2.1.grown hg (fun q e => Nat.lt_of_lt_of_le h.2.2.2 (hb q e)), grown_own h.2.2.1 hg hb, h.2.2.2⟩
theorem fin_opY {W : World} {G : Nat} {x : Op} (h : Box W G (opE.cells x).toArray 49) (y : Op) : Box (((((W.setCell ⟨G, 0, none⟩ (.int .i64 y.k)).setCell ⟨G, 1, none⟩ (.int .i64 y.a)).setCell ⟨G, 2, none⟩ (.int .i64 y.b)).setCell ⟨G, 3, none⟩ (.int .i64 y.c)).setCell ⟨G, 4, none⟩ (.int .i64 y.d)) G (opE.cells y).toArray 49 := by
  have h1 := ((((h.set 0 (.int .i64 y.k)).set 1 (.int .i64 y.a)).set 2 (.int .i64 y.b)).set 3 (.int .i64 y.c)).set 4 (.int .i64 y.d)
  exact h1
theorem grown_opY (W : World) (G : Nat) (y : Op) : W.grownBy (((((W.setCell ⟨G, 0, none⟩ (.int .i64 y.k)).setCell ⟨G, 1, none⟩ (.int .i64 y.a)).setCell ⟨G, 2, none⟩ (.int .i64 y.b)).setCell ⟨G, 3, none⟩ (.int .i64 y.c)).setCell ⟨G, 4, none⟩ (.int .i64 y.d)) (some G) :=
  grown_trans (grown_trans (grown_trans (grown_trans (grown_cell W G 0 _) (grown_cell _ G 1 _)) (grown_cell _ G 2 _)) (grown_cell _ G 3 _)) (grown_cell _ G 4 _)
set_option maxHeartbeats 8000000 in
theorem drawOpsFold_any (A : Option Addr) (c : Nat) (l : List UInt8) (w : World) (hs : l.length ≤ 1073741824) (hc : l.length ≤ c) (h : Has w w.heap.size A l) :
    Calls Tryd.prog 29 #[.slice A l.length c] w (DrewFo w) := by
  have CO := Lib.hid (l20Open_any A c l w hs hc h)
  clear hs hc h
  go_enter Tryd.func29, Tryd.ntmps29
  go_wp2_with fail
  refine CO.out.mono ?_
  rintro e w1 ⟨rfl, hr, b1⟩
  clear CO
  have HFIN : Hid (∀ (q c p : Nat) (ls : List Op) (u : World), DrO w1 w.heap.size (.slice (some ⟨q, 0, none⟩) ls.length c) ls p u → ls.length ≤ 6 → DrewFo w (.returned (.slice (some ⟨q, 0, none⟩) ls.length c)) u) := Lib.hid fun q c p ls u hd h6 => ⟨q, c, ls, rfl, El.Own.reads hd.1, (El.Own.len hd.1).2, h6, below_of_grown b1 hd.2.2.1 (Nat.le_refl _) b1.size⟩
  have hgl : w.heap.size < w1.heap.size := hr.lt
  obtain ⟨g, hg⟩ : ∃ g, w.heap.size = g := ⟨_, rfl⟩
  rw [hg] at hr hgl HFIN ⊢
  have ho0 : opE.Own (w1.alloc (.cells #[] 49)) w1.heap.size (.slice (some ⟨w1.heap.size, 0, none⟩) 0 0) [] := El.own_empty opE (Nat.le_refl _)
  have HD0 : Hid (DrO w1 g (.slice (some ⟨w1.heap.size, 0, none⟩) 0 0) [] 0 (w1.alloc (.cells #[] 49))) := Lib.hid ⟨ho0, hr.alloc _, World.grownBy_alloc w1 _ _, hr.lt⟩
  have HS0 : Hid (w1.heap.size < (w1.alloc (.cells #[] 49)).heap.size) := Lib.hid (by simp)
  clear ho0 hr b1 hg
  go_wp2_with fail
  refine (l20Op_any g 0 0 _ HD0.out.2.1 (by omega) (by omega) (by omega)).mono ?_
  rintro e w2 ⟨x0, rfl, ⟨p2, hp2, hr2⟩, hg2⟩
  have HD2 := Lib.hid (HD0.out.step hr2 hg2)
  have HS2 := Lib.hid (Nat.lt_of_lt_of_le HS0.out hg2.size)
  clear hr2 hg2 HD0 HS0
  obtain ⟨G, hG⟩ : ∃ G, w2.heap.size = G := ⟨_, rfl⟩
  have hG1 : w1.heap.size < G := by rw [← hG]; exact HS2.out
  have HX3 : Hid (Box (w2.alloc (.cells #[.int .i64 x0.k, .int .i64 x0.a, .int .i64 x0.b, .int .i64 x0.c, .int .i64 x0.d] 49)) G (opE.cells x0).toArray 49) := Lib.hid (by rw [← hG]; exact Box.new w2 _ _)
  have HD3 : Hid (DrO w1 g (.slice (some ⟨w1.heap.size, 0, none⟩) 0 0) [] p2 (w2.alloc (.cells #[.int .i64 x0.k, .int .i64 x0.a, .int .i64 x0.b, .int .i64 x0.c, .int .i64 x0.d] 49))) := Lib.hid (HD2.out.other (World.grownBy_alloc w2 _ none) (fun q e => by cases e) (by simp [Value.ownBlock]))
  unfold Op.v
  clear HD2 HS2
  go_wp2_with fail
  refine (pick_any g p2 6 _ HD3.out.2.1 (by omega) (by omega) (by omega)).mono ?_
  rintro e w4 ⟨k1, rfl, hk1, -, hr4, hg4, -⟩
  have hk5 : k1 ≤ 5 := by have := hk1 (by omega); omega
  have HD4 := Lib.hid (HD3.out.step hr4 hg4)
  have HX4 := Lib.hid (HX3.out.grown hg4 (by intro e; injection e with e; omega))
  have HK4 := Lib.hid hk5
  have HP4 := Lib.hid hp2
  clear hk1 hk5 hr4 hg4 HD3 HX3 hG hp2
  go_wp2_with fail
  go_loopw [4, 6] (fun v i wr => ∃ (k p' c q : Nat) (ls : List Op) (x : Op), i = .int .i64 (k : Int) ∧ v = .slice (some ⟨q, 0, none⟩) ls.length c ∧ ls.length + k ≤ 5 ∧ p' + 20 * k ≤ 140 ∧ DrO w1 g v ls p' wr ∧ Box wr G (opE.cells x).toArray 49 ∧ q ≠ G) (fun _ i _ => (intOf i).toNat)
  case atStart => exact ⟨k1, p2 + 1, 0, _, [], x0, rfl, rfl, by have := HK4.out; simp; omega, by have := HK4.out; have := HP4.out; omega, HD4.out, HX4.out, by omega⟩
  case round =>
    clear HD4 HX4 HK4 HP4
    obtain ⟨k, p', c, q, ls, x, rfl, rfl, hlk, hpk, hd, hx, hqG⟩ := hrel
    have HD := Lib.hid hd
    have HX := Lib.hid hx
    have HL := Lib.hid (And.intro hlk hpk)
    have HQG := Lib.hid hqG
    clear hd hx hlk hpk hqG
    by_cases hlt : 0 < k
    · have hkI : 0 < (k : Int) ∧ (k : Int) ≤ 5 := by have := HL.out; omega
      go_wp2_with fail
      refine (pick_any g p' 2 _ HD.out.2.1 (by have := HL.out; omega) (by omega) (by omega)).mono ?_
      rintro e w5 ⟨k5, rfl, hk5, -, hr5, hg5, -⟩
      have HD5 := Lib.hid (HD.out.step hr5 hg5)
      have HX5 := Lib.hid (HX.out.grown hg5 (by intro e; injection e with e; omega))
      clear hk5 hr5 hg5 HD HX
      by_cases hz : k5 = 0
      · subst hz
        go_wp2_with fail
        refine (l20Op_any g (p' + 1) 0 _ HD5.out.2.1 (by have := HL.out; omega) (by omega) (by omega)).mono ?_
        rintro e w6 ⟨x2, rfl, ⟨p6, hp6, hr6⟩, hg6⟩
        have HD6 := Lib.hid (HD5.out.step hr6 hg6)
        have HX6 := Lib.hid (HX5.out.grown hg6 (by intro e; injection e with e; omega))
        have HP6 := Lib.hid hp6
        have hGl6 := HX6.out.lt
        have f0 := HX6.out.free 0
        have f1 := HX6.out.free 1
        have f2 := HX6.out.free 2
        have f3 := HX6.out.free 3
        have f4 := HX6.out.free 4
        have c0 := HX6.out.cell (i := 0) rfl
        have c1 := HX6.out.cell (i := 1) rfl
        have c2 := HX6.out.cell (i := 2) rfl
        have c3 := HX6.out.cell (i := 3) rfl
        have c4 := HX6.out.cell (i := 4) rfl
        have HX7 := Lib.hid (fin_opY HX6.out x2)
        have HD7 := Lib.hid (HD6.out.other (grown_opY w6 G x2) (fun q e => by injection e with e; omega) (by have := HQG.out; simp [Value.ownBlock]; exact this))
        clear hr6 hg6 hp6 HD5 HX5 HD6 HX6
        unfold Op.v
        obtain ⟨G2, hG2⟩ : ∃ G2, ((((((w6.setCell ⟨G, 0, none⟩ (.int .i64 x2.k)).setCell ⟨G, 1, none⟩ (.int .i64 x2.a)).setCell ⟨G, 2, none⟩ (.int .i64 x2.b)).setCell ⟨G, 3, none⟩ (.int .i64 x2.c)).setCell ⟨G, 4, none⟩ (.int .i64 x2.d))).heap.size = G2 := ⟨_, rfl⟩
        have hGw : w1.heap.size ≤ G2 := by rw [← hG2]; exact HD7.out.2.2.1.size
        have HBX : Hid (Box (((((((w6.setCell ⟨G, 0, none⟩ (.int .i64 x2.k)).setCell ⟨G, 1, none⟩ (.int .i64 x2.a)).setCell ⟨G, 2, none⟩ (.int .i64 x2.b)).setCell ⟨G, 3, none⟩ (.int .i64 x2.c)).setCell ⟨G, 4, none⟩ (.int .i64 x2.d))).alloc (.cells #[.int .i64 x2.k, .int .i64 x2.a, .int .i64 x2.b, .int .i64 x2.c, .int .i64 x2.d] 49)) G2 (opE.cells x2).toArray 49) := Lib.hid (by rw [← hG2]; exact Box.new _ _ _)
        have hl5 : ls.length + 1 ≤ 1073741824 := by have := HL.out; omega
        try simp at hG2
        go_wp2_with (at_builtin; refine El.wpList_append (E := opE) 34 Tryd.underlying34 rfl _ _ rfl w1.heap.size (.slice (some ⟨q, 0, none⟩) ls.length c) ls rfl (El.Own.alloc (E := opE) HD7.out.1 _) ⟨G2, 0, none⟩ 1 1 [x2] rfl rfl (Box.news (E := opE) (x := x2) HBX.out) (by decide) hl5 (by simp; omega) (G2 + 1) (by simp [hG2]) ?_; intro gg cap w8 hown8 hgr8 hg8 hcap8)
        have HD8 := Lib.hid (HD7.out.push hgr8 hown8)
        have hl1 : ls.length + 1 = (ls ++ [x2]).length := by simp
        have HX8 := Lib.hid ((HX7.out.alloc _).grown hgr8 (by have := HQG.out; simp [Value.ownBlock]; exact this))
        have hgG : gg ≠ G := by
          rcases hg8 with h | h
          · injection h with h
            rw [← h]
            exact HQG.out
          · omega
        clear hown8 hgr8 hg8 hcap8 HD7 HX7 HBX hG2 hGw f0 f1 f2 f3 f4 c0 c1 c2 c3 c4
        go_roundw
        case rel => exact ⟨k - 1, p6, cap, _, ls ++ [x2], x2, by go_num, by rw [← hl1], by have := HL.out; simp; omega, by have := HL.out; have := HP6.out; omega, HD8.out, HX8.out, hgG⟩
        case measure => simp [intOf]; omega
      · have hzI : ¬ (k5 : Int) = 0 := by omega
        have hGl5 := HX5.out.lt
        have c0 := HX5.out.cell (i := 0) rfl
        have c1 := HX5.out.cell (i := 1) rfl
        have c2 := HX5.out.cell (i := 2) rfl
        have c3 := HX5.out.cell (i := 3) rfl
        have c4 := HX5.out.cell (i := 4) rfl
        obtain ⟨G2, hG2⟩ : ∃ G2, (w5).heap.size = G2 := ⟨_, rfl⟩
        have hGw : w1.heap.size ≤ G2 := by rw [← hG2]; exact HD5.out.2.2.1.size
        have HBX : Hid (Box ((w5).alloc (.cells #[.int .i64 x.k, .int .i64 x.a, .int .i64 x.b, .int .i64 x.c, .int .i64 x.d] 49)) G2 (opE.cells x).toArray 49) := Lib.hid (by rw [← hG2]; exact Box.new _ _ _)
        have hl5 : ls.length + 1 ≤ 1073741824 := by have := HL.out; omega
        try simp at hG2
        go_wp2_with (at_builtin; refine El.wpList_append (E := opE) 34 Tryd.underlying34 rfl _ _ rfl w1.heap.size (.slice (some ⟨q, 0, none⟩) ls.length c) ls rfl (El.Own.alloc (E := opE) HD5.out.1 _) ⟨G2, 0, none⟩ 1 1 [x] rfl rfl (Box.news (E := opE) (x := x) HBX.out) (by decide) hl5 (by simp; omega) (G2 + 1) (by simp [hG2]) ?_; intro gg cap w8 hown8 hgr8 hg8 hcap8)
        have HD8 := Lib.hid (HD5.out.push hgr8 hown8)
        have hl1 : ls.length + 1 = (ls ++ [x]).length := by simp
        have HX8 := Lib.hid ((HX5.out.alloc _).grown hgr8 (by have := HQG.out; simp [Value.ownBlock]; exact this))
        have hgG : gg ≠ G := by
          rcases hg8 with h | h
          · injection h with h
            rw [← h]
            exact HQG.out
          · omega
        clear hown8 hgr8 hg8 hcap8 HD5 HX5 HBX hG2 hGw c0 c1 c2 c3 c4
        go_roundw
        case rel => exact ⟨k - 1, p' + 1, cap, _, ls ++ [x], x, by go_num, by rw [← hl1], by have := HL.out; simp; omega, by have := HL.out; omega, HD8.out, HX8.out, hgG⟩
        case measure => simp [intOf]; omega
    · obtain rfl : k = 0 := by omega
      clear hlt
      go_wp2_with fail
      refine (odd_any g p' 6 _ HD.out.2.1 (by have := HL.out; omega) (by omega) (by omega)).mono ?_
      rintro e w5 ⟨b5, rfl, p5, hp5, hr5, hg5⟩
      have HD5 := Lib.hid (HD.out.step hr5 hg5)
      have HP5 := Lib.hid hp5
      clear hr5 hg5 hp5 HD HX
      cases b5
      · have HLL : Hid (ls.length ≤ 6 ∧ p5 ≤ 400) := Lib.hid (by have := HL.out; have := HP5.out; omega)
        go_wp2_with fail
        refine (odd_any g p5 9 _ HD5.out.2.1 (by have := HLL.out; omega) (by omega) (by omega)).mono ?_
        rintro e wo ⟨bo, rfl, po, hpo, hro, hgo⟩
        have HDO := Lib.hid (HD5.out.step hro hgo)
        clear hro hgo hpo
        cases bo
        · go_wp2_with fail
          go_ret
          exact HFIN.out _ _ _ _ _ HDO.out HLL.out.1
        · go_wp2_with fail
          go_loopw [4] (fun v wr => ∃ (c q : Nat) (ls : List Op), v = .slice (some ⟨q, 0, none⟩) ls.length c ∧ ls.length ≤ 6 ∧ DrO w1 g v ls po wr) (fun v _ => room6 v)
          case atStart => exact ⟨_, _, _, rfl, HLL.out.1, HDO.out⟩
          case round =>
            clear HDO
            obtain ⟨c, q, ls, rfl, hl6, hd⟩ := hrel
            have HD := Lib.hid hd
            have HL6 := Lib.hid hl6
            clear hd
            by_cases hlt : ls.length < 5
            · have hlI : (ls.length : Int) < 5 := by omega
              obtain ⟨G2, hG2⟩ : ∃ G2, (wr).heap.size = G2 := ⟨_, rfl⟩
              have hGw : w1.heap.size ≤ G2 := by rw [← hG2]; exact HD.out.2.2.1.size
              have HBX : Hid (Box ((wr).alloc (.cells #[.int .i64 4, .int .i64 0, .int .i64 0, .int .i64 0, .int .i64 0] 49)) G2 (opE.cells tO).toArray 49) := Lib.hid (by rw [← hG2]; exact Box.new _ _ _)
              have hl5 : ls.length + 1 ≤ 1073741824 := by have := hlt; omega
              try simp at hG2
              go_wp2_with (at_builtin; refine El.wpList_append (E := opE) 34 Tryd.underlying34 rfl _ _ rfl w1.heap.size (.slice (some ⟨q, 0, none⟩) ls.length c) ls rfl (El.Own.alloc (E := opE) HD.out.1 _) ⟨G2, 0, none⟩ 1 1 [tO] rfl rfl (Box.news (E := opE) (x := tO) HBX.out) (by decide) hl5 (by simp; omega) (G2 + 1) (by simp [hG2]) ?_; intro gg cap wz hownz hgrz hgz hcapz)
              have HDz := Lib.hid (HD.out.push hgrz hownz)
              have hl1 : ls.length + 1 = (ls ++ [tO]).length := by simp
              clear hownz hgrz hgz hcapz HD HBX hG2 hGw
              go_roundw
              case rel => exact ⟨cap, _, ls ++ [tO], by rw [← hl1], by simp; omega, HDz.out⟩
              case measure => simp [room6]; omega
            · have hlI : ¬ (ls.length : Int) < 5 := by omega
              go_wp2_with fail
              go_ret
              exact HFIN.out _ _ _ _ _ HD.out HL6.out
      · go_wp2_with fail
        refine (l20Op_any g p5 1 _ HD5.out.2.1 (by have := HL.out; have := HP5.out; omega) (by omega) (by omega)).mono ?_
        rintro e w6 ⟨x2, rfl, ⟨p6, hp6, hr6⟩, hg6⟩
        have HD6 := Lib.hid (HD5.out.step hr6 hg6)
        have HLL : Hid ((ls ++ [x2]).length ≤ 6 ∧ p6 ≤ 400) := Lib.hid (by have := HL.out; have := HP5.out; simp; omega)
        clear hr6 hg6 hp6 HD5
        unfold Op.v
        obtain ⟨G2, hG2⟩ : ∃ G2, (w6).heap.size = G2 := ⟨_, rfl⟩
        have hGw : w1.heap.size ≤ G2 := by rw [← hG2]; exact HD6.out.2.2.1.size
        have HBX : Hid (Box ((w6).alloc (.cells #[.int .i64 x2.k, .int .i64 x2.a, .int .i64 x2.b, .int .i64 x2.c, .int .i64 x2.d] 49)) G2 (opE.cells x2).toArray 49) := Lib.hid (by rw [← hG2]; exact Box.new _ _ _)
        have hl5 : ls.length + 1 ≤ 1073741824 := by have := HL.out; omega
        try simp at hG2
        go_wp2_with (at_builtin; refine El.wpList_append (E := opE) 34 Tryd.underlying34 rfl _ _ rfl w1.heap.size (.slice (some ⟨q, 0, none⟩) ls.length c) ls rfl (El.Own.alloc (E := opE) HD6.out.1 _) ⟨G2, 0, none⟩ 1 1 [x2] rfl rfl (Box.news (E := opE) (x := x2) HBX.out) (by decide) hl5 (by simp; omega) (G2 + 1) (by simp [hG2]) ?_; intro gg cap w8 hown8 hgr8 hg8 hcap8)
        have HD8 := Lib.hid (HD6.out.push hgr8 hown8)
        have hl1 : ls.length + 1 = (ls ++ [x2]).length := by simp
        clear hown8 hgr8 hg8 hcap8 HD6 HBX hG2 hGw
        rw [hl1] at HD8 ⊢
        obtain ⟨lz, hlz⟩ : ∃ lz, ls ++ [x2] = lz := ⟨_, rfl⟩
        rw [hlz] at HD8 HLL ⊢
        clear hlz hl1
        go_wp2_with fail
        refine (odd_any g p6 9 _ HD8.out.2.1 (by have := HLL.out; omega) (by omega) (by omega)).mono ?_
        rintro e wo ⟨bo, rfl, po, hpo, hro, hgo⟩
        have HDO := Lib.hid (HD8.out.step hro hgo)
        clear hro hgo hpo
        cases bo
        · go_wp2_with fail
          go_ret
          exact HFIN.out _ _ _ _ _ HDO.out HLL.out.1
        · go_wp2_with fail
          go_loopw [4] (fun v wr => ∃ (c q : Nat) (ls : List Op), v = .slice (some ⟨q, 0, none⟩) ls.length c ∧ ls.length ≤ 6 ∧ DrO w1 g v ls po wr) (fun v _ => room6 v)
          case atStart => exact ⟨_, _, _, rfl, HLL.out.1, HDO.out⟩
          case round =>
            clear HDO
            obtain ⟨c, q, ls, rfl, hl6, hd⟩ := hrel
            have HD := Lib.hid hd
            have HL6 := Lib.hid hl6
            clear hd
            by_cases hlt : ls.length < 5
            · have hlI : (ls.length : Int) < 5 := by omega
              obtain ⟨G2, hG2⟩ : ∃ G2, (wr).heap.size = G2 := ⟨_, rfl⟩
              have hGw : w1.heap.size ≤ G2 := by rw [← hG2]; exact HD.out.2.2.1.size
              have HBX : Hid (Box ((wr).alloc (.cells #[.int .i64 4, .int .i64 0, .int .i64 0, .int .i64 0, .int .i64 0] 49)) G2 (opE.cells tO).toArray 49) := Lib.hid (by rw [← hG2]; exact Box.new _ _ _)
              have hl5 : ls.length + 1 ≤ 1073741824 := by have := hlt; omega
              try simp at hG2
              go_wp2_with (at_builtin; refine El.wpList_append (E := opE) 34 Tryd.underlying34 rfl _ _ rfl w1.heap.size (.slice (some ⟨q, 0, none⟩) ls.length c) ls rfl (El.Own.alloc (E := opE) HD.out.1 _) ⟨G2, 0, none⟩ 1 1 [tO] rfl rfl (Box.news (E := opE) (x := tO) HBX.out) (by decide) hl5 (by simp; omega) (G2 + 1) (by simp [hG2]) ?_; intro gg cap wz hownz hgrz hgz hcapz)
              have HDz := Lib.hid (HD.out.push hgrz hownz)
              have hl1 : ls.length + 1 = (ls ++ [tO]).length := by simp
              clear hownz hgrz hgz hcapz HD HBX hG2 hGw
              go_roundw
              case rel => exact ⟨cap, _, ls ++ [tO], by rw [← hl1], by simp; omega, HDz.out⟩
              case measure => simp [room6]; omega
            · have hlI : ¬ (ls.length : Int) < 5 := by omega
              go_wp2_with fail
              go_ret
              exact HFIN.out _ _ _ _ _ HD.out HL6.out
end Go.Proofs.YtiemlakjallphabDoor
namespace Go.Proofs.YtiemlakjallphabDoor
set_option maxRecDepth 4000
open Go.RowKit

set_option maxHeartbeats 2000000 in
theorem eaOps_same (A A' : Option Addr) (c c' : Nat) (l : List Op) (w : World) (hs : l.length ≤ 1073741824) (h : opE.Has w w.heap.size A l) (h' : opE.Has w w.heap.size A' l) :
    Calls Tryd.prog 30 #[.slice A l.length c, .slice A' l.length c'] w fun e w' => e = .returned (.bool true) ∧ Below w.heap.size w w' := by
  obtain ⟨N, hN⟩ : ∃ N, l.length = N := ⟨_, rfl⟩
  have HN := Lib.hid hN
  have HH := Lib.hid fun u (hb : Below w.heap.size w u) => h.below hb
  have HH' := Lib.hid fun u (hb : Below w.heap.size w u) => h'.below hb
  rw [hN] at hs ⊢
  clear h h' hN
  go_enter Tryd.func30, Tryd.ntmps30
  go_wp2_with fail
  go_loopw [5] (fun v wr => ∃ k : Nat, k ≤ N ∧ v = .int .i64 (k : Int) ∧ Below w.heap.size w wr) (fun v _ => N - (intOf v).toNat)
  case atStart => exact ⟨0, Nat.zero_le _, rfl, Below.refl _ _⟩
  case round =>
    obtain ⟨k, hk, rfl, hb⟩ := hrel
    have HB := Lib.hid hb
    clear hb
    by_cases hlt : k < N
    · obtain ⟨b, o, x, rfl, -, hx, -⟩ := (HH.out wr HB.out).spot (k := k) (by rw [HN.out]; exact hlt)
      obtain ⟨b', o', _, rfl, -, -, -⟩ := (HH'.out wr HB.out).spot (k := k) (by rw [HN.out]; exact hlt)
      obtain ⟨c0, c1, c2, c3, c4⟩ := op_at (HH.out wr HB.out) hx
      obtain ⟨d0, d1, d2, d3, d4⟩ := op_at (HH'.out wr HB.out) hx
      have hpI : (0 : Int) ≤ (k : Int) ∧ (k : Int) < (N : Int) := by omega
      clear hx
      go_wp2_with fail
      go_quiet (fail)
      go_wp2_with fail
      go_roundw
      case rel => exact ⟨k + 1, by omega, by go_num, below_draws HB.out _⟩
      case measure => simp [intOf]; omega
    · obtain rfl : k = N := by omega
      go_wp2_with fail
      go_ret
      exact ⟨rfl, HB.out⟩
end Go.Proofs.YtiemlakjallphabDoor
