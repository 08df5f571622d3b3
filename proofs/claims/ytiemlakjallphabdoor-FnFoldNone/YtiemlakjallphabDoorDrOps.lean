/-
  The reference draws a list of operations: at most six, whatever they are. Condition: the reader's position is at most 10^8.
-/
import Derived.Test.YtiemlakjallphabDoorDrawOpA
namespace Go.Proofs.YtiemlakjallphabDoor
set_option maxRecDepth 4000
open Go.RowKit

/-- A list under way: the call's own since w, and the reader. -/
def DrO (w : World) (g : Nat) (v : Value) (ls : List Op) (p : Nat) (u : World) : Prop := opE.Own u w.heap.size v ls ∧ Rdr u g p ∧ w.grownBy u (some g) ∧ g < w.heap.size
theorem DrO.step {w u u' : World} {g p p' : Nat} {v : Value} {ls : List Op} (h : DrO w g v ls p u) (hr : Rdr u' g p') (hg : u.grownBy u' (some g)) : DrO w g v ls p' u' :=
  ⟨h.1.low_grown hg h.2.2.2, hr, grown_trans h.2.2.1 hg, h.2.2.2⟩
theorem DrO.push {w u u' : World} {g p : Nat} {v v' : Value} {ls ls' : List Op} {x : Obj} (h : DrO w g v ls p u) (hg : (u.alloc x).grownBy u' v.ownBlock) (ho : opE.Own u' w.heap.size v' ls') : DrO w g v' ls' p u' := by
  have hb : ∀ q, v.ownBlock = some q → w.heap.size ≤ q := fun q e => (World.ownsRow.lt h.1 q e).1
  have hgw := h.2.2.2
  exact ⟨ho, (h.2.1.alloc x).grown hg fun q e => Nat.lt_of_lt_of_le hgw (hb q e), grown_own (grown_trans h.2.2.1 (World.grownBy_alloc u x (some g))) hg hb, hgw⟩
/-- What l20Ops answers. -/
def DrewOs (w : World) (g p : Nat) (e : Ending) (w' : World) : Prop := ∃ q c : Nat, ∃ ls : List Op, ∃ p', e = .returned (.slice (some ⟨q, 0, none⟩) ls.length c) ∧ ls.length ≤ 6 ∧ p' ≤ p + 80 ∧ DrO w g (.slice (some ⟨q, 0, none⟩) ls.length c) ls p' w'
def room6 (v : Value) : Nat := match v with | .slice _ n _ => 7 - n | _ => 0
set_option maxHeartbeats 4000000 in
theorem l20Ops_any (g p : Nat) (n : Int) (w : World) (h : Rdr w g p) (hp : p ≤ 1000000) (hn : 0 ≤ n) (hn2 : n ≤ 1000000000) :
    Calls Tryd.prog 52 #[.pointer (some ⟨g, 0, none⟩), .int .i64 n] w (DrewOs w g p) := by
  have ho0 : opE.Own (w.alloc (.cells #[] 49)) w.heap.size (.slice (some ⟨w.heap.size, 0, none⟩) 0 0) [] := El.own_empty opE (Nat.le_refl _)
  have hd0 : DrO w g (.slice (some ⟨w.heap.size, 0, none⟩) 0 0) [] p (w.alloc (.cells #[] 49)) := ⟨ho0, h.alloc _, World.grownBy_alloc w _ _, h.lt⟩
  have HD0 := Lib.hid hd0
  have HPN := Lib.hid (And.intro hp (And.intro hn hn2))
  clear ho0 hd0 h hp hn hn2
  go_enter Tryd.func52, Tryd.ntmps52
  go_wp2_with fail
  refine (pick_any g p _ _ HD0.out.2.1 (by have := HPN.out; omega) (by omega) (by omega)).mono ?_
  rintro e w1 ⟨k1, rfl, hk1, -, hr1, hg1, -⟩
  have hk5 : k1 ≤ 5 := by have := hk1 (by omega); omega
  have HD1 := Lib.hid (HD0.out.step hr1 hg1)
  have HK1 := Lib.hid hk5
  clear hk1 hk5 hr1 hg1 HD0
  go_wp2_with fail
  go_loopw [5, 6] (fun v i wr => ∃ (k p' c q : Nat) (ls : List Op), i = .int .i64 (k : Int) ∧ v = .slice (some ⟨q, 0, none⟩) ls.length c ∧ ls.length + k ≤ 5 ∧ p' + 10 * k ≤ p + 60 ∧ DrO w g v ls p' wr) (fun _ i _ => (intOf i).toNat)
  case atStart => exact ⟨k1, p + 1, 0, _, [], rfl, rfl, by have := HK1.out; simp; omega, by have := HK1.out; omega, HD1.out⟩
  case round =>
    clear HD1
    obtain ⟨k, p', c, q, ls, rfl, rfl, hlk, hpk, hd⟩ := hrel
    have HD := Lib.hid hd
    have HL := Lib.hid (And.intro hlk hpk)
    clear hd hlk hpk
    by_cases hlt : 0 < k
    · have hkI : 0 < (k : Int) ∧ (k : Int) ≤ 5 := by have := HL.out; omega
      go_wp2_with fail
      refine (l20Op_any g p' 0 _ HD.out.2.1 (by have := HL.out; have := HPN.out; omega) (by omega) (by omega)).mono ?_
      rintro e w2 ⟨x, rfl, ⟨p2, hp2, hr2⟩, hg2⟩
      have HD2 := Lib.hid (HD.out.step hr2 hg2)
      have HP2 := Lib.hid hp2
      clear hr2 hg2 hp2 HD
      obtain ⟨G, hG⟩ : ∃ G, w2.heap.size = G := ⟨_, rfl⟩
      have hGw : w.heap.size ≤ G := by rw [← hG]; exact HD2.out.2.2.1.size
      have HBX : Hid (Box (w2.alloc (.cells #[.int .i64 x.k, .int .i64 x.a, .int .i64 x.b, .int .i64 x.c, .int .i64 x.d] 49)) G (opE.cells x).toArray 49) := Lib.hid (by rw [← hG]; exact Box.new w2 _ _)
      unfold Op.v
      go_wp2_with (at_builtin; refine El.wpList_append (E := opE) 34 Tryd.underlying34 rfl _ _ rfl w.heap.size (.slice (some ⟨q, 0, none⟩) ls.length c) ls rfl (El.Own.alloc (E := opE) HD2.out.1 _) ⟨G, 0, none⟩ 1 1 [x] rfl rfl (Box.news (E := opE) (x := x) HBX.out) (by decide) (by have := HL.out; omega) (by simp; omega) (G + 1) (by simp [hG]) ?_; intro gg cap w3 hown3 hgr3 hg3 hcap3)
      have HD3 := Lib.hid (HD2.out.push hgr3 hown3)
      have hl1 : ls.length + 1 = (ls ++ [x]).length := by simp
      clear hown3 hgr3 hg3 hcap3 HD2 HBX hG hGw
      go_roundw
      case rel => exact ⟨k - 1, p2, cap, _, ls ++ [x], by go_num, by rw [← hl1], by have := HL.out; simp; omega, by have := HL.out; have := HP2.out; omega, HD3.out⟩
      case measure => simp [intOf]; omega
    · obtain rfl : k = 0 := by omega
      clear hlt
      go_wp2_with fail
      refine (odd_any g p' n _ HD.out.2.1 (by have := HL.out; have := HPN.out; omega) HPN.out.2.1 HPN.out.2.2).mono ?_
      rintro e w2 ⟨b2, rfl, p2, hp2, hr2, hg2⟩
      have HD2 := Lib.hid (HD.out.step hr2 hg2)
      have HP2 := Lib.hid hp2
      clear hr2 hg2 hp2 HD
      cases b2
      · have HLL : Hid (ls.length ≤ 6 ∧ p2 ≤ p + 72) := Lib.hid (by have := HL.out; have := HP2.out; omega)
        clear HL HP2
        have HL := HLL
        have HD := HD2
        clear HLL HD2
        go_wp2_with fail
        refine (odd_any g p2 n _ HD.out.2.1 (by have := HL.out; have := HPN.out; omega) HPN.out.2.1 HPN.out.2.2).mono ?_
        rintro e w6 ⟨b6, rfl, p6, hp6, hr6, hg6⟩
        have HD6 := Lib.hid (HD.out.step hr6 hg6)
        have HP6 := Lib.hid (show ls.length ≤ 6 ∧ p6 ≤ p + 80 by have := HL.out; omega)
        clear hr6 hg6 hp6 HD
        cases b6
        · go_wp2_with fail
          go_ret
          exact ⟨q, c, ls, p6, rfl, HP6.out.1, HP6.out.2, HD6.out⟩
        · go_wp2_with fail
          go_loopw [5] (fun v wr => ∃ (c q : Nat) (ls : List Op), v = .slice (some ⟨q, 0, none⟩) ls.length c ∧ ls.length ≤ 6 ∧ DrO w g v ls p6 wr) (fun v _ => room6 v)
          case atStart => exact ⟨c, q, ls, rfl, HP6.out.1, HD6.out⟩
          case round =>
            clear HD6
            obtain ⟨c, q, ls, rfl, hl6, hd⟩ := hrel
            have HD := Lib.hid hd
            clear hd
            by_cases hlt : ls.length ≤ 5
            · have hlI : (ls.length : Int) ≤ 5 := by omega
              obtain ⟨G, hG⟩ : ∃ G, wr.heap.size = G := ⟨_, rfl⟩
              have hGw : w.heap.size ≤ G := by rw [← hG]; exact HD.out.2.2.1.size
              have HBX : Hid (Box (wr.alloc (.cells #[.int .i64 4, .int .i64 0, .int .i64 0, .int .i64 0, .int .i64 0] 49)) G (opE.cells tO).toArray 49) := Lib.hid (by rw [← hG]; exact Box.new wr _ _)
              go_wp2_with (at_builtin; refine El.wpList_append (E := opE) 34 Tryd.underlying34 rfl _ _ rfl w.heap.size (.slice (some ⟨q, 0, none⟩) ls.length c) ls rfl (El.Own.alloc (E := opE) HD.out.1 _) ⟨G, 0, none⟩ 1 1 [tO] rfl rfl (Box.news (E := opE) (x := tO) HBX.out) (by decide) (by omega) (by simp; omega) (G + 1) (by simp [hG]) ?_; intro gg cap w7 hown7 hgr7 hg7 hcap7)
              have HD7 := Lib.hid (HD.out.push hgr7 hown7)
              have hl1 : ls.length + 1 = (ls ++ [tO]).length := by simp
              clear hown7 hgr7 hg7 hcap7 HD HBX hG hGw
              go_roundw
              case rel => exact ⟨cap, _, ls ++ [tO], by rw [← hl1], by simp; omega, HD7.out⟩
              case measure => simp [room6]; omega
            · have hlI : ¬ (ls.length : Int) ≤ 5 := by omega
              have HL6 := Lib.hid hl6
              go_wp2_with fail
              go_ret
              exact ⟨q, c, ls, p6, rfl, HL6.out, HP6.out.2, HD.out⟩
      · go_wp2_with fail
        refine (l20Op_any g p2 1 _ HD2.out.2.1 (by have := HL.out; have := HP2.out; have := HPN.out; omega) (by omega) (by omega)).mono ?_
        rintro e w4 ⟨x, rfl, ⟨p4, hp4, hr4⟩, hg4⟩
        have HD4 := Lib.hid (HD2.out.step hr4 hg4)
        have HLL : Hid ((ls ++ [x]).length ≤ 6 ∧ p4 ≤ p + 72) := Lib.hid (by have := HL.out; have := HP2.out; simp; omega)
        have hl5 : ls.length + 1 ≤ 1073741824 := by have := HL.out; omega
        clear hr4 hg4 hp4 HD2 HP2 HL
        obtain ⟨G, hG⟩ : ∃ G, w4.heap.size = G := ⟨_, rfl⟩
        have hGw : w.heap.size ≤ G := by rw [← hG]; exact HD4.out.2.2.1.size
        have HBX : Hid (Box (w4.alloc (.cells #[.int .i64 x.k, .int .i64 x.a, .int .i64 x.b, .int .i64 x.c, .int .i64 x.d] 49)) G (opE.cells x).toArray 49) := Lib.hid (by rw [← hG]; exact Box.new w4 _ _)
        unfold Op.v
        go_wp2_with (at_builtin; refine El.wpList_append (E := opE) 34 Tryd.underlying34 rfl _ _ rfl w.heap.size (.slice (some ⟨q, 0, none⟩) ls.length c) ls rfl (El.Own.alloc (E := opE) HD4.out.1 _) ⟨G, 0, none⟩ 1 1 [x] rfl rfl (Box.news (E := opE) (x := x) HBX.out) (by decide) hl5 (by simp; omega) (G + 1) (by simp [hG]) ?_; intro gg cap w5 hown5 hgr5 hg5 hcap5)
        have HD5 := Lib.hid (HD4.out.push hgr5 hown5)
        have hl1 : ls.length + 1 = (ls ++ [x]).length := by simp
        clear hown5 hgr5 hg5 hcap5 HD4 HBX hG hGw hl5
        rw [hl1] at HD5 ⊢
        clear hl1
        generalize ls ++ [x] = ls at *
        have HD := HD5
        have HL := HLL
        clear HD5 HLL
        refine (odd_any g p4 n _ HD.out.2.1 (by have := HL.out; have := HPN.out; omega) HPN.out.2.1 HPN.out.2.2).mono ?_
        rintro e w6 ⟨b6, rfl, p6, hp6, hr6, hg6⟩
        have HD6 := Lib.hid (HD.out.step hr6 hg6)
        have HP6 := Lib.hid (show ls.length ≤ 6 ∧ p6 ≤ p + 80 by have := HL.out; omega)
        clear hr6 hg6 hp6 HD
        cases b6
        · go_wp2_with fail
          go_ret
          exact ⟨gg, cap, ls, p6, rfl, HP6.out.1, HP6.out.2, HD6.out⟩
        · go_wp2_with fail
          go_loopw [5] (fun v wr => ∃ (c q : Nat) (ls : List Op), v = .slice (some ⟨q, 0, none⟩) ls.length c ∧ ls.length ≤ 6 ∧ DrO w g v ls p6 wr) (fun v _ => room6 v)
          case atStart => exact ⟨cap, gg, ls, rfl, HP6.out.1, HD6.out⟩
          case round =>
            clear HD6
            obtain ⟨c, q, ls, rfl, hl6, hd⟩ := hrel
            have HD := Lib.hid hd
            clear hd
            by_cases hlt : ls.length ≤ 5
            · have hlI : (ls.length : Int) ≤ 5 := by omega
              obtain ⟨G, hG⟩ : ∃ G, wr.heap.size = G := ⟨_, rfl⟩
              have hGw : w.heap.size ≤ G := by rw [← hG]; exact HD.out.2.2.1.size
              have HBX : Hid (Box (wr.alloc (.cells #[.int .i64 4, .int .i64 0, .int .i64 0, .int .i64 0, .int .i64 0] 49)) G (opE.cells tO).toArray 49) := Lib.hid (by rw [← hG]; exact Box.new wr _ _)
              go_wp2_with (at_builtin; refine El.wpList_append (E := opE) 34 Tryd.underlying34 rfl _ _ rfl w.heap.size (.slice (some ⟨q, 0, none⟩) ls.length c) ls rfl (El.Own.alloc (E := opE) HD.out.1 _) ⟨G, 0, none⟩ 1 1 [tO] rfl rfl (Box.news (E := opE) (x := tO) HBX.out) (by decide) (by omega) (by simp; omega) (G + 1) (by simp [hG]) ?_; intro gg cap w7 hown7 hgr7 hg7 hcap7)
              have HD7 := Lib.hid (HD.out.push hgr7 hown7)
              have hl1 : ls.length + 1 = (ls ++ [tO]).length := by simp
              clear hown7 hgr7 hg7 hcap7 HD HBX hG hGw
              go_roundw
              case rel => exact ⟨cap, _, ls ++ [tO], by rw [← hl1], by simp; omega, HD7.out⟩
              case measure => simp [room6]; omega
            · have hlI : ¬ (ls.length : Int) ≤ 5 := by omega
              have HL6 := Lib.hid hl6
              go_wp2_with fail
              go_ret
              exact ⟨q, c, ls, p6, rfl, HL6.out, HP6.out.2, HD.out⟩
end Go.Proofs.YtiemlakjallphabDoor
