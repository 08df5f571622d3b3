/-
  DrawBitPut draws at most 300 bit numbers. Condition: at most 2^30 bytes to draw from.
-/
import Derived.Test.YtdipihdpfkoddaaDoorDrawNum
import Derived.Test.YtdipihdpfkoddaaDoorPushN
namespace Go.Proofs.YtdipihdpfkoddaaDoor
open Go.RowKit

theorem OwnN.keepRd {w w' : World} {base g : Nat} {v : Value} {l : List (Int × Int)} (h : OwnN w base v l) (hg : w.grownBy w' (some g)) (hb : g < base) : OwnN w' base v l :=
  World.ownsRow.kept h hg (by
    cases hv : v.ownBlock with
    | none => exact .inl rfl
    | some q =>
      refine .inr fun e => ?_
      have := (World.ownsRow.lt h q hv).1
      injection e with e
      omega)
/-- A drawing that stands: the reader, the numbers drawn so far, and nothing of before changed. -/
def Drawn (w W : World) (base : Nat) (v : Value) (ns : List (Int × Int)) (p : Nat) : Prop := Rdr W w.heap.size p ∧ w.heap.size < base ∧ base ≤ W.heap.size ∧ OwnN W base v ns ∧ Below w.heap.size w W
theorem Drawn.step {w W W' : World} {base p p' : Nat} {v : Value} {ns : List (Int × Int)} (h : Drawn w W base v ns p) (hr : Rdr W' w.heap.size p') (hg : W.grownBy W' (some w.heap.size)) : Drawn w W' base v ns p' :=
  ⟨hr, h.2.1, Nat.le_trans h.2.2.1 hg.size, h.2.2.2.1.keepRd hg h.2.1, below_of_grown h.2.2.2.2 hg (Nat.le_refl _) h.2.2.2.2.size⟩
theorem Drawn.push {w W W' : World} {base p n' : Nat} {v v' : Value} {ns ns' : List (Int × Int)} {o : Obj} (h : Drawn w W base v ns p) (ho : OwnN W' base v' ns') (hg : (W.alloc o).grownBy W' v.ownBlock) (_ : n' = n') : Drawn w W' base v' ns' p := by
  obtain ⟨h1, h2, h3, h4, h5⟩ := h
  refine ⟨(h1.alloc o).grown hg (fun k hk => by have := (World.ownsRow.lt h4 k hk).1; omega), h2, ?_, ho, (h5.alloc h5.size o).grown hg (by have := h5.size; simp; omega) (fun k hk => by have := (World.ownsRow.lt h4 k hk).1; omega)⟩
  have := hg.size
  simp at this
  omega
/-- What DrawBitPut answers: some numbers, no more than 300. -/
def DrewN (w : World) (e : Ending) (w' : World) : Prop := ∃ v base, ∃ ns : List (Int × Int), ∃ p, e = .returned v ∧ Drawn w w' base v ns p ∧ ns.length ≤ 300
/-- How many numbers are missing to 300. -/
def room3 (v : Value) : Nat := match v with | .slice _ n _ => 300 - n | _ => 0
theorem room3_lt (A A' : Option Addr) (n c c' : Nat) (h : n < 300) : room3 (.slice A' (n + 1) c') < room3 (.slice A n c) := by unfold room3; show 300 - (n + 1) < 300 - n; omega

set_option maxHeartbeats 2000000 in
theorem drawBitPut_any (A : Option Addr) (c : Nat) (l : List UInt8) (w : World) (hs : l.length ≤ 1073741824) (hc : l.length ≤ c) (h : Has w w.heap.size A l) :
    Calls Tryd.prog 6 #[.slice A l.length c] w (DrewN w) := by
  go_enter Tryd.func6, Tryd.ntmps6
  go_wp2_with fail
  refine (l20Open_any A c l _ hs hc h).mono ?_
  rintro e w1 ⟨rfl, hr, hb⟩
  have hz := hr.lt
  have hd0 : Drawn w (w1.alloc (.cells #[] 29)) w1.heap.size (.slice (some ⟨w1.heap.size, 0, none⟩) 0 0) [] 0 := ⟨hr.alloc _, hz, by simp, ownN_empty (Nat.le_refl _), hb.alloc hb.size _⟩
  have C1 := Lib.hid (pick_any w.heap.size 0 20 _ hd0.1 (by omega) (by omega) (by omega))
  have HD0 := Lib.hid hd0
  clear hr hb hz hd0 h hs hc
  go_wp2_with fail
  refine C1.out.mono ?_
  rintro e w2 ⟨k1, rfl, hk1, -, hr2, hg2, -⟩
  have hk : k1 < 20 := by have := hk1 (by omega); omega
  have HD2 := Lib.hid (HD0.out.step hr2 hg2)
  clear C1 HD0 hk1 hr2 hg2
  go_wp2_with fail
  go_loopw [4, 5] (fun v i wr => ∃ (k p : Nat) (ns : List (Int × Int)), i = .int .i64 k ∧ ns.length + k ≤ 19 ∧ p + 6 * k ≤ 200 ∧ Drawn w wr w1.heap.size v ns p) (fun _ i _ => (intOf i).toNat)
  case atStart => exact ⟨k1, 1, [], rfl, by simp; omega, by omega, HD2.out⟩
  case round =>
    clear HD2
    obtain ⟨k, p, ns, rfl, hnk, hpk, hd⟩ := hrel
    by_cases hlt : 0 < k
    · have CN := Lib.hid (l20Num_any w.heap.size p 0 _ hd.1 (by omega) (by omega) (by omega))
      have HD := Lib.hid hd
      clear hd
      go_wp2_with fail
      refine CN.out.mono ?_
      rintro e w3 ⟨n, b, rfl, ⟨p3, hp3, hr3⟩, hg3⟩
      have HD3 := Lib.hid (HD.out.step hr3 hg3)
      clear HD CN hr3 hg3
      go_wp2_with (at_builtin; refine wpList_pushN rfl (.tmp 15) (.tmp 18) rfl w1.heap.size _ ns rfl HD3.out.2.2.2.1 n b w3.heap.size rfl rfl (by omega) HD3.out.2.2.1 ?_; intro g5 c5 w5 ho5 hg5)
      have HD5 := Lib.hid (HD3.out.push ho5 hg5 (rfl : 0 = 0))
      clear HD3 ho5 hg5
      go_wp2
      go_roundw
      case rel => exact ⟨k - 1, p3, ns ++ [(n, b)], by go_num, by simp; omega, by omega, HD5.out⟩
      case measure => simp [intOf]; omega
    · have C6 := Lib.hid (oddAt_any w.heap.size p 6 _ hd.1 (by omega) (by omega) (by omega))
      have HD := Lib.hid hd
      clear hd
      go_wp2_with fail
      refine C6.out.mono ?_
      rintro e w6 ⟨b6, rfl, p6, hp6, hr6, hg6⟩
      have HD6 := Lib.hid (HD.out.step hr6 hg6)
      clear C6 HD hr6 hg6
      cases b6
      · have C20 := Lib.hid (oddAt_any w.heap.size p6 20 _ HD6.out.1 (by omega) (by omega) (by omega))
        go_wp2_with fail
        refine C20.out.mono ?_
        rintro e w8 ⟨b8, rfl, p8, hp8, hr8, hg8⟩
        have HD8 := Lib.hid (HD6.out.step hr8 hg8)
        clear C20 HD6 hr8 hg8
        cases b8
        · have HL : Hid ((ns).length ≤ 300) := Lib.hid (by omega)
          go_wp2_with fail
          go_ret
          exact ⟨_, _, _, _, rfl, HD8.out, HL.out⟩
        · have HL : Hid ((ns).length ≤ 300) := Lib.hid (by omega)
          go_wp2_with fail
          go_loopw [4] (fun v wr => ∃ m : List (Int × Int), m.length ≤ 300 ∧ Drawn w wr w1.heap.size v m p8) (fun v _ => room3 v)
          case atStart => exact ⟨_, HL.out, HD8.out⟩
          case round =>
            clear HL HD8
            obtain ⟨m, hm, hd⟩ := hrel
            obtain ⟨A4, c4, hv4, -, -⟩ := hd.2.2.2.1.has
            subst hv4
            have HM := Lib.hid hm
            have HD := Lib.hid hd
            by_cases hlt3 : m.length < 300
            · have hq : (m.length : Int) < 300 := by omega
              clear hm hd hlt3
              go_wp2_with (at_builtin; refine wpList_pushN rfl (.tmp 32) (.tmp 34) rfl w1.heap.size _ m rfl HD.out.2.2.2.1 1 12 wr.heap.size rfl rfl (by omega) HD.out.2.2.1 ?_; intro g5 c5 w5 ho5 hg5)
              have HD5 := Lib.hid (HD.out.push ho5 hg5 (rfl : 0 = 0))
              clear HD ho5 hg5
              go_wp2
              go_roundw
              case rel => exact ⟨m ++ [(1, 12)], by simp; omega, HD5.out⟩
              case measure => exact room3_lt _ _ _ _ _ (by omega)
            · have hq : ¬ ((m.length : Int) < 300) := by omega
              clear hm hd hlt3
              go_wp2
              go_ret
              exact ⟨_, _, m, _, rfl, HD.out, HM.out⟩
      · have C7 := Lib.hid (l20Num_any w.heap.size p6 1 _ HD6.out.1 (by omega) (by omega) (by omega))
        go_wp2_with fail
        refine C7.out.mono ?_
        rintro e w7 ⟨n, b, rfl, ⟨p7, hp7, hr7⟩, hg7⟩
        have HD7 := Lib.hid (HD6.out.step hr7 hg7)
        clear HD6 C7 hr7 hg7
        go_wp2_with (at_builtin; refine wpList_pushN rfl (.tmp 22) (.tmp 25) rfl w1.heap.size _ ns rfl HD7.out.2.2.2.1 n b w7.heap.size rfl rfl (by omega) HD7.out.2.2.1 ?_; intro g9 c9 w9 ho9 hg9)
        have HD9 := Lib.hid (HD7.out.push ho9 hg9 (rfl : 0 = 0))
        clear HD7 ho9 hg9
        have C20 := Lib.hid (oddAt_any w.heap.size p7 20 _ HD9.out.1 (by omega) (by omega) (by omega))
        go_wp2_with fail
        refine C20.out.mono ?_
        rintro e w8 ⟨b8, rfl, p8, hp8, hr8, hg8⟩
        have HD8 := Lib.hid (HD9.out.step hr8 hg8)
        clear C20 HD9 hr8 hg8
        cases b8
        · have HL : Hid ((ns ++ [(n, b)]).length ≤ 300) := Lib.hid (by simp; omega)
          go_wp2_with fail
          go_ret
          exact ⟨_, _, _, _, rfl, HD8.out, HL.out⟩
        · have HL : Hid ((ns ++ [(n, b)]).length ≤ 300) := Lib.hid (by simp; omega)
          go_wp2_with fail
          go_loopw [4] (fun v wr => ∃ m : List (Int × Int), m.length ≤ 300 ∧ Drawn w wr w1.heap.size v m p8) (fun v _ => room3 v)
          case atStart => exact ⟨_, HL.out, HD8.out⟩
          case round =>
            clear HL HD8
            obtain ⟨m, hm, hd⟩ := hrel
            obtain ⟨A4, c4, hv4, -, -⟩ := hd.2.2.2.1.has
            subst hv4
            have HM := Lib.hid hm
            have HD := Lib.hid hd
            by_cases hlt3 : m.length < 300
            · have hq : (m.length : Int) < 300 := by omega
              clear hm hd hlt3
              go_wp2_with (at_builtin; refine wpList_pushN rfl (.tmp 32) (.tmp 34) rfl w1.heap.size _ m rfl HD.out.2.2.2.1 1 12 wr.heap.size rfl rfl (by omega) HD.out.2.2.1 ?_; intro g5 c5 w5 ho5 hg5)
              have HD5 := Lib.hid (HD.out.push ho5 hg5 (rfl : 0 = 0))
              clear HD ho5 hg5
              go_wp2
              go_roundw
              case rel => exact ⟨m ++ [(1, 12)], by simp; omega, HD5.out⟩
              case measure => exact room3_lt _ _ _ _ _ (by omega)
            · have hq : ¬ ((m.length : Int) < 300) := by omega
              clear hm hd hlt3
              go_wp2
              go_ret
              exact ⟨_, _, m, _, rfl, HD.out, HM.out⟩
end Go.Proofs.YtdipihdpfkoddaaDoor
