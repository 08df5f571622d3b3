/-
  The reference reads operations. Condition: the text has at most 2^20 bytes.
-/
import Derived.Test.YtbejafbpipdbjaaDoorUrlY
namespace Go.Proofs.YtbejafbpipdbjaaDoor
set_option maxRecDepth 4000
open Go.RowKit

theorem ownE_nonnil {α : Type} {E : El α} {w : World} {base : Nat} {A : Option Addr} {n c : Nat} {l : List α} (h : E.Own w base (.slice A n c) l) (hl : 0 < l.length) : ∃ g, A = some ⟨g, 0, none⟩ ∧ base ≤ g ∧ g < w.heap.size := by
  rcases h.2 with ⟨e, hn⟩ | ⟨g, cap, cur, e, hb, hg, _⟩
  · omega
  · injection e with e _ _
    exact ⟨g, e, hb, (Array.getElem?_eq_some_iff.1 hg).1⟩
/-- What reading operations comes to. -/
def GaveOps (l : List UInt8) (w : World) (e : Ending) (w' : World) : Prop :=
  ∃ A c os b, e = .returned (.tuple #[.slice A os.length c, .bool b]) ∧ os.length ≤ l.length + 1 ∧ (∀ os0 : List Op, os0.all opB = true → opsT os0 = l → b = true ∧ os = os0) ∧ opE.Own w' w.heap.size (.slice A os.length c) os ∧ Below w.heap.size w w'
theorem opsT_dash {os : List Op} (h : os.all opB = true) (he : opsT os = [45]) : os = [] := by
  cases os with
  | nil => rfl
  | cons o r =>
    rw [List.all_cons, Bool.and_eq_true] at h
    obtain ⟨c, t, h1, h2⟩ := opT_head h.1
    rw [opsT, h1, List.cons_append] at he
    injection he with he _
    subst he
    cases h2
set_option maxHeartbeats 4000000 in
theorem l7Read_any (l : List UInt8) (w : World) (hl : l.length ≤ 1048576) :
    Calls Tryd.prog 59 #[.string (bs l)] w (GaveOps l w) := by
  have ho0 : opE.Own (w.alloc (.cells #[] 25)) w.heap.size (.slice (some ⟨w.heap.size, 0, none⟩) 0 0) [] := El.own_empty opE (Nat.le_refl _)
  have HO0 := Lib.hid ho0
  have HB0 := Lib.hid ((Below.refl _ w).alloc (Nat.le_refl _) (.cells #[] 25))
  have h45 : ByteArray.mk #[45] = bs [45] := rfl
  have hq : ∀ a b : List UInt8, ((bs a).toList == (bs b).toList) = decide (a = b) := bs_eq
  by_cases hd : l = [45]
  · clear ho0
    go_enter Tryd.func59, Tryd.ntmps59
    go_wp2_with fail
    (try simp only [Exit.inBlock, Exit.then])
    refine bodyPost_ret (results_tmp2 rfl _ _ _) rfl ?_
    exact ⟨_, 0, [], true, rfl, Nat.zero_le _, fun os0 h1 h2 => ⟨rfl, (opsT_dash h1 (h2.trans hd)).symm⟩, HO0.out, HB0.out⟩
  have hsz : (w.alloc (.cells #[] 25)).heap.size = w.heap.size + 1 := by simp
  have CC := Lib.hid fun u => l7Cut_any l 44 u hl
  have h44 : ((44 : UInt8).toNat : Int) = 44 := rfl
  obtain ⟨P, hP⟩ : ∃ P, cutL 44 l = P := ⟨_, rfl⟩
  have hP0 : 0 < P.length := by rw [← hP]; exact List.length_pos_iff.mpr (cutL_ne 44 l)
  have HD := Lib.hid (show ∀ os0 : List Op, os0.all opB = true → opsT os0 = l → P = os0.map opT from fun os0 h1 h2 => by
    cases os0 with
    | nil => exact absurd h2.symm hd
    | cons o r => rw [← hP, ← h2]; exact opsT_cut h1)
  have HML := Lib.hid fun (p : List UInt8) (hp : p ∈ P) => (show p.length ≤ 1048576 from by
    have := cutL_mem (c := 44) (l := l) (x := p) (by rw [hP]; exact hp)
    omega)
  rw [hP] at CC
  obtain ⟨N, hN⟩ : ∃ N, P.length = N := ⟨_, rfl⟩
  have HN := Lib.hid (And.intro hN hP0)
  have HL := Lib.hid hl
  have CR := Lib.hid fun p u hp => specOpRead_any p u hp
  rw [hN] at CC
  clear ho0 hP hP0 hN hl
  go_enter Tryd.func59, Tryd.ntmps59
  go_wp2_with fail
  refine (CC.out _).mono ?_
  rintro e w1 ⟨A1, cp, rfl, hPl, hown, b1⟩
  obtain ⟨gp, rfl, hg1, hg2⟩ := ownE_nonnil hown HN.out.2
  have HPL := Lib.hid hPl
  have HP1 := Lib.hid hown
  have HO1 := Lib.hid (HO0.out.below b1 (Nat.le_refl _))
  have HB1 := Lib.hid (HB0.out.trans (b1.mono HB0.out.size))
  have HG := Lib.hid (show w.heap.size ≠ gp by omega)
  clear hPl hown b1 HO0 HB0 hg1 hg2
  go_wp2_with fail
  go_loopw [4, 6] (fun o i wr => ∃ (k g c : Nat) (os : List Op), k ≤ N ∧ i = .int .i64 (k : Int) ∧ o = .slice (some ⟨g, 0, none⟩) os.length c ∧ g ≠ gp ∧ os.length = k ∧ (∀ os0 : List Op, os0.all opB = true → opsT os0 = l → os = os0.take k) ∧
      opE.Own wr w.heap.size (.slice (some ⟨g, 0, none⟩) os.length c) os ∧ strE.Own wr (w.alloc (.cells #[] 25)).heap.size (.slice (some ⟨gp, 0, none⟩) N cp) P ∧ Below w.heap.size w wr) (fun _ i _ => N - (intOf i).toNat)
  case atStart => exact ⟨0, _, 0, [], Nat.zero_le _, rfl, rfl, HG.out, rfl, fun _ _ _ => rfl, HO1.out, HP1.out, HB1.out⟩
  case round =>
    obtain ⟨k, g, c, os, hk, rfl, rfl, hgne, hosk, hos, ho, hp, hb⟩ := hrel
    have HK := Lib.hid (And.intro hgne hosk)
    have HOS := Lib.hid hos
    have HO := Lib.hid ho
    have HP := Lib.hid hp
    have HB := Lib.hid hb
    clear hgne hosk hos ho hp hb HO1 HP1 HB1
    by_cases hlt : k < N
    · obtain ⟨b, o, p, hbo, hbB, hx, hc⟩ := HP.out.reads.spot (k := k) (by rw [HN.out.1]; exact hlt)
      injection hbo with hbo
      injection hbo with e1 e2
      subst e1 e2
      have c0 : wr.cell? ⟨gp, k, none⟩ = some (.string (bs p)) := by
        have := hc 0 _ rfl
        simpa [strE] using this
      have hkI : (k : Int) < (N : Int) := by omega
      have CX := Lib.hid (CR.out p wr (HML.out p (List.mem_of_getElem? hx)))
      have HX := Lib.hid hx
      clear hc hx hbB
      go_wp2_with fail
      refine CX.out.mono ?_
      rintro e w2 ⟨hcase, b2⟩
      have HO2 := Lib.hid (HO.out.below b2 (Nat.le_refl _))
      have HP2 := Lib.hid (HP.out.below b2 (Nat.le_refl _))
      have HB2 := Lib.hid (HB.out.trans (b2.mono HB.out.size))
      clear b2 HO HP HB c0
      rcases hcase with ⟨x, hx1, hx2, rfl⟩ | ⟨hno, rfl⟩
      · have HX2 := Lib.hid (And.intro hx1 hx2)
        unfold Op.v
        clear hx1 hx2
        have HOn := Lib.hid (show ∀ os0 : List Op, os0.all opB = true → opsT os0 = l → os ++ [x] = os0.take (k + 1) from fun os0 h1 h2 => by
          have h3 := HD.out os0 h1 h2
          have h4 := HX.out
          rw [h3, List.getElem?_map, Option.map_eq_some_iff] at h4
          obtain ⟨y, hy, e⟩ := h4
          have h5 := op_of_text HX2.out.1 (List.all_eq_true.1 h1 y (List.mem_of_getElem? hy)) (HX2.out.2.trans e.symm)
          rw [HOS.out os0 h1 h2, List.take_add_one, hy, h5]
          rfl)
        have HBa := Lib.hid (HB2.out.alloc HB2.out.size (.cells #[.int .i64 x.k, .int .i64 x.a, .int .i64 x.b, .int .i64 x.c, .int .i64 x.d] 25))
        have HXa : Hid (Box (w2.alloc (.cells #[.int .i64 x.k, .int .i64 x.a, .int .i64 x.b, .int .i64 x.c, .int .i64 x.d] 25)) w2.heap.size #[.int .i64 x.k, .int .i64 x.a, .int .i64 x.b, .int .i64 x.c, .int .i64 x.d] 25) := Lib.hid (Box.new w2 _ _)
        have HOa := Lib.hid (HO2.out.alloc (.cells #[.int .i64 x.k, .int .i64 x.a, .int .i64 x.b, .int .i64 x.c, .int .i64 x.d] 25))
        have HPa := Lib.hid (HP2.out.alloc (.cells #[.int .i64 x.k, .int .i64 x.a, .int .i64 x.b, .int .i64 x.c, .int .i64 x.d] 25))
        have HBX : Hid (Box ((w2.alloc (.cells #[.int .i64 x.k, .int .i64 x.a, .int .i64 x.b, .int .i64 x.c, .int .i64 x.d] 25)).alloc (.cells #[.int .i64 x.k, .int .i64 x.a, .int .i64 x.b, .int .i64 x.c, .int .i64 x.d] 25)) (w2.heap.size + 1) (opE.cells x).toArray 25) := Lib.hid (by
          have := Box.new (w2.alloc (.cells #[.int .i64 x.k, .int .i64 x.a, .int .i64 x.b, .int .i64 x.c, .int .i64 x.d] 25)) #[.int .i64 x.k, .int .i64 x.a, .int .i64 x.b, .int .i64 x.c, .int .i64 x.d] 25
          have e : (w2.alloc (.cells #[.int .i64 x.k, .int .i64 x.a, .int .i64 x.b, .int .i64 x.c, .int .i64 x.d] 25)).heap.size = w2.heap.size + 1 := by simp
          rw [e] at this
          exact this)
        have HBb := Lib.hid (HBa.out.alloc HBa.out.size (.cells #[.int .i64 x.k, .int .i64 x.a, .int .i64 x.b, .int .i64 x.c, .int .i64 x.d] 25))
        have HOb := Lib.hid (HOa.out.alloc (.cells #[.int .i64 x.k, .int .i64 x.a, .int .i64 x.b, .int .i64 x.c, .int .i64 x.d] 25))
        have HPb := Lib.hid (HPa.out.alloc (.cells #[.int .i64 x.k, .int .i64 x.a, .int .i64 x.b, .int .i64 x.c, .int .i64 x.d] 25))
        have hgG : gp < w2.heap.size := by
          have := (HP2.out.block (q := gp) rfl).2
          exact this
        have hwG : w.heap.size ≤ w2.heap.size := HB2.out.size
        have HNE := Lib.hid HK.out
        have hNN : N ≤ 1048577 := by have := HPL.out; have := HL.out; omega
        have HNN := Lib.hid hNN
        have u1 := IntWalk.i64_in ((k : Int) + 1) (by omega)
        have HGG := Lib.hid (And.intro hgG hwG)
        clear HB2 HO2 HP2 HBa HOa HPa hNN hgG hwG HXa
        go_wp2_with (at_builtin; refine El.wpList_append (E := opE) 37 Tryd.underlying37 rfl _ _ rfl w.heap.size (.slice (some ⟨g, 0, none⟩) os.length c) os rfl HOb.out ⟨w2.heap.size + 1, 0, none⟩ 1 1 [x] rfl rfl (Box.news (E := opE) (x := x) HBX.out) (by decide) (by have := HNN.out; have := HNE.out.2; omega) (by have := HGG.out; simp; omega) _ rfl ?_; intro g4 cap w4 hown4 hgr4 hg4 hcap4)
        have HB4 := Lib.hid (HBb.out.grown hgr4 (Nat.le_trans HBb.out.size (Nat.le_refl _)) (fun q hq => (World.ownsRow.lt HOb.out q hq).1))
        have HO4 := Lib.hid hown4
        have HP4 := Lib.hid (HPb.out.keep hgr4 (.inr (show (some gp : Option Nat) ≠ some g from fun e => HNE.out.1 (Option.some.inj e).symm)))
        have hl1 : os.length + 1 = (os ++ [x]).length := by simp
        have HG4 := Lib.hid (show g4 ≠ gp from by
          rcases hg4 with h | h
          · have : g = g4 := Option.some.inj h
            exact this ▸ HNE.out.1
          · have := HGG.out
            simp at h
            omega)
        clear hgr4 hown4 hg4 hcap4 HBX HBb HOb HPb
        go_roundw
        case rel =>
          exact ⟨k + 1, g4, cap, os ++ [x], by omega, by go_num, by rw [← hl1], HG4.out, by rw [← hl1, HNE.out.2], HOn.out, by rw [← hl1]; exact HO4.out, HP4.out, HB4.out⟩
        case measure =>
          clear hl1
          simp [intOf]
          omega
      · have HNO := Lib.hid (show ∀ os0 : List Op, os0.all opB = true → opsT os0 = l → False from fun os0 h1 h2 => by
          have h3 := HD.out os0 h1 h2
          have h4 := HX.out
          rw [h3, List.getElem?_map, Option.map_eq_some_iff] at h4
          obtain ⟨y, hy, e⟩ := h4
          exact hno y (List.all_eq_true.1 h1 y (List.mem_of_getElem? hy)) e)
        clear hno
        have HBa := Lib.hid (HB2.out.alloc HB2.out.size (.cells #[.int .i64 0, .int .i64 0, .int .i64 0, .int .i64 0, .int .i64 0] 25))
        have HOa := Lib.hid (El.own_empty opE (w := w2.alloc (.cells #[.int .i64 0, .int .i64 0, .int .i64 0, .int .i64 0, .int .i64 0] 25)) (base := w.heap.size) HBa.out.size)
        have HBb := Lib.hid (HBa.out.alloc HBa.out.size (.cells #[] 25))
        go_wp2_with fail
        (try simp only [Exit.inBlock, Exit.then])
        refine bodyPost_ret (results_tmp2 rfl _ _ _) rfl ?_
        exact ⟨_, 0, [], false, rfl, Nat.zero_le _, fun os0 h1 h2 => (HNO.out os0 h1 h2).elim, by
          have := HOa.out
          have e : (w2.alloc (.cells #[.int .i64 0, .int .i64 0, .int .i64 0, .int .i64 0, .int .i64 0] 25)).heap.size = w2.heap.size + 1 := by simp
          rw [e] at this
          exact this, HBb.out⟩
    · obtain rfl : k = N := by omega
      have HE := Lib.hid (show ∀ os0 : List Op, os0.all opB = true → opsT os0 = l → os = os0 from fun os0 h1 h2 => by
        have h3 := HOS.out os0 h1 h2
        have h4 := congrArg List.length (HD.out os0 h1 h2)
        rw [List.length_map, HN.out.1] at h4
        rw [h3, h4, List.take_length])
      go_wp2_with fail
      (try simp only [Exit.inBlock, Exit.then])
      refine bodyPost_ret (results_tmp2 rfl _ _ _) rfl ?_
      exact ⟨_, c, os, true, rfl, by have := HPL.out; have := HK.out.2; omega, fun os0 h1 h2 => ⟨rfl, HE.out os0 h1 h2⟩, HO.out, HB.out⟩
end Go.Proofs.YtbejafbpipdbjaaDoor
