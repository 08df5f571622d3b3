/-
  The scanner reads a list of operations. Condition: the scanner's block holds a text; the listed variables hold what they must.
-/
import Derived.Test.YtbejafbpipdbjaaDoorUrlO
namespace Go.Proofs.YtbejafbpipdbjaaDoor
set_option maxRecDepth 4000
open Go.RowKit

theorem own_op1 (x : Op) {base : Nat} (w : World) (h : base ≤ w.heap.size) : opE.Own (w.alloc (.cells #[.int .i64 x.k, .int .i64 x.a, .int .i64 x.b, .int .i64 x.c, .int .i64 x.d] 25)) base (.slice (some ⟨w.heap.size, 0, none⟩) 1 1) [x] := El.own_one opE x w h
set_option maxHeartbeats 2000000 in
/-- scanList of operations. -/
theorem scanOps_any (g B : Nat) (l : List UInt8) (ok : Bool) (w : World) (hl : l.length ≤ 1048576) (h : Sc w g l ok) (hE : Env w B) (hB : B ≤ g) :
    Calls Tryd.prog 121 #[.pointer (some ⟨g, 0, none⟩), .string (bs [44]), .func (.func 46) #[] #[]] w fun e w' =>
      ∃ A c o os r1 r q1 q, OpR l o r1 q1 ∧ Many 44 OpR r1 os r q ∧ e = .returned (.slice A (os.length + 1) c) ∧ os.length ≤ l.length ∧ r.length ≤ l.length ∧ opE.Own w' w.heap.size (.slice A (os.length + 1) c) (o :: os) ∧ Sc w' g r (ok && (q1 && q)) ∧ w.grownBy w' (some g) := by
  have hBw : g < w.heap.size := by
    obtain ⟨ev, hs, _⟩ := h
    exact Box.lt hs
  have HS := Lib.hid h
  have HT := Lib.hid fun (u : World) (hg : w.grownBy u (some g)) => hE.below (below_of_grown_at hg hB (by omega))
  have HL := Lib.hid hl
  have HBB := Lib.hid (And.intro hB hBw)
  have CN := Lib.hid fun (m : List UInt8) (k : Bool) (u : World) (hm : m.length ≤ 1048576) (hs : Sc u g m k) (hg : w.grownBy u (some g)) => op_any g B m k u hm hs (HT.out u hg) hB
  have CF := Lib.hid fun (m : List UInt8) (k : Bool) (u : World) (hs : Sc u g m k) => follows_any g m [44] k u hs
  clear h hE hl hB hBw
  go_enter Tryd.func121, Tryd.ntmps121
  go_wp2_with fail
  refine (CN.out l ok _ HL.out HS.out (World.grownBy.refl _ _)).mono ?_
  rintro e w1 ⟨o, r1, q1, hop, rfl, hr1, s1, g1⟩
  unfold Op.v
  have hz1 := g1.size
  have ho1 := own_op1 o w1 hz1
  have HS1 := Lib.hid (s1.next ((Below.refl _ w1).alloc (Nat.le_refl _) (.cells #[.int .i64 o.k, .int .i64 o.a, .int .i64 o.b, .int .i64 o.c, .int .i64 o.d] 25)))
  have HG1 := Lib.hid (grown_trans g1 (World.grownBy_alloc w1 (.cells #[.int .i64 o.k, .int .i64 o.a, .int .i64 o.b, .int .i64 o.c, .int .i64 o.d] 25) _))
  have HO1 := Lib.hid ho1
  have HOP := Lib.hid hop
  have HR1 := Lib.hid hr1
  clear s1 g1 hz1 ho1 hop hr1
  go_wp2_with fail
  go_loopw [7] (fun v wr => ∃ (A : Option Addr) (c : Nat) (xs : List Op) (m : List UInt8) (q : Bool), v = .slice A (xs.length + 1) c ∧ xs.length + m.length ≤ l.length ∧ m.length ≤ l.length ∧ opE.Own wr w.heap.size (.slice A (xs.length + 1) c) (o :: xs) ∧ Sc wr g m (ok && (q1 && q)) ∧ w.grownBy wr (some g) ∧
      (∀ ys r q', Many 44 OpR m ys r q' → Many 44 OpR r1 (xs ++ ys) r (q && q'))) (fun v _ => roomL (l.length + 2) v)
  case atStart =>
    refine ⟨_, 1, [], r1, true, rfl, by have := HR1.out; simp; omega, HR1.out, HO1.out, ?_, HG1.out, fun ys r q' hm => ?_⟩
    · rw [Bool.and_true]
      exact HS1.out
    · rw [Bool.true_and]
      exact hm
  case round =>
    obtain ⟨A, c, xs, m, q, rfl, hlen, hml, ho, hs, hg, hmany⟩ := hrel
    have HO := Lib.hid ho
    have HSm := Lib.hid hs
    have HG := Lib.hid hg
    have HM := Lib.hid hmany
    have HLE := Lib.hid (And.intro hlen hml)
    clear ho hs hg hmany hlen hml HO1 HS1 HG1
    go_wp2_with fail
    refine (CF.out m _ _ HSm.out).mono ?_
    rintro e w2 ⟨rfl, s2, g2⟩
    have HS2 := Lib.hid s2
    have HG2 := Lib.hid (grown_trans HG.out g2)
    have HO2 := Lib.hid (HO.out.low_grown g2 HBB.out.2)
    clear s2 g2 HO HSm HG
    obtain ⟨p, hp⟩ : ∃ p, List.isPrefixOf [44] m = p := ⟨_, rfl⟩
    rw [hp]
    cases p
    · obtain ⟨h1, h2⟩ := head_no hp
      rw [h2] at HS2
      have HH := Lib.hid h1
      clear h1 h2 hp
      go_wp2_with fail
      go_ret
      have hm := HM.out [] m true (.stop HH.out)
      rw [List.append_nil, Bool.and_true] at hm
      exact ⟨A, c, o, xs, r1, m, q1, q, HOP.out, hm, rfl, by have := HLE.out; omega, HLE.out.2, HO2.out, HS2.out, HG2.out⟩
    · obtain ⟨t, rfl⟩ := head_pre.mp hp
      rw [cutP_cons] at HS2
      clear hp
      have htl : t.length + 1 = (44 :: t).length := rfl
      have HLT := Lib.hid (show xs.length + t.length + 1 ≤ l.length ∧ t.length ≤ l.length by have := HLE.out; omega)
      clear htl
      go_wp2_with fail
      refine (CN.out t _ _ (by have := HLT.out; have := HL.out; omega) HS2.out HG2.out).mono ?_
      rintro e w3 ⟨x, m3, q3, hopx, rfl, hr3, s3, g3⟩
      have HM3 := Lib.hid fun ys r q' (k : Many 44 OpR m3 ys r q') => HM.out _ r _ (Many.more (part := OpR) (sep := 44) hopx k)
      have HL3 := Lib.hid (show xs.length + 1 + m3.length ≤ l.length ∧ m3.length ≤ l.length by have := HLT.out; omega)
      clear hopx hr3 HLT HLE HM
      have HO3 := Lib.hid (HO2.out.low_grown g3 HBB.out.2)
      have HG3 := Lib.hid (grown_trans HG2.out g3)
      have HS3 := Lib.hid s3
      clear g3 s3 HO2 HG2 HS2
      obtain ⟨G, hG⟩ : ∃ G, w3.heap.size = G := ⟨_, rfl⟩
      have hGw : w.heap.size ≤ G := by rw [← hG]; exact HG3.out.size
      have HBX : Hid (Box (w3.alloc (.cells #[.int .i64 x.k, .int .i64 x.a, .int .i64 x.b, .int .i64 x.c, .int .i64 x.d] 25)) G (opE.cells x).toArray 25) := Lib.hid (by rw [← hG]; exact Box.new w3 _ _)
      have hl0 : (o :: xs).length = xs.length + 1 := rfl
      have HOA : Hid (opE.Own (w3.alloc (.cells #[.int .i64 x.k, .int .i64 x.a, .int .i64 x.b, .int .i64 x.c, .int .i64 x.d] 25)) w.heap.size (.slice A (xs.length + 1) c) (o :: xs)) := Lib.hid (El.Own.alloc (E := opE) HO3.out _)
      unfold Op.v
      go_wp2_with (at_builtin; refine El.wpList_append (E := opE) 37 Tryd.underlying37 rfl _ _ rfl w.heap.size (.slice A (xs.length + 1) c) (o :: xs) rfl HOA.out ⟨G, 0, none⟩ 1 1 [x] rfl rfl (Box.news (E := opE) (x := x) HBX.out) (by decide) (by have := HL3.out; have := HL.out; simp; omega) (by simp; omega) _ rfl ?_; intro g4 cap w4 hown4 hgr4 hg4 hcap4)
      have HS4 := Lib.hid ((HS3.out.next ((Below.refl _ w3).alloc (Nat.le_refl _) (.cells #[.int .i64 x.k, .int .i64 x.a, .int .i64 x.b, .int .i64 x.c, .int .i64 x.d] 25))).push HOA.out hgr4 (by decide) (by decide))
      have HG4 := Lib.hid (grown_own (grown_trans HG3.out (World.grownBy_alloc w3 (.cells #[.int .i64 x.k, .int .i64 x.a, .int .i64 x.b, .int .i64 x.c, .int .i64 x.d] 25) (some g))) hgr4 (fun k hk => (World.ownsRow.lt HOA.out k hk).1))
      have HO4 := Lib.hid hown4
      have hl1 : xs.length + 1 = (xs ++ [x]).length := by simp
      clear hgr4 hown4 hg4 hcap4 HBX HOA
      go_roundw
      case rel =>
        refine ⟨_, cap, xs ++ [x], m3, q && q3, by rw [← hl1], by rw [← hl1]; exact HL3.out.1, HL3.out.2, by rw [← hl1]; exact HO4.out, ?_, HG4.out, fun ys r q' k => ?_⟩
        · have := HS4.out
          rw [Bool.and_assoc, Bool.and_assoc] at this
          exact this
        · rw [List.append_assoc, Bool.and_assoc]
          exact HM3.out ys r q' k
      case measure =>
        have := HL3.out
        simp [roomL]
        omega
end Go.Proofs.YtbejafbpipdbjaaDoor
