/-
  FnOpText: operations are written and read as the document asks, at every draw. Condition: the listed variables hold what they must.
-/
import Derived.Test.YtbejafbpipdbjaaDoorUrlT
import Derived.Test.YtbejafbpipdbjaaDoorUrlY
import Derived.Test.YtbejafbpipdbjaaDoorUrlU
import Derived.Test.YtbejafbpipdbjaaDoorDrawUO
import Derived.Test.YtbejafbpipdbjaaDoorEaOk
namespace Go.Proofs.YtbejafbpipdbjaaDoor
set_option maxRecDepth 4000
open Go.RowKit

/-- What a text reads as, whoever reads it. -/
def ReadsO (l : List UInt8) (x : Op) (b : Bool) : Prop := (b = true ∧ opB x = true ∧ opT x = l) ∨ (b = false ∧ x = ⟨0, 0, 0, 0, 0⟩ ∧ ∀ a, opB a = true → opT a ≠ l)
theorem readsO (l : List UInt8) : ∃ x b, ReadsO l x b := by
  by_cases h : ∃ a, opB a = true ∧ opT a = l
  · obtain ⟨a, h1, h2⟩ := h
    exact ⟨a, true, .inl ⟨rfl, h1, h2⟩⟩
  · exact ⟨⟨0, 0, 0, 0, 0⟩, false, .inr ⟨rfl, rfl, fun a h1 h2 => h ⟨a, h1, h2⟩⟩⟩
theorem GaveO.one {l : List UInt8} {x : Op} {b : Bool} {w w' : World} {e : Ending} (hx : ReadsO l x b)
    (h : ((∃ o, opB o = true ∧ opT o = l ∧ e = .returned (.tuple #[o.v, .bool true])) ∨ ((∀ o, opB o = true → opT o ≠ l) ∧ e = .returned (.tuple #[.agg #[.int .i64 0, .int .i64 0, .int .i64 0, .int .i64 0, .int .i64 0], .bool false]))) ∧ Below w.heap.size w w') :
    e = .returned (.tuple #[.agg #[.int .i64 x.k, .int .i64 x.a, .int .i64 x.b, .int .i64 x.c, .int .i64 x.d], .bool b]) ∧ Below w.heap.size w w' := by
  obtain ⟨h, hb⟩ := h
  refine ⟨?_, hb⟩
  rcases h with ⟨a, h1, h2, he⟩ | ⟨hno, he⟩
  · rcases hx with ⟨rfl, k1, k2⟩ | ⟨rfl, -, k⟩
    · obtain rfl := op_of_text h1 k1 (h2.trans k2.symm)
      exact he
    · exact absurd h2 (k a h1)
  · rcases hx with ⟨rfl, k1, k2⟩ | ⟨rfl, rfl, k⟩
    · exact absurd k2 (hno x k1)
    · exact he
set_option maxHeartbeats 4000000 in
theorem fnOpText_small (A : Option Addr) (c : Nat) (l : List UInt8) (A' : Option Addr) (c' : Nat) (l' : List UInt8) (w : World) (hE : Env w w.heap.size) (h : Has w w.heap.size A l) (hc : l.length ≤ c) (h' : Has w w.heap.size A' l') (hc' : l'.length ≤ c') (hs : l.length ≤ 1048576) (hs' : l'.length ≤ 1048576) :
    Calls Tryd.prog 9 #[.slice A l.length c, .slice A' l'.length c'] w fun e w' => e = .returned (.bool true) ∧ Below w.heap.size w w' := by
  have HE := Lib.hid fun u (hb : Below w.heap.size w u) => hE.below hb
  have CD := Lib.hid fun u (hb : Below w.heap.size w u) => drawOpText_any A c l u (by omega) hc (h.carry hb (Nat.le_refl _) hb.size)
  have CE := Lib.hid fun u (hb : Below w.heap.size w u) => drawOpRead_any A' c' l' u (by omega) hc' (h'.carry hb (Nat.le_refl _) hb.size)
  have CT := Lib.hid fun o u (hb : Below w.heap.size w u) => implOpText_any o u w.heap.size (HE.out u hb).toEnvW hb.size
  have CS := Lib.hid fun o u => specOpText_any o u
  have CI := Lib.hid fun s x b u (hx : ReadsO s x b) (hl : s.length ≤ 1048576) (hb : Below w.heap.size w u) => (opRead_any s w.heap.size u hl (HE.out u hb) hb.size).mono fun e w' hg => GaveO.one hx hg
  have CR := Lib.hid fun s x b u (hx : ReadsO s x b) (hl : s.length ≤ 1048576) => (specOpRead_any s u hl).mono fun e w' hg => GaveO.one hx hg
  have CO := Lib.hid fun o u (hb : Below w.heap.size w u) => implOpOk_any o u (HE.out u hb).ran
  have CQ := Lib.hid fun o u => specOpOk_any o u
  have CZ := Lib.hid eaOk_any
  have hq : ∀ a b : List UInt8, ((bs a).toList == (bs b).toList) = decide (a = b) := bs_eq
  obtain ⟨n, hn⟩ : ∃ n, l.length = n := ⟨_, rfl⟩
  obtain ⟨n', hn'⟩ : ∃ n, l'.length = n := ⟨_, rfl⟩
  rw [hn] at CD hs ⊢
  rw [hn'] at CE hs' ⊢
  have k1 : decide ((1048576 : Int) < (n : Int)) = false := decide_eq_false (by omega)
  have k2 : decide ((1048576 : Int) < (n' : Int)) = false := decide_eq_false (by omega)
  unfold Op.v at CT CS CO CQ
  clear hn hn' h h' hc hc' hs hs' hE
  go_enter Tryd.func9, Tryd.ntmps9
  go_wp2_with fail
  refine (CD.out _ (Below.refl _ _)).mono ?_
  rintro e w1 ⟨o, rfl, b1⟩
  unfold Op.v
  have B1 := Lib.hid (b1.alloc b1.size (.cells #[.int .i64 o.k, .int .i64 o.a, .int .i64 o.b, .int .i64 o.c, .int .i64 o.d] 25))
  have X1 : Hid (Box (w1.alloc (.cells #[.int .i64 o.k, .int .i64 o.a, .int .i64 o.b, .int .i64 o.c, .int .i64 o.d] 25)) w1.heap.size #[.int .i64 o.k, .int .i64 o.a, .int .i64 o.b, .int .i64 o.c, .int .i64 o.d] 25) := Lib.hid (Box.new w1 _ _)
  clear b1 CD
  go_wp2_with fail
  refine (CE.out _ B1.out).mono ?_
  rintro e w2 ⟨s, rfl, hsl, b2⟩
  have HSL := Lib.hid hsl
  have B2 := Lib.hid (B1.out.trans (b2.mono B1.out.size))
  have X2 := Lib.hid (X1.out.next b2)
  clear b2 hsl CE B1 X1
  obtain ⟨x, b, hx⟩ := readsO s
  have HX := Lib.hid hx
  clear hx
  have x0 := X2.out.cell (i := 0) (v := .int .i64 o.k) rfl
  have x1 := X2.out.cell (i := 1) (v := .int .i64 o.a) rfl
  have x2 := X2.out.cell (i := 2) (v := .int .i64 o.b) rfl
  have x3 := X2.out.cell (i := 3) (v := .int .i64 o.c) rfl
  have x4 := X2.out.cell (i := 4) (v := .int .i64 o.d) rfl
  go_wp2_with fail
  refine (CT.out o _ B2.out).mono ?_
  rintro e w3 ⟨rfl, b3⟩
  have B3 := Lib.hid (B2.out.trans (b3.mono B2.out.size))
  have X3 := Lib.hid (X2.out.next b3)
  clear b3 B2 X2 x0 x1 x2 x3 x4
  go_wp2_with fail
  refine (CI.out s x b _ HX.out (by have := HSL.out; omega) B3.out).mono ?_
  rintro e w4 ⟨rfl, b4⟩
  have bb4 := b4.alloc b4.size (.cells #[.int .i64 x.k, .int .i64 x.a, .int .i64 x.b, .int .i64 x.c, .int .i64 x.d] 25)
  have B4 := Lib.hid (B3.out.trans (bb4.mono B3.out.size))
  have X4 := Lib.hid (X3.out.next bb4)
  have Y4 : Hid (Box (w4.alloc (.cells #[.int .i64 x.k, .int .i64 x.a, .int .i64 x.b, .int .i64 x.c, .int .i64 x.d] 25)) w4.heap.size #[.int .i64 x.k, .int .i64 x.a, .int .i64 x.b, .int .i64 x.c, .int .i64 x.d] 25) := Lib.hid (Box.new w4 _ _)
  clear b4 bb4 B3 X3
  go_wp2_with fail
  refine (CR.out s x b _ HX.out (by have := HSL.out; omega)).mono ?_
  rintro e w5 ⟨rfl, b5⟩
  have bb5 := b5.alloc b5.size (.cells #[.int .i64 x.k, .int .i64 x.a, .int .i64 x.b, .int .i64 x.c, .int .i64 x.d] 25)
  have B5 := Lib.hid (B4.out.trans (bb5.mono B4.out.size))
  have X5 := Lib.hid (X4.out.next bb5)
  have Y5 := Lib.hid (Y4.out.next bb5)
  have Z5 : Hid (Box (w5.alloc (.cells #[.int .i64 x.k, .int .i64 x.a, .int .i64 x.b, .int .i64 x.c, .int .i64 x.d] 25)) w5.heap.size #[.int .i64 x.k, .int .i64 x.a, .int .i64 x.b, .int .i64 x.c, .int .i64 x.d] 25) := Lib.hid (Box.new w5 _ _)
  clear b5 bb5 B4 X4 Y4 CR
  have x0 := X5.out.cell (i := 0) (v := .int .i64 o.k) rfl
  have x1 := X5.out.cell (i := 1) (v := .int .i64 o.a) rfl
  have x2 := X5.out.cell (i := 2) (v := .int .i64 o.b) rfl
  have x3 := X5.out.cell (i := 3) (v := .int .i64 o.c) rfl
  have x4 := X5.out.cell (i := 4) (v := .int .i64 o.d) rfl
  go_wp2_with fail
  refine (CS.out o _).mono ?_
  rintro e w6 ⟨rfl, b6⟩
  have B6 := Lib.hid (B5.out.trans (b6.mono B5.out.size))
  have X6 := Lib.hid (X5.out.next b6)
  have Y6 := Lib.hid (Y5.out.next b6)
  have Z6 := Lib.hid (Z5.out.next b6)
  clear b6 B5 X5 Y5 Z5 x0 x1 x2 x3 x4 CS
  rcases HX.out with ⟨rfl, hx1, hx2⟩ | ⟨rfl, rfl, -⟩
  · have hts : opTx x = s := by unfold opTx; rw [hx1]; exact hx2
    have y0 := Y6.out.cell (i := 0) (v := .int .i64 x.k) rfl
    have y1 := Y6.out.cell (i := 1) (v := .int .i64 x.a) rfl
    have y2 := Y6.out.cell (i := 2) (v := .int .i64 x.b) rfl
    have y3 := Y6.out.cell (i := 3) (v := .int .i64 x.c) rfl
    have y4 := Y6.out.cell (i := 4) (v := .int .i64 x.d) rfl
    have z0 := Z6.out.cell (i := 0) (v := .int .i64 x.k) rfl
    have z1 := Z6.out.cell (i := 1) (v := .int .i64 x.a) rfl
    have z2 := Z6.out.cell (i := 2) (v := .int .i64 x.b) rfl
    have z3 := Z6.out.cell (i := 3) (v := .int .i64 x.c) rfl
    have z4 := Z6.out.cell (i := 4) (v := .int .i64 x.d) rfl
    clear hx2
    go_wp2_with fail
    refine (CO.out x _ B6.out).mono ?_
    rintro e w7 ⟨rfl, b7⟩
    have B7 := Lib.hid (B6.out.trans (b7.mono B6.out.size))
    have X7 := Lib.hid (X6.out.next b7)
    have Y7 := Lib.hid (Y6.out.next b7)
    rw [hx1]
    clear b7 B6 X6 Y6 Z6 y0 y1 y2 y3 y4 z0 z1 z2 z3 z4 CO hx1
    have y0 := Y7.out.cell (i := 0) (v := .int .i64 x.k) rfl
    have y1 := Y7.out.cell (i := 1) (v := .int .i64 x.a) rfl
    have y2 := Y7.out.cell (i := 2) (v := .int .i64 x.b) rfl
    have y3 := Y7.out.cell (i := 3) (v := .int .i64 x.c) rfl
    have y4 := Y7.out.cell (i := 4) (v := .int .i64 x.d) rfl
    go_wp2_with fail
    refine (CT.out x _ B7.out).mono ?_
    rintro e w8 ⟨rfl, b8⟩
    have B8 := Lib.hid (B7.out.trans (b8.mono B7.out.size))
    have X8 := Lib.hid (X7.out.next b8)
    rw [hts]
    clear b8 B7 X7 Y7 y0 y1 y2 y3 y4 CT hts
    have x0 := X8.out.cell (i := 0) (v := .int .i64 o.k) rfl
    have x1 := X8.out.cell (i := 1) (v := .int .i64 o.a) rfl
    have x2 := X8.out.cell (i := 2) (v := .int .i64 o.b) rfl
    have x3 := X8.out.cell (i := 3) (v := .int .i64 o.c) rfl
    have x4 := X8.out.cell (i := 4) (v := .int .i64 o.d) rfl
    go_wp2_with fail
    refine (CQ.out o _).mono ?_
    rintro e wq ⟨rfl, bq⟩
    have BQ := Lib.hid (B8.out.trans (bq.mono B8.out.size))
    have XQ := Lib.hid (X8.out.next bq)
    clear bq B8 X8 x0 x1 x2 x3 x4
    obtain ⟨q, hqo⟩ : ∃ q, opB o = q := ⟨_, rfl⟩
    rw [hqo]
    cases q
    · have hemp : (bs (opTx o)).toList.isEmpty = true := by rw [bs_toList]; unfold opTx; rw [hqo]; rfl
      clear hqo XQ
      go_wp2_with fail
      refine (CZ.out _).mono ?_
      rintro e wz ⟨rfl, bz⟩
      have BZ := Lib.hid (BQ.out.trans (bz.mono BQ.out.size))
      clear bz
      go_wp2_with fail
      go_ret
      exact ⟨rfl, BZ.out⟩
    · have HOT := Lib.hid (show ReadsO (opTx o) o true from .inl ⟨rfl, hqo, by unfold opTx; rw [hqo]; rfl⟩)
      clear hqo
      go_wp2_with fail
      refine (CI.out (opTx o) o true _ HOT.out (by have := opTx_len o; omega) BQ.out).mono ?_
      rintro e wr1 ⟨rfl, br⟩
      have bb := br.alloc br.size (.cells #[.int .i64 o.k, .int .i64 o.a, .int .i64 o.b, .int .i64 o.c, .int .i64 o.d] 25)
      have BR := Lib.hid (BQ.out.trans (bb.mono BQ.out.size))
      have XR := Lib.hid (XQ.out.next bb)
      have YR : Hid (Box (wr1.alloc (.cells #[.int .i64 o.k, .int .i64 o.a, .int .i64 o.b, .int .i64 o.c, .int .i64 o.d] 25)) wr1.heap.size #[.int .i64 o.k, .int .i64 o.a, .int .i64 o.b, .int .i64 o.c, .int .i64 o.d] 25) := Lib.hid (Box.new wr1 _ _)
      clear br bb BQ XQ
      have x0 := XR.out.cell (i := 0) (v := .int .i64 o.k) rfl
      have x1 := XR.out.cell (i := 1) (v := .int .i64 o.a) rfl
      have x2 := XR.out.cell (i := 2) (v := .int .i64 o.b) rfl
      have x3 := XR.out.cell (i := 3) (v := .int .i64 o.c) rfl
      have x4 := XR.out.cell (i := 4) (v := .int .i64 o.d) rfl
      have y0 := YR.out.cell (i := 0) (v := .int .i64 o.k) rfl
      have y1 := YR.out.cell (i := 1) (v := .int .i64 o.a) rfl
      have y2 := YR.out.cell (i := 2) (v := .int .i64 o.b) rfl
      have y3 := YR.out.cell (i := 3) (v := .int .i64 o.c) rfl
      have y4 := YR.out.cell (i := 4) (v := .int .i64 o.d) rfl
      go_wp2_with fail
      go_ret
      exact ⟨rfl, BR.out⟩
  · have y0 := Y6.out.cell (i := 0) (v := .int .i64 0) rfl
    have y1 := Y6.out.cell (i := 1) (v := .int .i64 0) rfl
    have y2 := Y6.out.cell (i := 2) (v := .int .i64 0) rfl
    have y3 := Y6.out.cell (i := 3) (v := .int .i64 0) rfl
    have y4 := Y6.out.cell (i := 4) (v := .int .i64 0) rfl
    have z0 := Z6.out.cell (i := 0) (v := .int .i64 0) rfl
    have z1 := Z6.out.cell (i := 1) (v := .int .i64 0) rfl
    have z2 := Z6.out.cell (i := 2) (v := .int .i64 0) rfl
    have z3 := Z6.out.cell (i := 3) (v := .int .i64 0) rfl
    have z4 := Z6.out.cell (i := 4) (v := .int .i64 0) rfl
    have x0 := X6.out.cell (i := 0) (v := .int .i64 o.k) rfl
    have x1 := X6.out.cell (i := 1) (v := .int .i64 o.a) rfl
    have x2 := X6.out.cell (i := 2) (v := .int .i64 o.b) rfl
    have x3 := X6.out.cell (i := 3) (v := .int .i64 o.c) rfl
    have x4 := X6.out.cell (i := 4) (v := .int .i64 o.d) rfl
    go_wp2_with fail
    refine (CQ.out o _).mono ?_
    rintro e wq ⟨rfl, bq⟩
    have BQ := Lib.hid (B6.out.trans (bq.mono B6.out.size))
    have XQ := Lib.hid (X6.out.next bq)
    clear bq B6 X6 x0 x1 x2 x3 x4
    obtain ⟨q, hqo⟩ : ∃ q, opB o = q := ⟨_, rfl⟩
    rw [hqo]
    cases q
    · have hemp : (bs (opTx o)).toList.isEmpty = true := by rw [bs_toList]; unfold opTx; rw [hqo]; rfl
      clear hqo XQ
      go_wp2_with fail
      refine (CZ.out _).mono ?_
      rintro e wz ⟨rfl, bz⟩
      have BZ := Lib.hid (BQ.out.trans (bz.mono BQ.out.size))
      clear bz
      go_wp2_with fail
      go_ret
      exact ⟨rfl, BZ.out⟩
    · have HOT := Lib.hid (show ReadsO (opTx o) o true from .inl ⟨rfl, hqo, by unfold opTx; rw [hqo]; rfl⟩)
      clear hqo
      go_wp2_with fail
      refine (CI.out (opTx o) o true _ HOT.out (by have := opTx_len o; omega) BQ.out).mono ?_
      rintro e wr1 ⟨rfl, br⟩
      have bb := br.alloc br.size (.cells #[.int .i64 o.k, .int .i64 o.a, .int .i64 o.b, .int .i64 o.c, .int .i64 o.d] 25)
      have BR := Lib.hid (BQ.out.trans (bb.mono BQ.out.size))
      have XR := Lib.hid (XQ.out.next bb)
      have YR : Hid (Box (wr1.alloc (.cells #[.int .i64 o.k, .int .i64 o.a, .int .i64 o.b, .int .i64 o.c, .int .i64 o.d] 25)) wr1.heap.size #[.int .i64 o.k, .int .i64 o.a, .int .i64 o.b, .int .i64 o.c, .int .i64 o.d] 25) := Lib.hid (Box.new wr1 _ _)
      clear br bb BQ XQ
      have x0 := XR.out.cell (i := 0) (v := .int .i64 o.k) rfl
      have x1 := XR.out.cell (i := 1) (v := .int .i64 o.a) rfl
      have x2 := XR.out.cell (i := 2) (v := .int .i64 o.b) rfl
      have x3 := XR.out.cell (i := 3) (v := .int .i64 o.c) rfl
      have x4 := XR.out.cell (i := 4) (v := .int .i64 o.d) rfl
      have y0 := YR.out.cell (i := 0) (v := .int .i64 o.k) rfl
      have y1 := YR.out.cell (i := 1) (v := .int .i64 o.a) rfl
      have y2 := YR.out.cell (i := 2) (v := .int .i64 o.b) rfl
      have y3 := YR.out.cell (i := 3) (v := .int .i64 o.c) rfl
      have y4 := YR.out.cell (i := 4) (v := .int .i64 o.d) rfl
      go_wp2_with fail
      go_ret
      exact ⟨rfl, BR.out⟩
set_option maxHeartbeats 1000000 in
theorem fnOpText_walk (A : Option Addr) (c : Nat) (l : List UInt8) (A' : Option Addr) (c' : Nat) (l' : List UInt8) (w : World) (hE : Env w w.heap.size) (h : Has w w.heap.size A l) (hc : l.length ≤ c) (h' : Has w w.heap.size A' l') (hc' : l'.length ≤ c') :
    Calls Tryd.prog 9 #[.slice A l.length c, .slice A' l'.length c'] w fun e w' => e = .returned (.bool true) ∧ Below w.heap.size w w' := by
  by_cases hs : l.length ≤ 1048576
  · by_cases hs' : l'.length ≤ 1048576
    · exact fnOpText_small A c l A' c' l' w hE h hc h' hc' hs hs'
    · have k1 : decide ((1048576 : Int) < (l.length : Int)) = false := decide_eq_false (by omega)
      have k2 : (1048576 : Int) < (l'.length : Int) := by omega
      clear hE h hc h' hc' hs hs'
      go_enter Tryd.func9, Tryd.ntmps9
      go_wp2_with fail
      go_ret
      exact ⟨rfl, Below.refl _ _⟩
  · have k1 : (1048576 : Int) < (l.length : Int) := by omega
    clear hE h hc h' hc' hs
    go_enter Tryd.func9, Tryd.ntmps9
    go_wp2_with fail
    go_ret
    exact ⟨rfl, Below.refl _ _⟩
end Go.Proofs.YtbejafbpipdbjaaDoor
