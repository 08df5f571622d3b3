/-
  The reference's PakPut. Condition: the bytes are read from memory that was there.
-/
import Derived.Test.YtnnpjcbdcjdojaaPakSA
import Derived.Test.YtnnpjcbdcjdojaaBitPS
import Derived.Test.YtnnpjcbdcjdojaaPushN
import Derived.Deep.CutRange
namespace Go.Proofs.Ytnnpjcbdcjdojaa
set_option maxRecDepth 4000
open Go.RowKit

/-- What PakPut answers, as a postcondition. -/
def PakOut (l : List UInt8) (w : World) (e : Ending) (w' : World) : Prop := ∃ v, e = .returned v ∧ Own w' w.heap.size v (pakPutB l) ∧ Below w.heap.size w w'

theorem has_some {w : World} {B : Nat} {A : Option Addr} {l : List UInt8} (h : Has w B A l) (hl : 0 < l.length) : ∃ b o, A = some ⟨b, o, none⟩ := by
  obtain ⟨b, o, _, rfl, _⟩ := h.spot hl
  exact ⟨b, o, rfl⟩
/-- A part of bytes that are read. -/
theorem Has.part {w : World} {B b o : Nat} {l : List UInt8} (h : Has w B (some ⟨b, o, none⟩) l) (k n : Nat) : Has w B (some ⟨b, o + k, none⟩) ((l.drop k).take n) := (h.dropAt k).take n
theorem len_part (l : List UInt8) (k n : Nat) (h : k + n ≤ l.length) : ((l.drop k).take n).length = n := by simp; omega

/-- A row stays while all blocks of its type do. -/
theorem row_move {w w' : World} {base : Nat} {e : TypeId} {size : Nat} {v : Value} {n : Nat} {xs : List Value} (h : w.ownsRow base e size v n xs) (hk : ∀ (b : Nat) cs fr, w.heap[b]? = some (.cells cs e fr) → w'.heap[b]? = w.heap[b]?) : w'.ownsRow base e size v n xs := by
  refine ⟨h.1, ?_⟩
  rcases h.2 with hn | ⟨g, cap, cur, rfl, hg, hh, rest⟩
  · exact .inl hn
  · exact .inr ⟨g, cap, cur, rfl, hg, (hk g cur _ hh).trans hh, rest⟩
/-- Slices of bytes stay while a row of bit numbers grows. -/
theorem OwnBB.grownN {w w' : World} {base base' : Nat} {X : Option Nat} {v v' : Value} {m : List (List UInt8)} {ns : List (Int × Int)} (h : OwnBB w base X v m) (ho : OwnN w base' v' ns) (hg : w.grownBy w' v'.ownBlock) : OwnBB w' base X v m := by
  have hne : ∀ (b : Nat) cs t fr, w.heap[b]? = some (.cells cs t fr) → t ≠ 100 → w'.heap[b]? = w.heap[b]? := by
    intro b cs t fr hb ht
    refine hg.block b (Array.getElem?_eq_some_iff.1 hb).1 fun e => ?_
    rcases ho.2 with ⟨rfl, _⟩ | ⟨g0, cap0, cur0, rfl, _, hh, _⟩
    · cases e
    · simp [Value.ownBlock] at e
      subst e
      rw [hb] at hh
      injection hh with hh
      injection hh with _ ht2 _
      exact ht ht2
  exact h.move (fun b cs fr hb _ => hne b cs _ fr hb (by decide)) (fun b cs fr hb => hne b cs _ fr hb (by decide)) (.inl rfl)
theorem OwnN.alloc {w : World} {base : Nat} {v : Value} {l : List (Int × Int)} (h : OwnN w base v l) (o : Obj) : OwnN (w.alloc o) base v l := World.ownsRow.alloc h o
theorem OwnN.below {w w' : World} {base B : Nat} {v : Value} {l : List (Int × Int)} (h : OwnN w base v l) (hb : Below B w w') (hB : w.heap.size ≤ B) : OwnN w' base v l := row_below h hb hB
theorem long4_more {met : List (List UInt8)} {r : List UInt8} {n : Nat} (h1 : n < r.length) (h2 : 0 ≤ codeI met (r.take (n + 1))) : long4 met r (r.length - n) n = long4 met r (r.length - (n + 1)) (n + 1) := by
  obtain ⟨f, hf⟩ : ∃ f, r.length - n = f + 1 := ⟨r.length - n - 1, by omega⟩
  have h3 : (code4 met (r.take (n + 1))).isSome := by
    unfold codeI at h2
    cases e : code4 met (r.take (n + 1)) with
    | none => rw [e] at h2; simp at h2
    | some c => rfl
  rw [hf, long4, if_pos ⟨h1, h3⟩, show r.length - (n + 1) = f from by omega]
theorem long4_stop {met : List (List UInt8)} {r : List UInt8} {n : Nat} (h : ¬ n < r.length ∨ codeI met (r.take (n + 1)) < 0) : long4 met r (r.length - n) n = n := by
  cases hf : r.length - n with
  | zero => rfl
  | succ f =>
    rw [long4, if_neg]
    rintro ⟨h1, h2⟩
    rcases h with h | h
    · exact h h1
    · unfold codeI at h
      cases e : code4 met (r.take (n + 1)) with
      | none => rw [e] at h2; cases h2
      | some c => rw [e] at h; simp at h; omega
theorem codeI_of {met : List (List UInt8)} {b : List UInt8} {c : Nat} (h : code4 met b = some c) : codeI met b = (c : Int) := by unfold codeI; rw [h]

set_option maxHeartbeats 1000000 in
theorem specPakPut_any (A : Option Addr) (c : Nat) (l : List UInt8) (w : World) (hs : l.length ≤ 1073741824) (hc : l.length ≤ c) (h : Has w w.heap.size A l) :
    Calls Try.prog 78 #[.slice A l.length c] w (PakOut l w) := by
  by_cases h2 : l.length ≤ 200
  · have hsI : (l.length : Int) ≤ 200 := by omega
    have hcI : (l.length : Int) ≤ (c : Int) := by omega
    have HH := Lib.hid h
    have he1 : OwnBB (w.alloc (.cells #[] 22)) w.heap.size none (.slice (some ⟨w.heap.size, 0, none⟩) 0 0) [] := ownBB_empty (Nat.le_refl _)
    have HE1 := Lib.hid (he1.alloc (.cells #[] 100))
    have he2 : OwnN ((w.alloc (.cells #[] 22)).alloc (.cells #[] 100)) w.heap.size (.slice (some ⟨(w.alloc (.cells #[] 22)).heap.size, 0, none⟩) 0 0) [] := ownN_empty (by simp)
    rw [show (w.alloc (.cells #[] 22)).heap.size = w.heap.size + 1 from by simp] at he2
    have HE2 := Lib.hid he2
    have HB0 := Lib.hid (((Below.refl _ w).alloc (Nat.le_refl _) (.cells #[] 22)).alloc (by simp) (.cells #[] 100))
    clear h hs he1 he2 h2
    go_enter Try.func78, Try.ntmps78
    go_wp2_with fail
    go_loopw [3, 4, 5] (fun v3 v4 i wr => ∃ (met : List (List UInt8)) (cs : List Nat) (f a : Nat), a ≤ l.length ∧ i = .int .i64 a ∧ OwnBB wr w.heap.size none v3 met ∧ OwnN wr w.heap.size v4 (nums9 cs) ∧ Below w.heap.size w wr ∧
        cs ++ pak4 f met (l.drop a) = pak4 l.length [] l ∧ (l.drop a).length ≤ f ∧ met.length ≤ a ∧ cs.length ≤ a) (fun _ _ i _ => l.length - (intOf i).toNat)
    case atStart => exact ⟨[], [], l.length, 0, Nat.zero_le _, rfl, HE1.out, HE2.out, HB0.out, rfl, by simp, by simp, by simp⟩
    case round =>
      clear HE1 HE2 HB0
      obtain ⟨wo, hwo⟩ : ∃ x, x = wr := ⟨_, rfl⟩
      subst hwo
      obtain ⟨met, cs, f, a, ha, rfl, hbb, hnn, hbel, hpk, hf, hma, hca⟩ := hrel
      obtain ⟨A3, c3, rfl, -, hb3⟩ := hbb.has
      obtain ⟨A4, c4, rfl, -, -⟩ := hnn.has
      rw [show (nums9 cs).length = cs.length from by simp [nums9]] at *
      have HBB := Lib.hid hbb
      have HNN := Lib.hid hnn
      have HB := Lib.hid hbel
      have HPK := Lib.hid hpk
      have HF := Lib.hid hf
      clear hpk hf hbb hnn
      by_cases hlt : a < l.length
      · obtain ⟨b, o, rfl⟩ := has_some HH.out (by omega)
        have hl0 := HH.out.carry hbel (Nat.le_refl _) hbel.size
        have HL := Lib.hid hl0
        have HD := Lib.hid hb3
        have haI : (a : Int) < (l.length : Int) := by omega
        have hmI : (met.length : Int) ≤ (a : Int) := by omega
        clear hb3 hl0 hbel
        go_wp2_with fail
        go_loopw [6] (fun i wq => ∃ n : Nat, 1 ≤ n ∧ n ≤ l.length - a ∧ i = .int .i64 n ∧ long4 met (l.drop a) ((l.drop a).length - n) n = len4 met (l.drop a) ∧ Below wo.heap.size wo wq) (fun i _ => l.length - (intOf i).toNat)
        case atStart => exact ⟨1, Nat.le_refl _, by omega, rfl, by unfold len4; rfl, Below.refl _ _⟩
        case round =>
          obtain ⟨n, hn1, hn2, rfl, hlong, hbq⟩ := hrel
          have HLO := Lib.hid hlong
          have HBQ := Lib.hid hbq
          have hdl : (l.drop a).length = l.length - a := by simp
          have CC := Lib.hid fun k (hk : a + k ≤ l.length) => l4Code_any A3 c3 met (some ⟨b, o + a, none⟩) (c - a) ((l.drop a).take k) wr (by omega) (HD.out.below hbq) ((HL.out.carry hbq (Nat.le_refl _) hbq.size).part a k)
          clear hlong hbq
          have hnI : 1 ≤ (n : Int) ∧ (n : Int) ≤ (l.length : Int) - (a : Int) := by omega
          go_upto_region 8 with fail
          go_cut [34] from 17 to 34 (fun s wx => ∃ q : Bool, s = .bool q ∧ (q = true ↔ n < (l.drop a).length ∧ 0 ≤ codeI met ((l.drop a).take (n + 1))) ∧ Below wo.heap.size wo wx)
          case first =>
            by_cases hn : a + n < l.length
            · have hnI2 : (a : Int) + (n : Int) < (l.length : Int) := by omega
              have C1 := Lib.hid (CC.out (n + 1) (by omega))
              obtain ⟨z, hz⟩ : ∃ z, codeI met ((l.drop a).take (n + 1)) = z := ⟨_, rfl⟩
              rw [hz, len_part l a (n + 1) (by omega), show n + 1 = a + n + 1 - a from by omega] at C1
              have HZ := Lib.hid hz
              have HDL := Lib.hid hdl
              clear hz CC hdl
              go_wp2_with fail
              refine C1.out.mono ?_
              rintro e w1 ⟨rfl, b1⟩
              have HB1 := Lib.hid (HBQ.out.trans (b1.mono HBQ.out.size))
              clear b1 C1
              go_wp2_with fail
              go_meet
              exact ⟨decide (0 ≤ z), rfl, by rw [HZ.out, decide_eq_true_eq]; exact ⟨fun h => ⟨by have := HDL.out; omega, h⟩, fun h => h.2⟩, HB1.out⟩
            · have HDL := Lib.hid hdl
              clear CC hdl
              go_wp2_with fail
              go_meet
              exact ⟨false, rfl, ⟨fun h => (by cases h), fun h => (by have := HDL.out; omega)⟩, HBQ.out⟩
          case rest =>
            obtain ⟨q, rfl, hq, bq⟩ := hcut
            cases q
            · have hstop : len4 met (l.drop a) = n := by
                rw [← HLO.out]
                refine long4_stop ?_
                by_cases hn : n < (l.drop a).length
                · exact .inr (Int.not_le.1 fun hz => by have := hq.2 ⟨hn, hz⟩; cases this)
                · exact .inl hn
              clear hq CC HBQ HLO
              have hr0 : l.drop a ≠ [] := fun e => by rw [e] at hdl; simp at hdl; omega
              obtain ⟨n1, n2, ⟨cd, hcd⟩, n4⟩ := len4_spec met (l.drop a) hr0
              rw [hstop] at n1 n2 hcd n4
              have hcs := (code4_str hcd).2.2
              have C2 := Lib.hid (l4Code_any A3 c3 met (some ⟨b, o + a, none⟩) (c - a) ((l.drop a).take n) wc (by omega) (HD.out.below bq) ((HL.out.carry bq (Nat.le_refl _) bq.size).part a n))
              rw [codeI_of hcd, len_part l a n (by omega)] at C2
              have hcdI : (cd : Int) < 500 := by omega
              have HBQ := Lib.hid bq
              have HC := Lib.hid (And.intro hstop (And.intro n2 (And.intro hcd (And.intro hcs n4))))
              clear bq hstop hr0 n2 hcd n4 hcs hdl
              go_upto_region 10 with fail
              go_wp2_with fail
              refine C2.out.mono ?_
              rintro e w1 ⟨rfl, b1⟩
              have hb1 := HBQ.out.trans (b1.mono HBQ.out.size)
              have hbb1 := HBB.out.below hb1 (Nat.le_refl _)
              have hnn1 := HNN.out.below hb1 (Nat.le_refl _)
              have HL1 := Lib.hid (HL.out.carry hb1 (Nat.le_refl _) hb1.size)
              have hB1 := HB.out.trans (hb1.mono HB.out.size)
              have HNN1 := Lib.hid hnn1
              have HBB1 := Lib.hid hbb1
              have HB1 := Lib.hid hB1
              clear b1 hb1 C2 HBQ HL HD HB HBB HNN hbb1 hnn1 hB1
              go_upto_region 11 with (at_builtin; refine wpList_pushN rfl (.tmp 37) (.tmp 47) rfl w.heap.size (.slice A4 cs.length c4) (nums9 cs) rfl HNN1.out (cd : Int) 9 w1.heap.size rfl rfl (by simp [nums9]; omega) HB1.out.size ?_; intro g5 c5 w5 ho5 hg5)
              have hbb5 := (HBB1.out.alloc (.cells #[.int .i64 (cd : Int), .int .i64 9] 100)).grownN (HNN1.out.alloc _) hg5
              have hB5 := (HB1.out.alloc HB1.out.size (.cells #[.int .i64 (cd : Int), .int .i64 9] 100)).grown hg5 (by have := HB1.out.size; simp; omega) (fun q hq => (World.ownsRow.lt HNN1.out q hq).1)
              have hl5 := HH.out.carry hB5 (Nat.le_refl _) hB5.size
              rw [show nums9 cs ++ [((cd : Int), (9 : Int))] = nums9 (cs ++ [cd]) from by simp [nums9]] at ho5
              rw [show (nums9 cs).length = cs.length from by simp [nums9]] at *
              have HNN5 := Lib.hid ho5
              have HBB5 := Lib.hid hbb5
              have HB5 := Lib.hid hB5
              have HL5 := Lib.hid hl5
              clear ho5 hg5 hbb5 hB5 hl5 HNN1 HBB1 HB1 HL1
              have hpk2 : cs ++ [cd] ++ pak4 (f - 1) (enter4 met (l.drop a) n) (l.drop (a + n)) = pak4 l.length [] l := by
                rw [← HPK.out]
                obtain ⟨f', rfl⟩ : ∃ f', f = f' + 1 := ⟨f - 1, by have := HF.out; simp at this; omega⟩
                have hr0 : l.drop a ≠ [] := fun e => by have := congrArg List.length e; simp at this; omega
                obtain ⟨k1, k2, k3, -⟩ := HC.out
                rw [pak4, if_neg hr0, k1, k3]
                simp
              have HPK2 := Lib.hid hpk2
              have HF2 : Hid ((l.drop (a + n)).length ≤ f - 1) := Lib.hid (by have := HF.out; simp at this ⊢; omega)
              clear hpk2 HPK HF
              by_cases hn : a + n < l.length
              · have hnI2 : (a : Int) + (n : Int) < (l.length : Int) := by omega
                have HEN : Hid (enter4 met (l.drop a) n = met ++ [(l.drop a).take (n + 1)]) := Lib.hid (by unfold enter4; rw [if_pos ⟨by simp; omega, by omega⟩])
                have HXX : Hid (Value.slice (some ⟨b, o + a, none⟩) (a + n + 1 - a) (c - a) = Value.slice (some ⟨b, o + a, none⟩) ((l.drop a).take (n + 1)).length (c - a)) := Lib.hid (by rw [len_part l a (n + 1) (by omega), show a + n + 1 - a = n + 1 from by omega])
                have HO6 : Hid (Own (w5.alloc (.cells #[] 5)) w5.heap.size (.slice (some ⟨w5.heap.size, 0, none⟩) 0 0) []) := Lib.hid (own_empty (Nat.le_refl _))
                have hb6 : Below w5.heap.size w5 (w5.alloc (.cells #[] 5)) := (Below.refl _ w5).alloc (Nat.le_refl _) _
                have HB6 := Lib.hid hb6
                have HL6 := Lib.hid ((HL5.out.below hb6).part a (n + 1))
                obtain ⟨ee, hee⟩ : ∃ ee, (l.drop a).take (n + 1) = ee := ⟨_, rfl⟩
                have HEL : Hid (ee.length = n + 1) := Lib.hid (by rw [← hee]; exact len_part l a (n + 1) (by omega))
                rw [hee] at HEN HXX HL6
                clear hee
                have hm5 : 257 + (met.length : Int) < 512 := by omega
                have HMA := Lib.hid (And.intro hma (And.intro hca hmI))
                clear hb6 hma hca hmI
                go_wp2_with (first | (at_builtin; refine wpList_pushAll rfl (.tmp 62) (.tmp 69) rfl w5.heap.size _ [] rfl HO6.out w5.heap.size (some ⟨b, o + a, none⟩) (c - a) ee HXX.out HL6.out (by have := HEL.out; simp; omega) (by simp) ?_; intro v7 w7 ho7 hg7; rw [List.nil_append] at ho7; obtain ⟨A7, c7, rfl, hc7, -⟩ := ho7.has; have hb7 := HB6.out.grown hg7 (by simp) (fun q hq => by cases hq; exact Nat.le_refl _); have HB7 := Lib.hid hb7; clear hb7 hg7) | (at_builtin; refine wpList_pushBB rfl (.tmp 61) (.tmp 71) rfl w.heap.size none (.slice A3 met.length c3) met rfl (HBB5.out.below HB7.out (Nat.le_refl _)) A7 _ c7 ee rfl hc7 (ho7.hasV (.inr rfl)) w7.heap.size rfl rfl (by omega) (Nat.le_trans HB5.out.size HB7.out.size) ?_; intro g8 c8 w8 hbb8 hg8 hk8 hge8))
                have hB7 := HB5.out.trans (HB7.out.mono HB5.out.size)
                have hv3 := HBB5.out
                have hB8 := (hB7.alloc hB7.size (.cells #[.slice A7 ee.length c7] 22)).grown hg8 (by have := hB7.size; simp; omega) (fun q hq => by obtain ⟨vs, hr, -⟩ := hv3; exact (World.ownsRow.lt hr q hq).1)
                have hN8 : OwnN w8 w.heap.size (.slice (some ⟨g5, 0, none⟩) (cs.length + 1) c5) (nums9 (cs ++ [cd])) := row_move (HNN5.out.below HB7.out (Nat.le_refl _)) fun b cs fr hb => hk8 b cs _ fr hb (by decide)
                have HBB8 := Lib.hid hbb8
                have HN8 := Lib.hid hN8
                have HB8 := Lib.hid hB8
                clear hB7 hv3 hB8 hN8 hbb8 hg8 hk8 hge8 ho7 hc7
                go_wp2
                go_roundw
                case rel => exact ⟨met ++ [ee], cs ++ [cd], f - 1, a + n, by omega, by go_num, HBB8.out, HN8.out, HB8.out, by rw [← HEN.out]; exact HPK2.out, HF2.out, by have := HMA.out.1; simp; omega, by have := HMA.out.2.1; simp; omega⟩
                case measure => simp [intOf]; omega
              · have HEN : Hid (enter4 met (l.drop a) n = met) := Lib.hid (by unfold enter4; rw [if_neg (by simp; omega)])
                have HMA := Lib.hid (And.intro hma (And.intro hca hmI))
                have hnI3 : (a : Int) + (n : Int) = (l.length : Int) := by omega
                clear hma hca hmI
                go_wp2
                go_roundw
                case rel => exact ⟨met, cs ++ [cd], f - 1, a + n, by omega, by go_num, HBB5.out, HNN5.out, HB5.out, by rw [← HEN.out]; exact HPK2.out, HF2.out, by have := HMA.out.1; omega, by have := HMA.out.2.1; simp; omega⟩
                case measure => simp [intOf]; omega
            · have HQ := Lib.hid (hq.1 rfl)
              have HBQ2 := Lib.hid bq
              clear CC hq bq hdl
              go_wp2
              go_roundw
              case rel => exact ⟨n + 1, by omega, by have := HQ.out.1; simp at this; omega, by go_num, by rw [← HLO.out, long4_more (n := n) HQ.out.1 HQ.out.2], HBQ2.out⟩
              case measure => have := HQ.out.1; simp at this; simp [intOf]; omega
      · obtain rfl : a = l.length := by omega
        have hcs : cs = pak4 l.length [] l := by
          have := HPK.out
          rw [List.drop_eq_nil_of_le (Nat.le_refl _)] at this
          rw [← this]
          cases f <;> simp [pak4]
        have HCS := Lib.hid hcs
        have hcI2 : (cs.length : Int) ≤ (l.length : Int) := by omega
        clear hb3 hbel HPK HF HBB hcs
        go_wp2_with (at_builtin; refine wpList_pushN rfl (.tmp 76) (.tmp 78) rfl w.heap.size (.slice A4 cs.length c4) (nums9 cs) rfl HNN.out 256 9 wo.heap.size rfl rfl (by simp [nums9]; omega) HB.out.size ?_; intro g5 c5 w5 ho5 hg5)
        have hB5 := (HB.out.alloc HB.out.size (.cells #[.int .i64 256, .int .i64 9] 100)).grown hg5 (by have := HB.out.size; simp; omega) (fun q hq => (World.ownsRow.lt HNN.out q hq).1)
        rw [show nums9 cs ++ [((256 : Int), (9 : Int))] = nums9 (cs ++ [256]) from by simp [nums9]] at ho5
        have CP := Lib.hid (specBitPut_any _ c5 (nums9 (cs ++ [256])) w5 (by simp [nums9]; omega) ho5.reads)
        rw [show (nums9 (cs ++ [256])).length = cs.length + 1 from by simp [nums9]] at CP
        rw [show (nums9 cs).length = cs.length from by simp [nums9]] at *
        have HB5 := Lib.hid hB5
        clear hB5 ho5 hg5 HNN HB
        refine CP.out.mono ?_
        rintro e w6 ⟨v6, rfl, ho6, b6⟩
        have HO6 : Hid (Own w6 w.heap.size v6 (pakPutB l)) := Lib.hid (by
          unfold pakPutB
          rw [if_pos (by omega), ← HCS.out]
          exact ho6.lower HB5.out.size)
        have HB6 := Lib.hid (HB5.out.trans (b6.mono HB5.out.size))
        clear ho6 b6 CP
        go_wp2_with fail
        go_ret
        exact ⟨_, rfl, HO6.out, HB6.out⟩
  · have hsI : (200 : Int) < (l.length : Int) := by omega
    have HE : Hid (Own (w.alloc (.cells #[] 5)) w.heap.size (.slice (some ⟨w.heap.size, 0, none⟩) 0 0) (pakPutB l)) := Lib.hid (by unfold pakPutB; rw [if_neg h2]; exact own_empty (Nat.le_refl _))
    have HB := Lib.hid ((Below.refl _ w).alloc (Nat.le_refl _) (.cells #[] 5))
    clear h hs h2
    go_enter Try.func78, Try.ntmps78
    go_wp2_with fail
    go_ret
    exact ⟨_, rfl, HE.out, HB.out⟩
end Go.Proofs.Ytnnpjcbdcjdojaa
