/-
  The program's PakPut. Conditions: the bytes are read from memory that was there; the two errors of writing are not nil.
-/
import Derived.Test.YtnnpjcbdcjdojaaPakIE
import Derived.Test.YtnnpjcbdcjdojaaPakSP
import Derived.Test.YtnnpjcbdcjdojaaBitPR
namespace Go.Proofs.Ytnnpjcbdcjdojaa
set_option maxRecDepth 4000
open Go.RowKit

/-- How long a slice is. -/
def lenV : Value → Nat
  | .slice _ n _ => n
  | _ => 0
theorem notin_of_none {met : List (List UInt8)} {b : List UInt8} (h : code4 met b = none) : b ∉ met := by
  by_cases h1 : b.length = 1
  · obtain ⟨x, rfl⟩ := List.length_eq_one_iff.1 h1
    cases h
  · rw [code4_more h1] at h
    cases e : at4 met b with
    | none => exact at4_none.1 e
    | some k => rw [e] at h; cases h
theorem OwnN.stays {w w' : World} {base : Nat} {v : Value} {l : List (Int × Int)} (h : OwnN w base v l) (hs : Stays w w') : OwnN w' base v l := row_move h fun b cs fr hb => hs b cs _ fr hb (by decide)
/-- A dictionary stays while a row of bit numbers grows. -/
theorem TrieB.grownN {w w' : World} {base base' g : Nat} {v' : Value} {met : List (List UInt8)} {ns : List (Int × Int)} (h : TrieB w base g met) (ho : OwnN w base' v' ns) (hg : w.grownBy w' v'.ownBlock) : TrieB w' base g met := by
  refine h.move (fun b cs fr hb => hg.block b (Array.getElem?_eq_some_iff.1 hb).1 fun e => ?_) (fun b es cl hb => hg.block b (Array.getElem?_eq_some_iff.1 hb).1 fun e => ?_)
  · rcases ho.2 with ⟨rfl, _⟩ | ⟨g0, cap0, cur0, rfl, _, hh, _⟩
    · cases e
    · simp [Value.ownBlock] at e
      subst e
      rw [hb] at hh
      injection hh with hh
      injection hh with _ ht2 _
      revert ht2
      decide
  · rcases ho.2 with ⟨rfl, _⟩ | ⟨g0, cap0, cur0, rfl, _, hh, _⟩
    · cases e
    · simp [Value.ownBlock] at e
      subst e
      rw [hb] at hh
      cases hh
theorem ownN_nil (w : World) (base : Nat) : OwnN w base (.slice none 0 0) [] := World.ownsRow_nil _ _ _ _
/-- What is packed fits. -/
theorem put_fits {l : List UInt8} (h : l.length ≤ 200) : fits (nums9 (pak4 l.length [] l ++ [256])) (nums9 (pak4 l.length [] l ++ [256])).length = true := by
  obtain ⟨hc, hl⟩ := pak_codes l.length [] l (by simpa using h)
  unfold fits
  rw [List.take_of_length_le (Nat.le_refl _), okAll_nine, packed_nine]
  · simp
    omega
  · intro c hm
    rcases List.mem_append.1 hm with hm | hm
    · exact (hc c hm).1
    · simp at hm
      omega
set_option maxRecDepth 100000 in
set_option maxHeartbeats 4000000 in
theorem implPakPut_if (A : Option Addr) (c : Nat) (l : List UInt8) (w : World) (hs : l.length ≤ 1073741824) (hc : l.length ≤ c) (h : Has w w.heap.size A l) :
    Calls Try.prog 122 #[.slice A l.length c] w (PakOut l w) := by
  by_cases h2 : l.length ≤ 200
  · have HL2 := Lib.hid h2
    have hsI : (l.length : Int) ≤ 200 := by omega
    have HH := Lib.hid h
    have HC := Lib.hid hc
    clear h hs h2
    go_enter Try.func122, Try.ntmps122
    go_wp2_with fail
    refine (newPakTrie_any w).mono ?_
    rintro e w1 ⟨rfl, ht1, b1⟩
    have HT1 := Lib.hid ht1
    have HB1 := Lib.hid b1
    clear ht1 b1 hsI
    go_wp2_with fail
    go_loopw [0, 4] (fun v0 v4 wr => ∃ (met : List (List UInt8)) (cs : List Nat) (f a : Nat) (A' : Option Addr) (c' : Nat) (r : List UInt8), a ≤ l.length ∧ l.drop a = r ∧ v0 = .slice A' r.length c' ∧ r.length ≤ c' ∧ Has w w.heap.size A' r ∧ TrieB wr w.heap.size w.heap.size met ∧ Dict met ∧ OwnN wr w.heap.size v4 (nums9 cs) ∧ Below w.heap.size w wr ∧
        cs ++ pak4 f met r = pak4 l.length [] l ∧ r.length ≤ f ∧ met.length ≤ a ∧ cs.length ≤ a) (fun v0 _ _ => lenV v0)
    case atStart => exact ⟨[], [], l.length, 0, A, c, l, Nat.zero_le _, rfl, rfl, HC.out, HH.out, HT1.out, dict_nil, ownN_nil _ _, HB1.out, rfl, Nat.le_refl _, by simp, by simp⟩
    case round =>
      clear HT1 HB1
      obtain ⟨met, cs, f, a, A', c', r, ha, hr, rfl, hrc, hrd, htr, hdi, hnn, hbel, hpk, hf, hma, hca⟩ := hrel
      obtain ⟨A4, c4, rfl, -, -⟩ := hnn.has
      rw [show (nums9 cs).length = cs.length from by simp [nums9]] at *
      have hrl : r.length = l.length - a := by rw [← hr]; simp
      by_cases hlt : 0 < r.length
      · obtain ⟨b, o, rfl⟩ := has_some hrd hlt
        have hr0 : r ≠ [] := fun e => by rw [e] at hlt; simp at hlt
        obtain ⟨n1, n2, -, n4⟩ := len4_spec met r hr0
        have CL := Lib.hid (longest_any w.heap.size w.heap.size b o c' met r wr htr hlt (by have := HL2.out; omega) (by have := HL2.out; omega) hrc (hrd.carry hbel (Nat.le_refl _) hbel.size))
        have hltI : 0 < (r.length : Int) := by omega
        have HN := Lib.hid (And.intro n1 (And.intro n2 n4))
        have HPK := Lib.hid hpk
        have HF := Lib.hid hf
        have HRD := Lib.hid hrd
        have HTR := Lib.hid htr
        have HDI := Lib.hid hdi
        have HNN := Lib.hid hnn
        have HB := Lib.hid hbel
        have HR := Lib.hid (And.intro hr hrl)
        have HMA := Lib.hid (And.intro hma hca)
        have HR0 := Lib.hid hr0
        clear n1 n2 n4 hpk hf hrd htr hdi hnn hbel hr hrl hma hca hr0 hc
        unfold LongOut at CL
        obtain ⟨n, hn⟩ : ∃ n, len4 met r = n := ⟨_, rfl⟩
        rw [hn] at CL HN
        have HLN := Lib.hid hn
        clear hn
        go_wp2_with fail
        refine CL.out.mono ?_
        rintro e w2 ⟨cd, rfl, hcd, rfl⟩
        have HCD := Lib.hid hcd
        clear hcd CL
        go_upto_region 8 with (at_builtin; refine wpList_pushN rfl (.tmp 20) (.tmp 23) rfl w.heap.size (.slice A4 cs.length c4) (nums9 cs) rfl HNN.out (cd : Int) 9 wr.heap.size rfl rfl (by have := HL2.out; have := HMA.out.2; simp [nums9]; omega) HB.out.size ?_; intro g5 c5 w5 ho5 hg5)
        have hT5 := (HTR.out.below ((Below.refl _ wr).alloc (Nat.le_refl _) (.cells #[.int .i64 (cd : Int), .int .i64 9] 100)) (Nat.le_refl _)).grownN (HNN.out.alloc _) hg5
        have hB5 := (HB.out.alloc HB.out.size (.cells #[.int .i64 (cd : Int), .int .i64 9] 100)).grown hg5 (by have := HB.out.size; simp; omega) (fun q hq => (World.ownsRow.lt HNN.out q hq).1)
        rw [show nums9 cs ++ [((cd : Int), (9 : Int))] = nums9 (cs ++ [cd]) from by simp [nums9]] at ho5
        rw [show (nums9 cs).length = cs.length from by simp [nums9]] at *
        have HNN5 := Lib.hid ho5
        have HT5 := Lib.hid hT5
        have HB5 := Lib.hid hB5
        clear ho5 hg5 hT5 hB5 HNN HTR HB
        have HPK2 : Hid (cs ++ [cd] ++ pak4 (f - 1) (enter4 met r n) (r.drop n) = pak4 l.length [] l) := Lib.hid (by
          rw [← HPK.out]
          obtain ⟨f', rfl⟩ : ∃ f', f = f' + 1 := ⟨f - 1, by have := HF.out; omega⟩
          rw [pak4, if_neg HR0.out, HLN.out, HCD.out]
          simp)
        have HF2 : Hid ((r.drop n).length ≤ f - 1) := Lib.hid (by have := HF.out; have := HN.out.1; simp; omega)
        have HDR : Hid (l.drop (a + n) = r.drop n) := Lib.hid (by rw [← HR.out.1, List.drop_drop])
        clear HPK HF
        have hnI : 1 ≤ (n : Int) ∧ (n : Int) ≤ (r.length : Int) := by have := HN.out.1; have := HN.out.2.1; omega
        by_cases hnr : n < r.length
        · have hnI2 : (n : Int) < (r.length : Int) := by omega
          have hncI : (n : Int) < (c' : Int) := by omega
          have HL5 := Lib.hid (HRD.out.carry HB5.out (Nat.le_refl _) HB5.out.size)
          obtain ⟨b', o', x, e0, -, hx, hcell⟩ := HL5.out.spot hnr
          injection e0 with e0
          injection e0 with e1 e2 _
          subst e1 e2
          have HX := Lib.hid (take_snoc hx)
          have CE := Lib.hid (enter_any w.heap.size w.heap.size cd met (r.take n) x w5 HT5.out HDI.out HCD.out (fun e => by have h3 := congrArg List.length e; rw [List.length_take] at h3; simp only [List.length_nil] at h3; have := HN.out.1; omega) (by rw [← HX.out]; exact notin_of_none (HN.out.2.2 hnr)) (by have := HL2.out; have := HMA.out.1; have := HR.out.2; omega) HB5.out.size)
          rw [← HX.out] at CE
          have HEN : Hid (enter4 met r n = met ++ [r.take (n + 1)]) := Lib.hid (by unfold enter4; rw [if_pos ⟨hnr, by have := HL2.out; have := HMA.out.1; have := HR.out.2; omega⟩])
          have HDI2 : Hid (Dict (met ++ [r.take (n + 1)])) := Lib.hid (by rw [HX.out]; exact dict_enter HDI.out HCD.out (fun e => by have h3 := congrArg List.length e; rw [List.length_take] at h3; simp only [List.length_nil] at h3; have := HN.out.1; omega) (by rw [← HX.out]; exact notin_of_none (HN.out.2.2 hnr)))
          obtain ⟨m, hm⟩ : ∃ m, r.length - n = m := ⟨_, rfl⟩
          have HM := Lib.hid hm
          have hmI : 0 < (m : Int) := by omega
          clear hx hm
          go_upto_region 9 with fail
          rw [HM.out]
          have HNR := Lib.hid (And.intro hnr hrc)
          clear hnr hnI2 hnI hncI hrc hltI hlt
          go_wp2_with fail
          refine CE.out.mono ?_
          rintro e w6 ⟨rfl, ht6, hs6, hb6⟩
          have HT6 := Lib.hid ht6
          have HNN6 := Lib.hid (HNN5.out.stays hs6)
          have HB6 := Lib.hid (HB5.out.trans hb6)
          clear ht6 hs6 hb6 CE hcell
          go_wp2
          go_roundw
          case rel =>
            exact ⟨met ++ [r.take (n + 1)], cs ++ [cd], f - 1, a + n, some ⟨b, o + n, none⟩, c' - n, r.drop n, by have := HR.out.2; have := HNR.out.1; omega, HDR.out, by rw [List.length_drop, HM.out], by have := HNR.out; simp; omega, HRD.out.dropAt n, HT6.out, HDI2.out, HNN6.out, HB6.out, by rw [← HEN.out]; exact HPK2.out, HF2.out, by have := HMA.out.1; have := HN.out.1; simp; omega, by have := HMA.out.2; have := HN.out.1; simp; omega⟩
          case measure => have := HN.out.1; have := HM.out; have := HNR.out.1; simp [lenV]; omega
        · obtain rfl : n = r.length := by have := HN.out.2.1; omega
          have HEN : Hid (enter4 met r r.length = met) := Lib.hid (by unfold enter4; rw [if_neg (by omega)])
          have HRL := Lib.hid hlt
          by_cases hcn : c' = r.length
          · subst hcn
            clear hrc hlt
            go_wp2_with fail
            go_roundw
            case rel => exact ⟨met, cs ++ [cd], f - 1, a + r.length, some ⟨b, o, none⟩, 0, [], by have := HR.out.2; have := HRL.out; omega, by rw [HDR.out]; simp, by simp, by simp, .inl rfl, HT5.out, HDI.out, HNN5.out, HB5.out, by have := HPK2.out; rw [HEN.out] at this; simpa using this, by simp, by have := HMA.out.1; omega, by have := HMA.out.2; have := HRL.out; simp; omega⟩
            case measure => have := HRL.out; simp [lenV]; omega
          · have hncI : (r.length : Int) < (c' : Int) := by omega
            go_wp2_with fail
            go_roundw
            case rel => exact ⟨met, cs ++ [cd], f - 1, a + r.length, some ⟨b, o + r.length, none⟩, c' - r.length, [], by have := HR.out.2; have := HRL.out; omega, by rw [HDR.out]; simp, by simp, by simp, .inl rfl, HT5.out, HDI.out, HNN5.out, HB5.out, by have := HPK2.out; rw [HEN.out] at this; simpa using this, by simp, by have := HMA.out.1; omega, by have := HMA.out.2; have := HRL.out; simp; omega⟩
            case measure => have := HRL.out; simp [lenV]; omega
      · obtain rfl : r = [] := List.eq_nil_of_length_eq_zero (by omega)
        have hcs : cs = pak4 l.length [] l := by
          rw [← hpk]
          cases f <;> simp [pak4]
        have HCS := Lib.hid hcs
        have HNN := Lib.hid hnn
        have HB := Lib.hid hbel
        have HMA := Lib.hid (And.intro hma (And.intro hca ha))
        clear hpk hcs hnn hbel hf hma hca hr hrd hrl htr hdi hc
        go_wp2_with (at_builtin; refine wpList_pushN rfl (.tmp 37) (.tmp 39) rfl w.heap.size (.slice A4 cs.length c4) (nums9 cs) rfl HNN.out 256 9 wr.heap.size rfl rfl (by have := HL2.out; have := HMA.out.2; simp [nums9]; omega) HB.out.size ?_; intro g5 c5 w5 ho5 hg5)
        have hB5 := (HB.out.alloc HB.out.size (.cells #[.int .i64 256, .int .i64 9] 100)).grown hg5 (by have := HB.out.size; simp; omega) (fun q hq => (World.ownsRow.lt HNN.out q hq).1)
        rw [show nums9 cs ++ [((256 : Int), (9 : Int))] = nums9 (cs ++ [256]) from by simp [nums9]] at ho5
        have CP := Lib.hid (implBitPut_if _ c5 (nums9 (cs ++ [256])) w5 (by have := HL2.out; have := HMA.out.2; simp [nums9]; omega) ho5.reads (fun hf => by rw [HCS.out, put_fits HL2.out] at hf; cases hf))
        rw [show (nums9 (cs ++ [256])).length = cs.length + 1 from by simp [nums9]] at CP
        rw [show (nums9 cs).length = cs.length from by simp [nums9]] at *
        have HB5 := Lib.hid hB5
        clear hB5 ho5 hg5 HNN HB
        refine CP.out.mono ?_
        rintro e w6 ⟨v6, rfl, ho6, b6⟩
        have HO6 : Hid (Own w6 w.heap.size v6 (pakPutB l)) := Lib.hid (by
          unfold pakPutB
          rw [if_pos HL2.out, ← HCS.out]
          exact ho6.lower HB5.out.size)
        have HB6 := Lib.hid (HB5.out.trans (b6.mono HB5.out.size))
        clear ho6 b6 CP
        go_wp2_with fail
        go_ret
        exact ⟨_, rfl, HO6.out, HB6.out⟩
  · have hsI : (200 : Int) < (l.length : Int) := by omega
    have HQ : Hid (Own w w.heap.size (.slice none 0 0) (pakPutB l)) := Lib.hid (by unfold pakPutB; rw [if_neg h2]; exact own_nil _ _)
    clear h hs h2
    go_enter Try.func122, Try.ntmps122
    go_wp2_with fail
    go_ret
    exact ⟨_, rfl, HQ.out, Below.refl _ _⟩
theorem implPakPut_any (A : Option Addr) (c : Nat) (l : List UInt8) (w : World) (hs : l.length ≤ 1073741824) (hc : l.length ≤ c) (h : Has w w.heap.size A l) (_ : ErrsW w) :
    Calls Try.prog 122 #[.slice A l.length c] w (PakOut l w) := implPakPut_if A c l w hs hc h
end Go.Proofs.Ytnnpjcbdcjdojaa
