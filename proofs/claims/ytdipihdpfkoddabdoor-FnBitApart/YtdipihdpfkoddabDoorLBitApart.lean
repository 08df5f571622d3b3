/-
  The law FnBitApart returns true for every two lists of bytes. Condition: the two errors of writing are not nil.
-/
import Derived.Test.YtdipihdpfkoddabDoorDrawPut
import Derived.Test.YtdipihdpfkoddabDoorBitQ
import Derived.Test.YtdipihdpfkoddabDoorBitPS
import Derived.Test.YtdipihdpfkoddabDoorBitPR
import Derived.Test.YtdipihdpfkoddabDoorEaB
import Derived.Test.YtdipihdpfkoddabDoorEaOk
import Derived.StillTailTactics
import Derived.Deep.RegionHeld3
namespace Go.Proofs.YtdipihdpfkoddabDoor
open Go.RowKit

theorem below_drew1' {B : Nat} {a w : World} (h : Below B a w) : Below B a w.drew := ⟨h.os, h.tape, h.output, h.size, h.block⟩
theorem flat_set (l : List (Int × Int)) (i : Nat) (p : Int × Int) (x : Int) (h : l[i]? = some p) : (flat l).set (i * 2) (.int .i64 x) = flat (l.set i (x, p.2)) := by
  induction l generalizing i with
  | nil => simp at h
  | cons q t ih =>
    cases i with
    | zero => simp at h; subst h; rfl
    | succ i =>
      rw [flat_cons, List.set_cons_succ, flat_cons, ← ih i (by simpa using h), show (i + 1) * 2 = i * 2 + 1 + 1 from by omega, List.set_cons_succ, List.set_cons_succ]
theorem OwnN.set0 {w : World} {base g c : Nat} {l : List (Int × Int)} (h : OwnN w base (.slice (some ⟨g, 0, none⟩) l.length c) l) {i : Nat} {p : Int × Int} (hp : l[i]? = some p) (x : Int) :
    OwnN (w.setCell ⟨g, i * 2, none⟩ (.int .i64 x)) base (.slice (some ⟨g, 0, none⟩) l.length c) (l.set i (x, p.2)) := by
  have h2 := (World.ownsRow.stored h (i * 2) (.int .i64 x)).1
  unfold OwnN
  rw [List.length_set, ← flat_set l i p x hp]
  exact h2
theorem OwnN.nonnil {w : World} {base n c : Nat} {A : Option Addr} {l : List (Int × Int)} (h : OwnN w base (.slice A n c) l) (hn : 0 < l.length) : ∃ g, A = some ⟨g, 0, none⟩ ∧ base ≤ g ∧ g < w.heap.size := by
  rcases h.2 with ⟨hv, h0⟩ | ⟨g, cap, cur, hv, hb, hg, _⟩
  · omega
  · injection hv with hv _ _
    exact ⟨g, hv, hb, (Array.getElem?_eq_some_iff.1 hg).1⟩

theorem packed_set_snd (ns : List (Int × Int)) (i : Nat) (p : Int × Int) (x : Int) (h : ns[i]? = some p) : (packed (ns.set i (x, p.2))).2 = (packed ns).2 := by
  suffices hh : ∀ (ns : List (Int × Int)) (i : Nat) (s s' : List UInt8 × Nat), s.2 = s'.2 → ns[i]? = some p → ((ns.set i (x, p.2)).foldl (fun s p => pushTo s p.1.toNat p.2.toNat) s).2 = (ns.foldl (fun s p => pushTo s p.1.toNat p.2.toNat) s').2 from hh ns i _ _ rfl h
  have same : ∀ (ns : List (Int × Int)) (s s' : List UInt8 × Nat), s.2 = s'.2 → (ns.foldl (fun s p => pushTo s p.1.toNat p.2.toNat) s).2 = (ns.foldl (fun s p => pushTo s p.1.toNat p.2.toNat) s').2 := by
    intro ns
    induction ns with
    | nil => exact fun s s' h => h
    | cons q t ih => exact fun s s' h => ih _ _ (by rw [pushTo_snd, pushTo_snd, h])
  intro ns
  induction ns with
  | nil => intro i s s' _ h; simp at h
  | cons q t ih =>
    intro i s s' he h
    cases i with
    | zero =>
      simp at h
      subst h
      exact same t _ _ (by rw [pushTo_snd, pushTo_snd, he])
    | succ i => exact ih i _ _ (by rw [pushTo_snd, pushTo_snd, he]) (by simpa using h)
theorem okAll_set {ns : List (Int × Int)} (h : okAll ns = true) (i : Nat) (q : Int × Int) (hq : bitOkB q.1 q.2 = true) : okAll (ns.set i q) = true := by
  unfold okAll at h ⊢
  rw [List.all_eq_true] at h ⊢
  intro p hp
  rcases List.mem_or_eq_of_mem_set hp with h1 | h1
  · exact h p h1
  · rw [h1]; exact hq
theorem put_flag {ns : List (Int × Int)} (h : (bitPutB ns).length ≠ 0) : okAll ns = true ∧ (packed ns).2 ≤ 3200 := by
  have hc : (okAll ns && decide ((packed ns).2 ≤ 3200)) = true := by
    unfold bitPutB at h
    split at h
    · assumption
    · simp at h
  simpa using hc
/-- Another number there is written apart. -/
theorem put_apart (ns : List (Int × Int)) (i m m' q : Nat) (h : ns[i]? = some ((m : Int), (q : Int))) (hf : okAll ns = true ∧ (packed ns).2 ≤ 3200) (hq : 1 ≤ q ∧ q ≤ 12) (hm : m < 2 ^ q) (hm' : m' < 2 ^ q) (hne : m' ≠ m) :
    bitPutB (ns.set i ((m' : Int), (q : Int))) ≠ bitPutB ns := by
  have hb : bitOkB (m' : Int) (q : Int) = true := by
    unfold bitOkB
    have e : ((2 ^ q : Nat) : Int) = (2 : Int) ^ q := by simp
    simp
    omega
  have hok := okAll_set hf.1 i ((m' : Int), (q : Int)) hb
  have hsz : (packed (ns.set i ((m' : Int), (q : Int)))).2 = (packed ns).2 := packed_set_snd ns i ((m : Int), (q : Int)) (m' : Int) h
  rw [put_good hf.1 hf.2, put_good hok (by rw [hsz]; exact hf.2)]
  intro e
  have hi := (List.getElem?_eq_some_iff.1 h).1
  have h1 := packed_get ns i m q h hm
  have h2 := packed_get (ns.set i ((m' : Int), (q : Int))) i m' q (List.getElem?_set_self hi) hm'
  have ht : (ns.set i ((m' : Int), (q : Int))).take i = ns.take i := List.take_set_of_le (Nat.le_refl _)
  rw [ht, e, h1] at h2
  exact hne h2.symm

set_option maxHeartbeats 4000000 in
theorem fnBitApart_small (A A' : Option Addr) (c c' : Nat) (l l' : List UInt8) (w : World) (hT : ErrsW w) (h : Has w w.heap.size A l) (hc : l.length ≤ c) (hs : l.length ≤ 1048576) (hs' : l'.length ≤ 1048576) :
    Calls Tryd.prog 3 #[.slice A l.length c, .slice A' l'.length c'] w fun e w' => e = .returned (.bool true) ∧ Below w.heap.size w w' := by
  have hb : (l.length : Int) ≤ 1048576 := by omega
  have hb' : (l'.length : Int) ≤ 1048576 := by omega
  have HT : Hid (∀ W, Below w.heap.size w W → ErrsW W) := Lib.hid fun W hb => hT.below hb (Nat.le_refl _)
  have CD := Lib.hid (drawBitPut_any A c l w (by omega) hc h)
  clear hT h hc hs hs'
  go_enter Tryd.func3, Tryd.ntmps3
  go_wp2_with fail
  refine CD.out.mono ?_
  rintro e w1 ⟨v1, base, ns, p, rfl, hd, hnl⟩
  have HB1 := Lib.hid hd.2.2.2.2
  obtain ⟨A1, c1, hv1, -, h1⟩ := hd.2.2.2.1.has
  subst hv1
  have HNL := Lib.hid hnl
  have HN1 := Lib.hid h1
  have CP := Lib.hid (implBitPut_any A1 c1 ns w1 (by omega) h1 (HT.out _ HB1.out))
  clear hd h1 hnl CD
  go_wp2_with fail
  refine CP.out.mono ?_
  rintro e w2 ⟨v2, rfl, ho2, b2⟩
  obtain ⟨A2, c2, hv2, -, h2⟩ := ho2.has
  subst hv2
  have HB2 := Lib.hid (HB1.out.trans (b2.mono HB1.out.size))
  have HN2 := Lib.hid (HN1.out.carry b2 (Nat.le_refl _) b2.size)
  have HH2 := Lib.hid h2
  have CS := Lib.hid (specBitPut_any A1 c1 ns w2 (by have := HNL.out; omega) HN2.out)
  clear ho2 b2 h2 CP HN1 HB1
  go_wp2_with fail
  refine CS.out.mono ?_
  rintro e w3 ⟨v3, rfl, ho3, b3⟩
  obtain ⟨A3, c3, hv3, -, h3⟩ := ho3.has
  subst hv3
  have HB3 := Lib.hid (HB2.out.trans (b3.mono HB2.out.size))
  have HN3 := Lib.hid (HN2.out.carry b3 (Nat.le_refl _) b3.size)
  have HH3 := Lib.hid (HH2.out.carry b3 (Nat.le_refl _) b3.size)
  have CE := Lib.hid (eaBytes_same A2 A3 c2 c3 _ _ (bitPutB ns) w3 HH3.out h3)
  clear ho3 b3 h3 CS HN2 HB2 HH2
  have hrl := bitPutB_le ns
  obtain ⟨r, hrr⟩ : ∃ r, bitPutB ns = r := ⟨_, rfl⟩
  have HR := Lib.hid hrr
  rw [hrr] at CE HH3 hrl
  have hrl2 : (r.length : Int) ≤ 400 := by omega
  rw [hrr]
  clear hrr hrl
  go_wp2_with fail
  refine CE.out.mono ?_
  rintro e w' ⟨rfl, rfl⟩
  clear CE
  by_cases hr0 : r.length = 0
  · have h0 : ((r.length : Int) == 0) = true := beq_iff_eq.2 (by omega)
    clear hr0
    go_wp2_with fail
    refine (eaOk_any _).mono ?_
    rintro e w4 ⟨rfl, b4⟩
    have HB4 := Lib.hid (HB3.out.trans (b4.mono HB3.out.size))
    clear b4
    go_wp2_with fail
    go_ret
    exact ⟨rfl, HB4.out⟩
  · have h0 : ((r.length : Int) == 0) = false := beq_eq_false_iff_ne.2 (by omega)
    have hf := put_flag (ns := ns) (by rw [HR.out]; exact hr0)
    have hn0 : ns.length ≠ 0 := fun e => by
      have : ns = [] := List.eq_nil_of_length_eq_zero e
      have h1 := HR.out
      rw [this] at h1
      rw [← h1] at hr0
      exact hr0 rfl
    have hnz : ((ns.length : Int) == 0) = false := beq_eq_false_iff_ne.2 (by omega)
    have hnz2 : ¬ ((ns.length : Int) = 0) := by omega
    obtain ⟨i, hi⟩ : ∃ i, l'.length % ns.length = i := ⟨_, rfl⟩
    have hil : i < ns.length := by rw [← hi]; exact Nat.mod_lt _ (by omega)
    have ti : (l'.length : Int).tmod (ns.length : Int) = (i : Int) := by rw [tmod_cast2, hi]
    obtain ⟨b, o, q, rfl, hbB, hp, hc0, hc1⟩ := HN3.out.spot hil
    have hbo : bitOkB q.1 q.2 = true := by
      by_cases hbo : bitOkB q.1 q.2 = true
      · exact hbo
      · have := okAll_at hp (by simpa using hbo)
        rw [hf.1] at this
        cases this
    obtain ⟨m, qq, hm, hq, hq1, hq2, hm4⟩ := bitOk_form hbo
    have hqe : q = ((m : Int), (qq : Int)) := by rw [← hm, ← hq]
    rw [hqe] at hp
    rw [hm, hq] at hbo
    rw [hm] at hc0
    rw [hq] at hc1
    have hpow := bitOk_pow hbo
    obtain ⟨P, hP⟩ : ∃ P : Nat, 2 ^ qq = P := ⟨_, rfl⟩
    have hPpos : 0 < P := by rw [← hP]; exact Nat.pow_pos (by omega)
    have hPle : P ≤ 4096 := by rw [← hP]; exact two_pow_le qq hq2
    have hPi : (2 : Int) ^ qq = (P : Int) := by rw [← hP]; simp
    obtain ⟨m', hm'⟩ : ∃ m', (m + 1 + l'.length % 3) % P = m' := ⟨_, rfl⟩
    have hm'l : m' < P := by rw [← hm']; exact Nat.mod_lt _ hPpos
    have HC : Hid (∀ W, Below w3.heap.size w3 W → W.cell? ⟨b, o + i * 2, none⟩ = some (.int .i64 (m : Int)) ∧ W.cell? ⟨b, o + i * 2 + 1, none⟩ = some (.int .i64 (qq : Int))) := Lib.hid fun W hW => ⟨(hW.cell (p := ⟨b, o + i * 2, none⟩) hbB).trans hc0, (hW.cell (p := ⟨b, o + i * 2 + 1, none⟩) hbB).trans hc1⟩
    have HK1 : Hid (HasN (w3.alloc (.cells #[] 29)) w3.heap.size (some ⟨b, o, none⟩) ns) := Lib.hid (HN3.out.kept fun p hp => World.cell?_of_block (Below.heap_alloc w3 _ p.block hp))
    have HO4 := Lib.hid (ownN_empty (Nat.le_refl w3.heap.size))
    have HL1 : Hid (∀ q, (Value.slice (some ⟨w3.heap.size, 0, none⟩) 0 0).ownBlock = some q → w3.heap.size ≤ q) := Lib.hid fun q hq => by simp [Value.ownBlock] at hq; omega
    have HP := Lib.hid hp
    have HF := Lib.hid hf
    have HPW := Lib.hid hpow
    have HPE := Lib.hid hP
    have HI := Lib.hid hi
    have HM' := Lib.hid hm'
    clear hp hf hpow hP hi hm' hc0 hc1 hbo hm hq hqe hr0 hn0
    go_wp2_with (at_builtin; refine wpList_pushAllN rfl (.tmp 35) (.tmp 36) rfl w3.heap.size _ [] rfl HO4.out _ (some ⟨b, o, none⟩) c1 ns rfl HK1.out (by have := HNL.out; simp; omega) (by simp) ?_; intro v5 w5 ho5 hg5; rw [List.nil_append] at ho5; obtain ⟨A5, c5, hv5, -, -⟩ := ho5.has; subst hv5)
    have b5 : Below w3.heap.size w3 w5 := ((Below.refl _ w3).alloc (Nat.le_refl _) _).grown hg5 (by simp) HL1.out
    obtain ⟨g, rfl, hg1, hg2⟩ := ho5.nonnil (by omega)
    obtain ⟨e0, e1⟩ := HC.out _ b5
    have e0 : w5.drew.cell? ⟨b, o + i * 2, none⟩ = _ := e0
    have e1 : w5.drew.cell? ⟨b, o + i * 2 + 1, none⟩ = _ := e1
    have ho6 : OwnN w5.drew w3.heap.size (.slice (some ⟨g, 0, none⟩) ns.length c5) ns := ho5
    have fg : w5.drew.frozen? ⟨g, i * 2, none⟩ = false := World.ownsRow.frozenAt ho6 (i * 2)
    have cg : w5.drew.cell? ⟨g, i * 2, none⟩ = some (.int .i64 (m : Int)) := by rw [World.ownsRow.cellAt ho6 (i * 2) (by omega)]; exact (flat_at ns i _ HP.out).1
    obtain ⟨d, hd⟩ : ∃ d, l'.length % 3 = d := ⟨_, rfl⟩
    have td : (l'.length : Int).tmod 3 = (d : Int) := by rw [← hd]; exact tmod_cast2 _ 3
    have hsh : IntKind.i64.wrap (2 ^ min qq 64) = (P : Int) := by rw [Nat.min_eq_left (by omega), hPi]; exact IntWalk.i64_in _ (by omega)
    have hsh2 : IntKind.i64.wrap (2 ^ qq) = (P : Int) := by rw [hPi]; exact IntWalk.i64_in _ (by omega)
    have tm : ((m : Int) + 1 + (d : Int)).tmod (P : Int) = (m' : Int) := by rw [← HM'.out, hd, show (m : Int) + 1 + (d : Int) = ((m + 1 + d : Nat) : Int) from by omega, tmod_cast2]
    have u1 := IntWalk.i64_in ((m : Int) + 1) (by omega)
    have u2 := IntWalk.i64_in ((m : Int) + 1 + (d : Int)) (by omega)
    have hPn : ¬ P = 0 := by omega
    have hPz : ((P : Int) == 0) = false := beq_eq_false_iff_ne.2 (by omega)
    have hPz2 : ¬ ((P : Int) = 0) := by omega
    have pi : 0 ≤ (i : Int) ∧ (i : Int) < (ns.length : Int) := by omega
    have hd3 : (d : Int) < 3 := by omega
    have hm4' : (m : Int) < 4096 := by omega
    have HSO := Lib.hid (ho6.set0 HP.out (m' : Int))
    have HB6 : Hid (Below w3.heap.size w3 (w5.drew.setCell ⟨g, i * 2, none⟩ (.int .i64 (m' : Int)))) := Lib.hid ((show Below w3.heap.size w3 w5.drew from ⟨b5.os, b5.tape, b5.output, b5.size, b5.block⟩).setCell hg1 _)
    clear ho5 ho6 hg5 b5 hd HK1 HO4 HL1 hPi ti hg1 hg2
    refine wp_region_still_tail 19 (by kernel_rfl) (by kernel_rfl) ?_
    simp only [List.take_succ_cons, List.take_zero, List.drop_succ_cons, List.drop_zero]
    change wpStill _ _ w5.drew _ _ _
    repeat still_step
    refine wpStill_nil ?_
    change wpList _ _ _ _ _ w5.drew
    generalize w5.drew = w6 at *
    go_wp2_with fail
    have hnl5 : ns.length ≤ 300 := HNL.out
    have hlt7 : g < (w6.setCell ⟨g, i * 2, none⟩ (.int .i64 (m' : Int))).heap.size := (World.ownsRow.lt HSO.out g rfl).2
    have HN7 : Hid (HasN (w6.setCell ⟨g, i * 2, none⟩ (.int .i64 (m' : Int))).drew (w6.setCell ⟨g, i * 2, none⟩ (.int .i64 (m' : Int))).drew.heap.size (some ⟨g, 0, none⟩) (ns.set i ((m' : Int), (qq : Int)))) := Lib.hid (HSO.out.reads)
    have HB7 : Hid (Below w.heap.size w (w6.setCell ⟨g, i * 2, none⟩ (.int .i64 (m' : Int))).drew) := Lib.hid (below_drew1' (HB3.out.trans (HB6.out.mono HB3.out.size)))
    have B37 : Below w3.heap.size w3 (w6.setCell ⟨g, i * 2, none⟩ (.int .i64 (m' : Int))).drew := below_drew1' HB6.out
    have HZ7 : Hid (w3.heap.size ≤ (w6.setCell ⟨g, i * 2, none⟩ (.int .i64 (m' : Int))).drew.heap.size) := Lib.hid B37.size
    have HR7 := Lib.hid (HH3.out.carry B37 (Nat.le_refl _) B37.size)
    have k2 := (HC.out _ B37).1
    have k1 : (w6.setCell ⟨g, i * 2, none⟩ (.int .i64 (m' : Int))).drew.cell? ⟨g, i * 2, none⟩ = some (.int .i64 (m' : Int)) := by
      have hh := (HN7.out.spot (k := i) (by rw [List.length_set]; exact hil))
      obtain ⟨b', o', q', e, -, hq', e0', -⟩ := hh
      injection e with e
      injection e with e1' e2'
      subst e1' e2'
      rw [List.getElem?_set_self hil] at hq'
      injection hq' with hq'
      rw [Nat.zero_add, ← hq'] at e0'
      exact e0'
    clear HSO HB6 HC cg fg e0 e1 B37 hsh hsh2 tm td u1 u2 hPz hPz2 hPn hPpos hPle hm'l hnz hnz2 h0
    have hgb : g < (w6.setCell ⟨g, i * 2, none⟩ (.int .i64 (m' : Int))).drew.heap.size := hlt7
    have hbb : b < (w6.setCell ⟨g, i * 2, none⟩ (.int .i64 (m' : Int))).drew.heap.size := by have := HZ7.out; omega
    clear hlt7
    generalize w6.setCell ⟨g, i * 2, none⟩ (.int .i64 (m' : Int)) = w7 at *
    have CP2 := Lib.hid (implBitPut_any (some ⟨g, 0, none⟩) c5 (ns.set i ((m' : Int), (qq : Int))) w7.drew (by rw [List.length_set]; omega) HN7.out (HT.out _ HB7.out))
    rw [List.length_set] at CP2
    unfold PutOut at CP2
    clear hnl5
    by_cases hmm : m' = m
    · have hset : ns.set i ((m' : Int), (qq : Int)) = ns := by
        rw [hmm]
        apply List.ext_getElem?
        intro j
        by_cases hj : i = j
        · subst hj; rw [List.getElem?_set_self hil, HP.out]
        · rw [List.getElem?_set_ne hj]
      rw [hset, HR.out] at CP2
      subst hmm
      have CE := Lib.hid fun A c W B hh hh' => eaBytes_same A A2 c c2 B W.heap.size r W hh hh'
      have hbt : ((m' : Int) == (m' : Int)) = true := beq_iff_eq.2 rfl
      clear hset
      go_region_held3 (fun w' => w'.cell? ⟨g, i * 2, none⟩ = some (.int .i64 (m' : Int)) ∧ w'.cell? ⟨b, o + i * 2, none⟩ = some (.int .i64 (m' : Int)))
        (first | exact ⟨k1, k2⟩ | exact ⟨f1, f2⟩)
        (first
          | (go_at_call 5; refine CP2.out.mono ?_; rintro e w8 ⟨v8, rfl, ho8, b8⟩; obtain ⟨A8, c8, hv8, -, h8⟩ := ho8.has; subst hv8; have f1 := (b8.cell (p := ⟨g, i * 2, none⟩) hgb).trans k1; have f2 := (b8.cell (p := ⟨b, o + i * 2, none⟩) hbb).trans k2; have hR8 := HR7.out.carry b8 (Nat.le_refl _) b8.size; have HB8 := Lib.hid (HB7.out.trans (b8.mono HB7.out.size)); clear b8 ho8)
          | (go_at_call 6; refine (CE.out _ _ _ _ h8 hR8).mono ?_; rintro e w' ⟨rfl, rfl⟩))
      clear hR8 h8 f1 f2 k1 k2
      go_wp2_with fail
      go_ret
      exact ⟨rfl, HB8.out⟩
    · obtain ⟨s, hs⟩ : ∃ s, bitPutB (ns.set i ((m' : Int), (qq : Int))) = s := ⟨_, rfl⟩
      have hsr : s ≠ r := by
        rw [← hs, ← HR.out]
        exact put_apart ns i m m' qq HP.out HF.out ⟨hq1, hq2⟩ HPW.out (by rw [HPE.out, ← HM'.out]; exact Nat.mod_lt _ (by have := HPE.out; rw [← this]; exact Nat.pow_pos (by omega))) hmm
      rw [hs] at CP2
      have CE := Lib.hid fun A c W B hh hh' => eaBytes_diff A A2 c c2 B W.heap.size s r W hh hh' hsr
      have hbt : ((m' : Int) == (m : Int)) = false := beq_eq_false_iff_ne.2 (by omega)
      clear hs hsr hmm
      go_region_held3 (fun w' => w'.cell? ⟨g, i * 2, none⟩ = some (.int .i64 (m' : Int)) ∧ w'.cell? ⟨b, o + i * 2, none⟩ = some (.int .i64 (m : Int)))
        (first | exact ⟨k1, k2⟩ | exact ⟨f1, f2⟩)
        (first
          | (go_at_call 5; refine CP2.out.mono ?_; rintro e w8 ⟨v8, rfl, ho8, b8⟩; obtain ⟨A8, c8, hv8, -, h8⟩ := ho8.has; subst hv8; have f1 := (b8.cell (p := ⟨g, i * 2, none⟩) hgb).trans k1; have f2 := (b8.cell (p := ⟨b, o + i * 2, none⟩) hbb).trans k2; have hR8 := HR7.out.carry b8 (Nat.le_refl _) b8.size; have HB8 := Lib.hid (HB7.out.trans (b8.mono HB7.out.size)); clear b8 ho8)
          | (go_at_call 6; refine (CE.out _ _ _ _ h8 hR8).mono ?_; rintro e w' ⟨rfl, rfl⟩))
      clear hR8 h8 f1 f2 k1 k2
      go_wp2_with fail
      go_ret
      exact ⟨rfl, HB8.out⟩

theorem fnBitApart_walk (A : Option Addr) (c : Nat) (l : List UInt8) (A' : Option Addr) (c' : Nat) (l' : List UInt8) (w : World) (hT : ErrsW w) (h : Has w w.heap.size A l) (hc : l.length ≤ c) (_ : Has w w.heap.size A' l') (_ : l'.length ≤ c') :
    Calls Tryd.prog 3 #[.slice A l.length c, .slice A' l'.length c'] w fun e w' => e = .returned (.bool true) ∧ Below w.heap.size w w' := by
  by_cases hbig : 1048576 < l.length
  · have hb : (1048576 : Int) < (l.length : Int) := by omega
    go_enter Tryd.func3, Tryd.ntmps3
    go_wp2
    go_ret
    exact ⟨rfl, Below.refl _ _⟩
  · by_cases hbig' : 1048576 < l'.length
    · have hb0 : ¬ ((1048576 : Int) < (l.length : Int)) := by omega
      have hb : (1048576 : Int) < (l'.length : Int) := by omega
      go_enter Tryd.func3, Tryd.ntmps3
      go_wp2
      go_ret
      exact ⟨rfl, Below.refl _ _⟩
    · exact fnBitApart_small A A' c c' l l' w hT h hc (by omega) (by omega)
end Go.Proofs.YtdipihdpfkoddabDoor
