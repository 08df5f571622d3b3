/-
  The reference's l1Sum is the sum of bytes. Condition: at most 10000 bytes.
-/
import Derived.Test.YtbejafbpipdbjaaDoorShaPrime
import Derived.Test.YtbejafbpipdbjaaDoorShaWhole
import Derived.Test.YtbejafbpipdbjaaDoorShaMore
namespace Go.Proofs.YtbejafbpipdbjaaDoor
set_option maxRecDepth 4000
open Go.RowKit

/-- The roots of the first k primes. -/
def rootsTo (three : Bool) (k : Nat) : List Nat := (primes64.take k).map fun p => root p three
theorem rootsTo_succ (three : Bool) (k p : Nat) (h : primes64[k]? = some p) : rootsTo three (k + 1) = rootsTo three k ++ [root p three] := by
  obtain ⟨hk, rfl⟩ := List.getElem?_eq_some_iff.1 h
  unfold rootsTo
  rw [List.take_succ_eq_append_getElem hk, List.map_append]
  rfl
theorem rootsTo_length (three : Bool) (k : Nat) (hk : k ≤ 64) : (rootsTo three k).length = k := by simp [rootsTo, primes64_length]; omega
theorem rootsTo_8 : rootsTo false 8 = first8.list := roots2
theorem rootsTo_64 : rootsTo true 64 = round64 := by
  rw [← roots3, rootsTo, List.take_of_length_le (by rw [primes64_length]; exact Nat.le_refl _)]

/-- 'append(v, m...)' of numbers that are read, v the call's own. -/
theorem wpList_pushAllK {P : Program} (k : IntKind) (ts t : TypeId) {i0 : TypeInfo} {bytes : Nat} (hu : P.underlying ts = some (.slice t)) (hi : P.info? t = some i0) (hz0 : i0.zero = some (.int k 0)) (hz1 : i0.size = 1) (hz2 : i0.bytes = bytes)
    {w : World} {ops : Array Oper} {rest : List Oper} {o : Oper} {a : Act} {Q : Exit → Act → World → Prop} (hgd : o.guard = none) (s x : Operand)
    (ho : o.op = .call { callee := .builtin .append, args := #[s, x], argTypes := #[ts, ts] })
    (base : Nat) (v : Value) (l : List Nat) (hs : a.eval s = v) (hown : OwnK k t w base v l) (B b p c n : Nat) (m : List Nat) (hn : m.length = n)
    (hx : a.eval x = .slice (some ⟨b, p, none⟩) n c) (hm : HasK k w B (some ⟨b, p, none⟩) m) (hb : (l.length + n) * bytes ≤ 140737488355328) (hb2 : l.length + n ≤ 1000000000) (hbase : base ≤ w.heap.size)
    (h : ∀ v' w', OwnK k t w' base v' (l ++ m) → w.grownBy w' v.ownBlock → wpList P ops Q rest (a.put o.dst v') w') :
    wpList P ops Q (o :: rest) a w := by
  subst hn
  refine wpList_append_own w hgd s x ts ho base t i0 (.int k 0) 1 bytes hu hi hz0 hz1 hz2 rfl (by omega) v l.length (l.map (kv k)) hs hown ⟨b, p, none⟩ m.length c (m.map (kv k)) hx (by simp) ?_ (kvs_one _ _) (by unfold maxLen; omega) hb hbase ?_
  · intro j u hu
    simp only [List.getElem?_map, Option.map_eq_some_iff] at hu
    obtain ⟨y, hy, rfl⟩ := hu
    rcases hm with rfl | ⟨b', o', e, _, hc⟩
    · simp at hy
    · injection e with e
      injection e with e1 e2 _
      subst e1 e2
      rw [plain_add]
      exact hc j y hy
  · intro v' w' h1 h2 _
    refine h v' w' ?_ h2
    unfold OwnK
    rw [List.length_append, List.map_append]
    exact h1
theorem Has.cut {w : World} {B b o : Nat} {l : List UInt8} (h : Has w B (some ⟨b, o, none⟩) l) (n m : Nat) : Has w B (some ⟨b, o + n, none⟩) ((l.drop n).take m) := by
  rcases h with rfl | ⟨b', o', e, hb, hc⟩
  · exact .inl (by simp)
  · injection e with e
    injection e with e1 e2 _
    subst e1 e2
    refine .inr ⟨b, o + n, rfl, hb, fun i x hx => ?_⟩
    rw [Nat.add_assoc]
    refine hc (n + i) x ?_
    rw [List.getElem?_take] at hx
    split at hx
    · rw [List.getElem?_drop] at hx; exact hx
    · cases hx
theorem Has.grown {w w' : World} {B : Nat} {A : Option Addr} {l : List UInt8} {row : Option Nat} (h : Has w B A l) (hg : w.grownBy w' row) (hB : B ≤ w.heap.size) (hr : ∀ b o, A = some ⟨b, o, none⟩ → row ≠ some b) : Has w' B A l := by
  rcases h with rfl | ⟨b, o, rfl, hb, hc⟩
  · exact .inl rfl
  · exact .inr ⟨b, o, rfl, hb, fun i x hx => (World.cell?_of_block (hg.block b (by omega) (fun e => hr b o rfl e.symm))).trans (hc i x hx)⟩
theorem rounds_next (s : Eight) (ws : List Nat) (k rk x : Nat) (h1 : round64[k]? = some rk) (h2 : ws[k]? = some x) : rounds s ws (k + 1) = (rounds s ws k).step (rk + x) := by
  rw [rounds, List.getD, List.getD, h1, h2]
  rfl
theorem l1Word_sum (y z : Nat) (w : World) (hy : y < 4294967296) (hz : z < 4294967296) :
    Calls Tryd.prog 115 #[.int .u64 ((y : Int) + (z : Int))] w fun e w' => e = .returned (.int .u64 (((y : Int) + (z : Int)) % 4294967296)) ∧ w' = w := l1Word_any _ _ (by omega) (by omega)
theorem far_keptB {wr w2 : World} {B : Nat} {v : Value} {l : List UInt8} {o : Obj} (ho : Own wr B v l) (hg : ((wr.alloc o).drew).grownBy w2 v.ownBlock) : ∀ p : Addr, p.block < B ∧ p.block < wr.heap.size → w2.cell? p = wr.cell? p := fun p hp =>
  (World.cell?_of_block (hg.block p.block (by show p.block < (wr.alloc o).heap.size; simp; omega) (fun e => by have := (World.ownsRow.lt ho p.block e.symm).1; omega))).trans (World.cell?_of_block (Below.heap_alloc wr o p.block hp.2))
theorem whole_blocks (l : List UInt8) : ∃ N, (whole l).length = 64 * N ∧ (whole l).length / 64 = N ∧ N ≤ l.length + 2 := by
  refine ⟨(whole l).length / 64, ?_, rfl, ?_⟩ <;> (rw [whole_length]; unfold zeros; omega)

set_option maxRecDepth 100000 in
set_option maxHeartbeats 4000000 in
theorem l1Sum_any (A : Option Addr) (c : Nat) (l : List UInt8) (w : World) (hl : l.length ≤ 10000) (h : Has w w.heap.size A l) :
    Calls Tryd.prog 95 #[.slice A l.length c] w fun e w' => ∃ v, e = .returned v ∧ Own w' w.heap.size v (sha l) ∧ Below w.heap.size w w' := by
  obtain ⟨i0, hi, hz0, hz1, hz2⟩ := info_parts info64
  go_enter Tryd.func95, Tryd.ntmps95
  go_wp2_with fail
  refine (l1Primes_any _).mono ?_
  rintro e w1 ⟨vP, rfl, hoP, hb1⟩
  obtain ⟨AP, cP, hv, -, hP⟩ := hoP.has
  rw [primes64_length] at hv
  subst hv
  have hz1' := hb1.size
  clear hoP
  go_wp2_with fail
  go_loopw [4, 5] (fun v i wr => ∃ k : Nat, k ≤ 8 ∧ i = .int .i64 k ∧ OwnK .u64 137 wr w1.heap.size v (rootsTo false k) ∧ Below w1.heap.size w1 wr) (fun _ i _ => 8 - (intOf i).toNat)
  case atStart => exact ⟨0, by omega, rfl, OwnK.empty (Nat.le_refl _), (Below.refl _ _).alloc (Nat.le_refl _) _⟩
  case round =>
    obtain ⟨k, hk, rfl, hown, hbel⟩ := hrel
    have hws := hbel.size
    by_cases hlt : k < 8
    · obtain ⟨b, o, p, rfl, hbB, hx, hc⟩ := hP.spot (i := k) (by rw [primes64_length]; omega)
      have hcx := (hbel.cell (p := ⟨b, o + k, none⟩) hbB).trans hc
      have HS := Lib.hid (rootsTo_succ false k p hx)
      have hlen := rootsTo_length false k (by omega)
      clear hc hx hP
      go_wp2_with fail
      refine (l1Root_any p false 2 rfl _).mono ?_
      rintro e w' ⟨rfl, rfl⟩
      generalize root p false = r at *
      go_wp2_with (at_builtin; refine wpList_pushK .u64 144 137 Tryd.underlying144 hi hz0 hz1 hz2 rfl (.tmp 22) (.tmp 28) rfl w1.heap.size _ (rootsTo false k) rfl hown r _ rfl rfl (by omega) (by omega) (by omega) ?_; intro g2 c2 w2 ho2 hg2)
      have hb2 := (hbel.alloc hws (.cells #[.int .u64 (r : Int)] 137)).grown hg2 (by simp; omega) (fun q hq => (World.ownsRow.lt hown q hq).1)
      rw [← HS.out, hlen] at ho2
      clear hg2 hown hcx hlen
      go_wp2
      go_roundw
      case rel => exact ⟨k + 1, by omega, by go_num, ho2, hb2⟩
      case measure => simp [intOf]; omega
    · obtain rfl : k = 8 := by omega
      rw [show ((8 : Nat) : Int) = 8 from rfl]
      rw [rootsTo_8] at hown
      obtain ⟨AH, cH, hv, -, -⟩ := hown.has
      have hv : _ = Value.slice AH 8 cH := hv
      subst hv
      obtain ⟨gH, rfl, hgH1, hgH2⟩ := hown.nonnil (by simp [Eight.list])
      have h2 : Has wr wr.heap.size A l := h.carry (hb1.trans (hbel.mono hz1')) (Nat.le_refl _) (by omega)
      go_wp2_with fail
      refine (l1Whole_any A c l _ (by omega) h2).mono ?_
      rintro e w3 ⟨vA, rfl, hoA, hb3⟩
      obtain ⟨AA, cA, rfl, hcA, hA3⟩ := hoA.has
      have hP3 : HasK .u64 w3 w1.heap.size AP primes64 := (hP.below hbel).below (hb3.mono hws)
      have hz3 := hb3.size
      have hoH3 : OwnK .u64 137 w3 w1.heap.size (.slice (some ⟨gH, 0, none⟩) 8 cH) first8.list := hown.below hb3 (Nat.le_refl _)
      have hb3' : Below w1.heap.size w1 w3 := hbel.trans (hb3.mono hws)
      have hA3B : ∀ b o, AA = some ⟨b, o, none⟩ → gH ≠ b ∨ whole l = [] := by
        intro b o e
        subst e
        rcases hoA.2 with ⟨hv, h0⟩ | ⟨g, cap, cur, hv, hb, hg, _⟩
        · injection hv with hv _ _
          cases hv
        · injection hv with hv _ _
          injection hv with hv
          injection hv with hv _ _
          left
          omega
      clear hoA hown hbel hws h2 h hP hb3
      go_wp2_with fail
      go_loopw [7, 8] (fun v i wr => ∃ k : Nat, k ≤ 64 ∧ i = .int .i64 k ∧ OwnK .u64 137 wr w3.heap.size v (rootsTo true k) ∧ Below w3.heap.size w3 wr) (fun _ i _ => 64 - (intOf i).toNat)
      case atStart => exact ⟨0, by omega, rfl, OwnK.empty (Nat.le_refl _), (Below.refl _ _).alloc (Nat.le_refl _) _⟩
      case round =>
        obtain ⟨k, hk, rfl, hown, hbel⟩ := hrel
        have hws := hbel.size
        by_cases hlt : k < 64
        · obtain ⟨b, o, p, rfl, hbB, hx, hc⟩ := hP3.spot (i := k) (by rw [primes64_length]; omega)
          have hcx := (hbel.cell (p := ⟨b, o + k, none⟩) (by show b < _; omega)).trans hc
          have HS := Lib.hid (rootsTo_succ true k p hx)
          have hlen := rootsTo_length true k (by omega)
          clear hc hx hP3
          go_wp2_with fail
          refine (l1Root_any p true 3 rfl _).mono ?_
          rintro e w' ⟨rfl, rfl⟩
          generalize root p true = r at *
          go_wp2_with (at_builtin; refine wpList_pushK .u64 144 137 Tryd.underlying144 hi hz0 hz1 hz2 rfl (.tmp 37) (.tmp 43) rfl w3.heap.size _ (rootsTo true k) rfl hown r _ rfl rfl (by omega) (by omega) (by omega) ?_; intro g2 c2 w2 ho2 hg2)
          have hb2 := (hbel.alloc hws (.cells #[.int .u64 (r : Int)] 137)).grown hg2 (by simp; omega) (fun q hq => (World.ownsRow.lt hown q hq).1)
          rw [← HS.out, hlen] at ho2
          clear hg2 hown hcx hlen
          go_wp2
          go_roundw
          case rel => exact ⟨k + 1, by omega, by go_num, ho2, hb2⟩
          case measure => simp [intOf]; omega
        · obtain rfl : k = 64 := by omega
          rw [show ((64 : Nat) : Int) = 64 from rfl]
          rw [rootsTo_64] at hown
          obtain ⟨AK, cK, hv, -, hK4⟩ := hown.has
          have hv : _ = Value.slice AK 64 cK := hv
          subst hv
          obtain ⟨gK, rfl, hgK1, hgK2⟩ := hown.nonnil (by rw [round64_length]; omega)
          have hA4 : Has wr w3.heap.size AA (whole l) := hA3.below hbel
          have hoH4 : OwnK .u64 137 wr w1.heap.size (.slice (some ⟨gH, 0, none⟩) 8 cH) first8.list := hoH3.below hbel (Nat.le_refl _)
          have hb4 : Below w1.heap.size w1 wr := hb3'.trans (hbel.mono hb3'.size)
          have hgHK : gH ≠ gK := by omega
          have hw34 : w3.heap.size ≤ wr.heap.size := hws
          have hgHr : gH < wr.heap.size := by omega
          have hsha : sha l = out32 (blocks (whole l) ((whole l).length / 64)) := rfl
          obtain ⟨N, hN1, hN2, hN3⟩ := whole_blocks l
          rw [hN2] at hsha
          have HSHA := Lib.hid hsha
          have HN1 := Lib.hid hN1
          generalize whole l = L at *
          have hb14 : Below w.heap.size w wr := hb1.trans (hb4.mono hz1')
          clear hown hbel hoH3 hb3' hA3 hP3 hb1 hb4 hN2 hsha hlt hk
          rw [hN1] at hcA
          go_wp2_with fail
          rw [HN1.out]
          clear hN1
          obtain ⟨W4, hW4⟩ : ∃ W4, W4 = wr := ⟨_, rfl⟩
          subst hW4
          go_loopw [9] (fun i w' => ∃ n : Nat, n ≤ N ∧ i = .int .i64 (64 * (n : Int)) ∧ OwnK .u64 137 w' w1.heap.size (.slice (some ⟨gH, 0, none⟩) 8 cH) (blocks L n).list ∧ W4.grownBy w' (some gH)) (fun i _ => 64 * N - (intOf i).toNat)
          case atStart => exact ⟨0, by omega, rfl, hoH4, World.grownBy.refl _ _⟩
          case round =>
            clear hoH4
            obtain ⟨n, hn, rfl, hoH, hgr⟩ := hrel
            have hgz := hgr.size
            have hHr := hoH.reads
            by_cases hlt : n < N
            · have hKr : HasK .u64 wr W4.heap.size (some ⟨gK, 0, none⟩) round64 := hK4.grown hgr (Nat.le_refl _) (fun b o e => by injection e with e; injection e with e1 _ _; subst e1; intro h; injection h with h; exact hgHK h)
              have hL : 0 < L.length := by rw [HN1.out]; omega
              obtain ⟨bA, oA, _, rfl, _, _, _⟩ := hA4.spot hL
              have hbA : gH ≠ bA := by
                rcases hA3B bA oA rfl with h | h
                · exact h
                · rw [h] at hL; simp at hL
              have hAr : Has wr w3.heap.size (some ⟨bA, oA, none⟩) L := hA4.grown hgr hw34 (fun b o e => by injection e with e; injection e with e1 _ _; subst e1; intro h; injection h with h; exact hbA h)
              have hblk := hAr.cut (64 * n) 64
              have hbl : ((L.drop (64 * n)).take 64).length = 64 := by rw [List.length_take, List.length_drop, HN1.out]; omega
              have HBL := Lib.hid hbl
              have HMIX := Lib.hid (show blocks L (n + 1) = mix (blocks L n) ((L.drop (64 * n)).take 64) from rfl)
              have hok := blocks_ok L n
              generalize (L.drop (64 * n)).take 64 = blk at *
              generalize blocks L n = s at *
              have hcn : ¬ cA = 64 * n := by omega
              have hcn2 : 64 * n + 64 ≤ cA := by omega
              have hlt2 : 64 * (n : Int) < 64 * (N : Int) := by omega
              clear hbl
              go_wp2_with fail
              refine (l1Words_any _ _ blk _ HBL.out (hblk.wider (by omega))).mono ?_
              rintro e w5 ⟨vW, rfl, hoW, hb5⟩
              obtain ⟨AW, cW, hv, -, hW5⟩ := hoW.has
              rw [sched_length] at hv
              subst hv
              have hz5 := hb5.size
              have hH5 : HasK .u64 w5 wr.heap.size (some ⟨gH, 0, none⟩) s.list := hHr.below hb5
              have hK5 : HasK .u64 w5 W4.heap.size (some ⟨gK, 0, none⟩) round64 := hKr.below (hb5.mono hgz)
              clear hoW hHr hKr hAr hblk
              go_wp2_with (at_builtin; refine wpList_pushAllK .u64 144 137 Tryd.underlying144 hi hz0 hz1 hz2 rfl (.tmp 57) (.tmp 58) rfl w5.heap.size _ [] rfl (OwnK.empty (Nat.le_refl _)) wr.heap.size gH 0 cH 8 s.list rfl rfl (by exact hH5.kept fun p hp => World.cell?_of_block (Below.heap_alloc w5 _ p.block (by omega))) (by simp) (by simp) (by simp) ?_; intro vX w6 hoX hg6)
              have hb6 : Below w5.heap.size w5 w6 := ((Below.refl _ w5).alloc (Nat.le_refl _) _).grown hg6 (by simp) (fun k hk => (World.ownsRow.lt (OwnK.empty (k := .u64) (t := 137) (w := w5) (Nat.le_refl _)) k hk).1)
              rw [List.nil_append] at hoX
              clear hg6
              obtain ⟨W0, hW0⟩ : ∃ W0, W0 = wr := ⟨_, rfl⟩
              subst hW0
              go_wp2_with fail
              go_loopw [11, 12] (fun v i w' => ∃ k : Nat, k ≤ 64 ∧ i = .int .i64 k ∧ OwnK .u64 137 w' w5.heap.size v (rounds s (sched blk 64) k).list ∧ Below w5.heap.size w5 w') (fun _ i _ => 64 - (intOf i).toNat)
              case atStart => exact ⟨0, by omega, rfl, hoX, hb6⟩
              case round =>
                clear hoX hb6
                obtain ⟨k, hk, rfl, hoX, hbX⟩ := hrel
                have hzX := hbX.size
                obtain ⟨AX, cX, hv, -, hX⟩ := hoX.has
                have hv : _ = Value.slice AX 8 cX := hv
                subst hv
                obtain ⟨gX, rfl, hgX1, hgX2⟩ := hoX.nonnil (by simp [Eight.list])
                by_cases hlt3 : k < 64
                · obtain ⟨_, _, rk, e, _, hrk, dK⟩ := hK5.spot (i := k) (by rw [round64_length]; omega)
                  simp only [Option.some.injEq, Addr.mk.injEq, and_true] at e
                  obtain ⟨rfl, rfl⟩ := e
                  obtain ⟨bW, oW, x, rfl, hbW, hx, dW⟩ := hW5.spot (i := k) (by rw [sched_length]; omega)
                  have lrk := round64_lt rk (List.mem_of_getElem? hrk)
                  have lx := sched_lt blk 64 x (List.mem_of_getElem? hx)
                  have HR := Lib.hid (rounds_next s (sched blk 64) k rk x hrk hx)
                  have hok2 := rounds_ok hok (sched blk 64) k
                  have dK2 : wr.drew.cell? _ = _ := (hbX.cell (p := ⟨gK, 0 + k, none⟩) (by show gK < _; omega)).trans dK
                  have dW2 : wr.drew.cell? _ = _ := (hbX.cell (p := ⟨bW, oW + k, none⟩) hbW).trans dW
                  have hXd : HasK .u64 wr.drew wr.drew.heap.size (some ⟨gX, 0, none⟩) (rounds s (sched blk 64) k).list := hX
                  have hbXd : Below w5.heap.size w5 wr.drew := hbX.drew
                  have hzXd : w5.heap.size ≤ wr.drew.heap.size := hzX
                  rw [Nat.zero_add] at dK2
                  clear hrk hx dK dW hX hbX hoX hK5 hW5
                  generalize rounds s (sched blk 64) k = t at *
                  go_wp2_with fail
                  refine wp_region_still_tail 9 (by kernel_rfl) (by kernel_rfl) ?_
                  simp only [List.take_succ_cons, List.take_zero, List.drop_succ_cons, List.drop_zero]
                  change wpStill _ _ wr.drew _ _ _
                  repeat still_step
                  refine wpStill_nil ?_
                  go_wp2_with fail
                  refine (l1Step_any gX 0 cX t rk x _ hok2 lrk lx hXd).mono ?_
                  rintro e w7 ⟨rfl, ho7, hb7⟩
                  have hb7' : Below w5.heap.size w5 w7 := hbXd.trans (hb7.mono hzXd)
                  have ho7' : OwnK .u64 137 w7 w5.heap.size (.slice (some ⟨wr.heap.size, 0, none⟩) 8 8) (rounds s (sched blk 64) (k + 1)).list := by
                    rw [HR.out]
                    refine ⟨ho7.1, ?_⟩
                    rcases ho7.2 with hn | ⟨g, cap, cur, e, hg, rest⟩
                    · exact .inl hn
                    · exact .inr ⟨g, cap, cur, e, Nat.le_trans hzX hg, rest⟩
                  clear ho7 hb7 hXd hbXd dK2 dW2
                  go_wp2_with fail
                  go_roundw
                  case rel => exact ⟨k + 1, by omega, by go_num, ho7', hb7'⟩
                  case measure => simp [intOf]; omega
                · obtain rfl : k = 64 := by omega
                  rw [show ((64 : Nat) : Int) = 64 from rfl]
                  have HMX := Lib.hid (show mix s blk = s.plus (rounds s (sched blk 64) 64) from rfl)
                  have hokt := rounds_ok hok (sched blk 64) 64
                  have hoH8 : OwnK .u64 137 wr w1.heap.size (.slice (some ⟨gH, 0, none⟩) 8 cH) s.list := (hoH.below hb5 (Nat.le_refl _)).below hbX (Nat.le_refl _)
                  have hgr8 : W4.grownBy wr (some gH) := grown_own (grown_own hgr (only_below hb5) (fun q e => by cases e)) (only_below hbX) (fun q e => by cases e)
                  have hXw : HasK .u64 wr wr.heap.size (some ⟨gX, 0, none⟩) (rounds s (sched blk 64) 64).list := hX
                  have hgHX : gX ≠ gH := by omega
                  generalize rounds s (sched blk 64) 64 = t at *
                  have hok0 := hok
                  clear hoX hX hK5 hW5 hH5 hb5 hbX hoH hgr hgX1 hok hzX hz5
                  obtain ⟨W8, hW8⟩ : ∃ W8, W8 = wr := ⟨_, rfl⟩
                  subst hW8
                  go_wp2_with fail
                  go_loopw [13] (fun i w' => ∃ k : Nat, k ≤ 8 ∧ i = .int .i64 k ∧ OwnK .u64 137 w' w1.heap.size (.slice (some ⟨gH, 0, none⟩) 8 cH) (plusTo s t k) ∧ W8.grownBy w' (some gH)) (fun i _ => 8 - (intOf i).toNat)
                  case atStart => exact ⟨0, by omega, rfl, hoH8, World.grownBy.refl _ _⟩
                  case round =>
                    clear hoH8
                    obtain ⟨k, hk, rfl, hoH, hgr⟩ := hrel
                    by_cases hlt5 : k < 8
                    · have hXr : HasK .u64 wr W8.heap.size (some ⟨gX, 0, none⟩) t.list := hXw.grown hgr (Nat.le_refl _) (fun b o e => by injection e with e; injection e with e1 _ _; subst e1; intro h; injection h with h; exact hgHX h.symm)
                      obtain ⟨_, _, y, e, _, hy, dH⟩ := hoH.reads.spot (i := k) (by rw [plusTo_length s t k hk]; exact hlt5)
                      simp only [Option.some.injEq, Addr.mk.injEq, and_true] at e
                      obtain ⟨rfl, rfl⟩ := e
                      obtain ⟨_, _, z, e, _, hz, dX⟩ := hXr.spot (i := k) (by simp [Eight.list]; omega)
                      simp only [Option.some.injEq, Addr.mk.injEq, and_true] at e
                      obtain ⟨rfl, rfl⟩ := e
                      have ly := plusTo_lt hok0 k y (List.mem_of_getElem? hy)
                      have lz := Eight.list_lt hokt z (List.mem_of_getElem? hz)
                      have hpl := plusTo_length s t k hk
                      have hoH' : OwnK .u64 137 wr w1.heap.size (.slice (some ⟨gH, 0, none⟩) (plusTo s t k).length cH) (plusTo s t k) := by rw [hpl]; exact hoH
                      have hfr : wr.drew.frozen? ⟨gH, k, none⟩ = false := World.ownsRow.frozenAt hoH' k
                      have hset := OwnK.set (w := wr.drew) hoH' k ((y + z) % 4294967296)
                      rw [plusTo_step s t k y z hlt5 hy hz, hpl] at hset
                      obtain ⟨m, hm⟩ : ∃ m, (y + z) % 4294967296 = m := ⟨_, rfl⟩
                      rw [hm] at hset
                      have HSET := Lib.hid hset
                      have V1 := Lib.hid (show ((y : Int) + (z : Int)) % 4294967296 = (m : Int) by omega)
                      have U1 := Lib.hid (wrap64u ((y : Int) + (z : Int)) (by omega) (by omega))
                      have CW := Lib.hid fun W => l1Word_sum y z W ly lz
                      rw [Nat.zero_add] at dH dX
                      have dH' : wr.drew.cell? _ = _ := dH
                      have dX' : wr.drew.cell? _ = _ := dX
                      have HDH := Lib.hid dH'
                      have HDX := Lib.hid dX'
                      have HFR := Lib.hid hfr
                      clear hy hz hset hoH hoH' hXr hm dH dX hpl dH' dX' hfr ly lz
                      go_wp2_with fail
                      have v1 := V1.out
                      have u1 := U1.out
                      have dH' := HDH.out
                      have dX' := HDX.out
                      have hfr := HFR.out
                      refine wp_region_still_tail 13 (by kernel_rfl) (by kernel_rfl) ?_
                      simp only [List.take_succ_cons, List.take_zero, List.drop_succ_cons, List.drop_zero]
                      change wpStill _ _ wr.drew _ _ _
                      repeat (first | still_call (CW.out _) | still_step)
                      refine wpStill_nil ?_
                      clear v1 u1
                      go_wp2
                      go_roundw
                      case rel => exact ⟨k + 1, by omega, by go_num, HSET.out.1, grown_trans (only_drew1 hgr) HSET.out.2⟩
                      case measure => simp [intOf]; omega
                    · obtain rfl : k = 8 := by omega
                      rw [show ((8 : Nat) : Int) = 8 from rfl]
                      rw [plusTo_all, ← HMX.out, ← HMIX.out] at hoH
                      have hgr9 : W4.grownBy wr (some gH) := grown_trans hgr8 hgr
                      clear hgr hgr8
                      go_wp2
                      go_roundw
                      case rel => exact ⟨n + 1, by omega, by go_num, hoH, hgr9⟩
                      case measure => simp [intOf]; omega
            · obtain rfl : n = N := by omega
              have hH9 : HasK .u64 wr wr.heap.size (some ⟨gH, 0, none⟩) (blocks L n).list := hHr
              have hb9 : Below w.heap.size w wr := hb14.grown hgr (by have := hb14.size; omega) (fun q e => by injection e with e; omega)
              have hok9 := blocks_ok L n
              generalize blocks L n = s at *
              clear hoH hgr hHr hK4 hA4 hA3B hb14 hgz hcA
              obtain ⟨W9, hW9⟩ : ∃ W9, W9 = wr := ⟨_, rfl⟩
              subst hW9
              go_wp2_with fail
              go_loopw [14, 15] (fun v i w' => ∃ k : Nat, k ≤ 8 ∧ i = .int .i64 k ∧ Own w' W9.heap.size v (outTo s k) ∧ Below W9.heap.size W9 w') (fun _ i _ => 8 - (intOf i).toNat)
              case atStart => exact ⟨0, by omega, rfl, own_empty (Nat.le_refl _), (Below.refl _ _).alloc (Nat.le_refl _) _⟩
              case round =>
                obtain ⟨k, hk, rfl, hown, hbel⟩ := hrel
                have hws := hbel.size
                by_cases hlt6 : k < 8
                · obtain ⟨_, _, y, e, hgW, hy, d⟩ := hH9.spot (i := k) (by simp [Eight.list]; omega)
                  simp only [Option.some.injEq, Addr.mk.injEq, and_true] at e
                  obtain ⟨rfl, rfl⟩ := e
                  have d1 := (hbel.cell (p := ⟨gH, 0 + k, none⟩) hgW).trans d
                  rw [Nat.zero_add] at d1
                  have HO := Lib.hid (outTo_succ s k y hy)
                  have hol := outTo_length s k hk
                  obtain ⟨b0, e0, b1, e1, b2, e2, b3, e3, hb4⟩ := out4_bytes y
                  rw [hb4] at HO
                  have hgr : gH < wr.heap.size := by omega
                  clear d hy hb4
                  go_wp2_with fail
                  go_region_held3 (fun w' => w'.cell? ⟨gH, k, none⟩ = some (.int .u64 (y : Int)))
                    (first | exact d1 | exact (HK.out _ ⟨hgW, hgr⟩).trans d1 | exact (cell_new hgr).trans d1)
                    (first | (refine step_push rfl (.tmp 96) (.tmp 120) rfl W9.heap.size u14 (outTo s k) rfl (by exact hown.alloc _) ⟨wr.heap.size, 0, none⟩ 4 [b0, b1, b2, b3] rfl (by exact laid_new wr [b0, b1, b2, b3] _) (by simp) (by simp; omega) (by simp; omega) ?_; intro g cap w2 ho2 hg2; have HK := Lib.hid (far_keptB hown hg2)))
                  have hb2 : Below W9.heap.size W9 w2 := ((hbel.alloc hws (.cells #[.int .u8 (b0.toNat : Int), .int .u8 (b1.toNat : Int), .int .u8 (b2.toNat : Int), .int .u8 (b3.toNat : Int)] 5)).drew).grown hg2 (by simp; omega) (fun q hq => (World.ownsRow.lt hown q hq).1)
                  rw [← HO.out, hol] at ho2
                  clear hg2 hown HK d1 e0 e1 e2 e3 hol
                  go_wp2
                  go_roundw
                  case rel => exact ⟨k + 1, by omega, by go_num, ho2, hb2⟩
                  case measure => simp [intOf]; omega
                · obtain rfl : k = 8 := by omega
                  rw [outTo_all, ← HSHA.out] at hown
                  have hb10 : Below w.heap.size w wr := hb9.trans (hbel.mono hb9.size)
                  have ho10 : Own wr w.heap.size u14 (sha l) := by
                    refine ⟨hown.1, ?_⟩
                    rcases hown.2 with hn | ⟨g, cap, cur, e, hg, rest⟩
                    · exact .inl hn
                    · exact .inr ⟨g, cap, cur, e, Nat.le_trans hb9.size hg, rest⟩
                  clear hown hbel
                  go_wp2
                  go_ret
                  exact ⟨_, rfl, ho10, hb10⟩
end Go.Proofs.YtbejafbpipdbjaaDoor
