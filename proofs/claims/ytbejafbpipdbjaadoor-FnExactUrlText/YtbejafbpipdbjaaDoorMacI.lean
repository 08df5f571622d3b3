/-
  The program's ShaMac is the signature of bytes by a key, none where they are too many. Condition: the program's two tables are the standard's.
-/
import Derived.Test.YtbejafbpipdbjaaDoorMacK
namespace Go.Proofs.YtbejafbpipdbjaaDoor
set_option maxRecDepth 4000
open Go.RowKit

/-- A whole row is stored: the world behind it is a letter. -/
theorem wpList_store_new {P : Program} {ops : Array Oper} {rest : List Oper} {o : Oper} {a : Act} {w : World} {Q : Exit → Act → World → Prop} (hgd : o.guard = none) (ty : TypeId) (x y : Operand) (ho : o.op = .store ty x y)
    (g : Nat) (cells : Array Value) (hx : a.eval x = .pointer (some ⟨g, 0, none⟩)) (hy : a.eval y = .agg cells)
    (t : TypeId) (old : Array Value) (hg : w.heap[g]? = some (.cells old t (0, 0))) (hi : (P.info? ty).map (·.size) = some cells.size) (hold : old.size = cells.size) (h1 : cells.all (·.oneCell') = true)
    (h : ∀ w', Hid (w'.heap[g]? = some (.cells cells t (0, 0))) → Hid (∀ B w0, Below B w0 w → B ≤ g → Below B w0 w') → wpList P ops Q rest (a.put o.dst undef) w') : wpList P ops Q (o :: rest) a w :=
  wpList_store_row hgd ty x y ho g cells hx hy t old hg hi hold h1 (h _ (Lib.hid (setRow_heap _ _ _ _ _ _ hg)) (Lib.hid fun _ _ hb hB => below_setRow hb hB _))
/-- What ShaMac answers. -/
def macOut (k l : List UInt8) : List UInt8 := if 500 < k.length ∨ 500 < l.length then [] else mac k l
theorem macOut_length_le (k l : List UInt8) : (macOut k l).length ≤ 32 := by unfold macOut; split <;> simp [mac_length]
set_option maxHeartbeats 1000000 in
theorem implShaMac_any (A A' : Option Addr) (c c' : Nat) (k l : List UInt8) (w : World) (hk : k.length ≤ 1073741824) (hl : l.length ≤ 1073741824) (hT : Tabs w) (h : Has w w.heap.size A k) (h' : Has w w.heap.size A' l) :
    Calls Tryd.prog 82 #[.slice A k.length c, .slice A' l.length c'] w fun e w' => ∃ v, e = .returned v ∧ Own w' w.heap.size v (macOut k l) ∧ Below w.heap.size w w' := by
  unfold macOut
  by_cases hk5 : 500 < k.length
  · rw [if_pos (.inl hk5)]
    go_enter Tryd.func82, Tryd.ntmps82
    go_wp2
    go_ret
    exact ⟨_, rfl, own_nil _ _, Below.refl _ _⟩
  by_cases hl5 : 500 < l.length
  · rw [if_pos (.inr hl5)]
    go_enter Tryd.func82, Tryd.ntmps82
    go_wp2
    go_ret
    exact ⟨_, rfl, own_nil _ _, Below.refl _ _⟩
  · rw [if_neg (by omega)]
    have h2 := hT.2.2
    have hk64 := key64_length k
    have HM : Hid (mac k l = sha ((key64 k).map (· ^^^ 92) ++ sha ((key64 k).map (· ^^^ 54) ++ l))) := Lib.hid rfl
    have hsl := sha_length ((key64 k).map (· ^^^ 54) ++ l)
    have CK := Lib.hid (macKey_any A c k w (by omega) hT h)
    obtain ⟨kk, hkk⟩ : ∃ kk, key64 k = kk := ⟨_, rfl⟩
    rw [hkk] at hk64 HM hsl CK
    clear hkk
    go_enter Tryd.func82, Tryd.ntmps82
    go_wp2_with fail
    refine CK.out.mono ?_
    rintro e w1 ⟨rfl, hb1⟩
    have hz1 := hb1.size
    have hin' : (Tryd.prog.info? 131).map (·.size) = some (kk.map bv).toArray.size := by rw [List.size_toArray, List.length_map, hk64]; exact info64b
    have hold : noughts.toArray.size = (kk.map bv).toArray.size := by rw [List.size_toArray, List.size_toArray, noughts_length, List.length_map, hk64]
    have HOLD := Lib.hid hold
    clear hold
    have hu64 := Tryd.underlying131
    have hin : (Tryd.prog.info? 131).map (·.size) = some (kk.map bv).length := by rw [List.length_map, hk64]; exact info64b
    go_wp2_with (refine wpList_store_new rfl 131 (.tmp 5) (.tmp 15) rfl w1.heap.size (kk.map bv).toArray rfl rfl 131 noughts.toArray (heap_alloc_new w1 _) hin' HOLD.out (all_oneCell_toArray (bvs_one _)) ?_; intro w2 HG2 HB2)
    have B2 : Below w.heap.size w w2 := HB2.out _ _ (hb1.alloc hz1 _) hz1
    have hg2 : w1.heap.size < w2.heap.size := (Array.getElem?_eq_some_iff.1 HG2.out).1
    have HR2 : Hid (w2.rangeAt w1.heap.size 0 (kk.map bv)) := Lib.hid fun j v hv => by rw [Nat.zero_add, cell_of_row _ _ j _ _ _ HG2.out]; simpa using hv
    have HT2 : Hid (Tabs w2.drew) := Lib.hid (hT.below B2.drew h2)
    have HH2 : Hid (Has w2.drew w2.drew.heap.size A' l) := Lib.hid (h'.carry B2.drew (Nat.le_refl _) B2.size)
    have HC1 := Lib.hid (macSum_any kk 54 A' c' l w2.drew hk64 (by omega) HT2.out HH2.out)
    have HC2 : Hid (∀ A c s W, s.length = 32 → Tabs W → Has W W.heap.size A s → Calls Tryd.prog 97 #[.agg (kk.map bv).toArray, .int .u8 92, .slice A s.length c] W fun e w' => ∃ v, e = .returned v ∧ Own w' W.heap.size v (sha (kk.map (· ^^^ 92) ++ s)) ∧ Below W.heap.size W w') :=
      Lib.hid fun A c s W hs hT hh => macSum_any kk 92 A c s W hk64 (by omega) hT hh
    have HTT : Hid (∀ W, Below w.heap.size w W → Tabs W) := Lib.hid fun W hb => hT.below hb h2
    have HB2' := Lib.hid B2.drew
    have HZ2 := Lib.hid B2.size
    clear HG2 HB2 B2 HT2 HH2 hb1 CK hT h h' hin' HOLD
    obtain ⟨s1, hs1⟩ : ∃ s1, sha (kk.map (· ^^^ 54) ++ l) = s1 := ⟨_, rfl⟩
    rw [hs1] at HC1 HM hsl
    clear hs1
    have S2 : w2.drew.rangeAt w1.heap.size 0 (kk.map bv) := HR2.out
    refine wp_region_held_drew (S := fun w' => w'.rangeAt w1.heap.size 0 (kk.map bv)) (by kernel_rfl) S2 fun _ => ?_
    refine wpAnyH_take (i := 0) (oi := { dst := some 16, op := Op.load 131 (Operand.tmp 5), type := 131, pos := "l1_sha.go:134", after := #[], guard := none }) (v := .agg (kk.map bv).toArray) rfl (by kernel_rfl) (by kernel_rfl) (by kernel_rfl) (fun _ _ _ h => h) (yieldsIf_load_mid (by rfl) _ _ rfl w1.heap.size 0 rfl (kk.map bv) _ (fun _ h => h) hu64 rfl hin) S2 ?_
    try simp only [Act.put, List.setIfInBounds_toArray, List.set_cons_zero, List.set_cons_succ]
    refine wpAnyH_take (i := 1) (oi := { dst := some 17, op := Op.load 131 (Operand.tmp 5), type := 131, pos := "l1_sha.go:134", after := #[], guard := none }) (v := .agg (kk.map bv).toArray) rfl (by kernel_rfl) (by kernel_rfl) (by kernel_rfl) (fun _ _ _ h => h) (yieldsIf_load_mid (by rfl) _ _ rfl w1.heap.size 0 rfl (kk.map bv) _ (fun _ h => h) hu64 rfl hin) S2 ?_
    try simp only [Act.put, List.setIfInBounds_toArray, List.set_cons_zero, List.set_cons_succ]
    refine wpAnyH_take (i := 2) (oi := { dst := some 18, op := Op.move (Operand.tmp 1), type := 44, pos := "l1_sha.go:134", after := #[], guard := none }) (v := .slice A' l.length c') rfl (by kernel_rfl) (by kernel_rfl) (by kernel_rfl) (fun _ _ _ h => h) (Or.inl ⟨by rfl, fun _ _ => by rfl⟩) S2 ?_
    try simp only [Act.put, List.setIfInBounds_toArray, List.set_cons_zero, List.set_cons_succ]
    refine wpAnyH_ready (rs := [3]) (by kernel_rfl) (by simp) (AllReadyH.cons (o := { dst := some 19, op := Op.call { callee := Callee.value (Operand.func 97), args := #[Operand.tmp 17, Operand.const (Value.int IntKind.u8 54), Operand.tmp 18], argTypes := #[131, 5, 44] }, type := 44, pos := "l1_sha.go:134", after := #[{ on := 1, ground := Ground.data }, { on := 2, ground := Ground.data }], guard := none }) rfl (fun K hK => ?_) AllReadyH.nil)
    go_simp
    refine HC1.out.mono ?_
    rintro e w3 ⟨v3, rfl, ho3, hb3⟩
    obtain ⟨A3, c3, rfl, -, hh3⟩ := ho3.has
    have HB3 := Lib.hid hb3
    have S3 : w3.rangeAt w1.heap.size 0 (kk.map bv) := fun j v hv => (hb3.cell (p := ⟨w1.heap.size, 0 + j, none⟩) hg2).trans (S2 j v hv)
    have HC3 := Lib.hid (HC2.out A3 c3 s1 w3 hsl (HTT.out _ (HB2'.out.trans (hb3.mono HZ2.out))) hh3)
    rw [hsl] at HC3
    clear ho3 hb3 hh3 HC1 HC2
    refine hK.out _ _ S3 fun _ => ?_
    clear hK
    try simp only [Act.put, List.setIfInBounds_toArray, List.set_cons_zero, List.set_cons_succ]
    refine wpAnyH_ready (rs := [4]) (by kernel_rfl) (by simp) (AllReadyH.cons (o := { dst := some 20, op := Op.call { callee := Callee.value (Operand.func 97), args := #[Operand.tmp 16, Operand.const (Value.int IntKind.u8 92), Operand.tmp 19], argTypes := #[131, 5, 44] }, type := 44, pos := "l1_sha.go:134", after := #[{ on := 0, ground := Ground.data }, { on := 3, ground := Ground.data }, { on := 3, ground := Ground.chain }], guard := none }) rfl (fun K hK => ?_) AllReadyH.nil)
    go_simp
    refine HC3.out.mono ?_
    rintro e w4 ⟨v4, rfl, ho4, hb4⟩
    have HB4 : Hid (Below w2.drew.heap.size w2.drew w4) := Lib.hid (HB3.out.trans (hb4.mono HB3.out.size))
    have HO4 := Lib.hid ho4
    have S4 : w4.rangeAt w1.heap.size 0 (kk.map bv) := fun j v hv => (HB4.out.cell (p := ⟨w1.heap.size, 0 + j, none⟩) hg2).trans (S2 j v hv)
    clear ho4 hb4 HC3
    refine hK.out _ _ S4 fun _ => ?_
    clear hK
    try simp only [Act.put, List.setIfInBounds_toArray, List.set_cons_zero, List.set_cons_succ]
    refine wpAnyH_take (i := 5) (oi := { dst := some 4, op := Op.assign (Operand.tmp 20), type := 44, pos := "l1_sha.go:134", after := #[{ on := 4, ground := Ground.data }, { on := 4, ground := Ground.chain }, { on := 0, ground := Ground.phase }, { on := 1, ground := Ground.phase }, { on := 2, ground := Ground.phase }, { on := 3, ground := Ground.phase }, { on := 4, ground := Ground.phase }], guard := none }) (v := v4) rfl (by kernel_rfl) (by kernel_rfl) (by kernel_rfl) (fun _ _ _ h => h) (Or.inl ⟨by rfl, fun _ _ => by rfl⟩) S4 ?_
    try simp only [Act.put, List.setIfInBounds_toArray, List.set_cons_zero, List.set_cons_succ]
    refine wpAnyH_done (by kernel_rfl) ?_ _
    all_goals
      have B4 : Below w.heap.size w w4 := HB2'.out.trans (HB4.out.mono HZ2.out)
      have hz3 : w.heap.size ≤ w3.heap.size := Nat.le_trans HZ2.out HB3.out.size
      have ho5 : Own w4 w.heap.size v4 (mac k l) := by
        rw [HM.out]
        have ho4 := HO4.out
        refine ⟨ho4.1, ?_⟩
        rcases ho4.2 with hn | ⟨g, cap, cur, e, hg, rest⟩
        · exact .inl hn
        · exact .inr ⟨g, cap, cur, e, Nat.le_trans hz3 hg, rest⟩
      go_wp2
      go_ret
      exact ⟨_, rfl, ho5, B4⟩
end Go.Proofs.YtbejafbpipdbjaaDoor
