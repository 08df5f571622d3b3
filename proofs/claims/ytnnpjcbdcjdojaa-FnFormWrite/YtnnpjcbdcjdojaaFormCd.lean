/-
  formCodecOf finds the codec of a kind. No condition.
-/
import Derived.Test.YtnnpjcbdcjdojaaFormK
import Derived.Test.YtnnpjcbdcjdojaaPakIT
import Derived.Test.YtnnpjcbdcjdojaaDraw
import Derived.WalkSpells
namespace Go.Proofs.Ytnnpjcbdcjdojaa
set_option maxRecDepth 4000
open Go.RowKit Go.Maps

/-- A codec as a datum. -/
def codecR (v : Value) : Option (DataW Unit × List MemPlace) := match v with
  | .iface t (.agg cs) => if cs.size = 0 then some (.lit (.int .i64 (t : Int)), []) else none
  | .nilIface => some (.nil, [])
  | _ => none
theorem codecR_inv {v : Value} {t : Nat} {ps : List MemPlace} (h : codecR v = some (.lit (.int .i64 (t : Int)), ps)) : v = .iface t (.agg #[]) := by
  unfold codecR at h
  split at h
  · rename_i t' cs
    by_cases hc : cs.size = 0
    · rw [if_pos hc] at h
      injection h with h
      injection h with h _
      injection h with h
      injection h with _ h
      rw [show t' = t from Int.ofNat.inj h, Array.eq_empty_of_size_eq_zero hc]
    · rw [if_neg hc] at h
      cases h
  · injection h with h
    injection h with h _
    cases h
  · cases h
theorem codecR_nil {v : Value} {ps : List MemPlace} (h : codecR v = some (.nil, ps)) : v = .nilIface := by
  unfold codecR at h
  split at h
  · split at h
    · injection h with h
      injection h with h _
      cases h
    · cases h
  · rfl
  · cases h
theorem zeroC (w : World) : (zeroValue 58).run Try.prog w = .ok .nilIface w := by kernel_rfl
/-- The codec of a kind. -/
def codecV (k : UInt8) : Value := if k = 68 then .iface 79 (.agg #[]) else if k = 85 then .iface 80 (.agg #[]) else if k = 82 then .iface 81 (.agg #[]) else if k = 80 then .iface 82 (.agg #[]) else .nilIface
theorem keyLit8 (b : UInt8) : WideAt.IsKeyLit (key8 b) := by unfold WideAt.IsKeyLit key8; simp
/-- The datum of all codecs. -/
def codecD : DataW Unit := ((((DataW.map []).put (key8 68) (.lit (.int .i64 ((79 : Nat) : Int)))).put (key8 85) (.lit (.int .i64 ((80 : Nat) : Int)))).put (key8 82) (.lit (.int .i64 ((81 : Nat) : Int)))).put (key8 80) (.lit (.int .i64 ((82 : Nat) : Int)))
theorem key8_ne {a b : UInt8} (h : a ≠ b) : key8 a ≠ key8 b := fun e => h (key8_inj e)
/-- What is looked up. -/
theorem codec_look {w : World} {g n : Nat} (h : w.ownsMap Try.prog 5 codecR g n codecD) (k : UInt8) : (Instr.lookup 83 (.map (some g)) (.int .u8 (k.toNat : Int)) true).run Try.prog w = .ok (.tuple #[codecV k, .bool (kindB k)]) w := by
  obtain ⟨v, ps, hrun, hv⟩ := h.look_ok law8 Try.underlying83 (zeroC w) (show codecR .nilIface = some (.nil, []) from rfl) (key8_of k)
  rw [hrun]
  have hM : IsMap (DataW.map [] : DataW Unit) := isMap_empty
  unfold codecD at hv ⊢
  by_cases h1 : k = 80
  · subst h1
    rw [atKey_put_same (((hM.put _ _).put _ _).put _ _) (keyLit8 _)] at hv
    rw [has_put_same (((hM.put _ _).put _ _).put _ _) (keyLit8 _), codecR_inv hv]
    rfl
  rw [atKey_put_other (key8_ne h1)] at hv
  rw [has_put_other (key8_ne h1)]
  by_cases h2 : k = 82
  · subst h2
    rw [atKey_put_same ((hM.put _ _).put _ _) (keyLit8 _)] at hv
    rw [has_put_same ((hM.put _ _).put _ _) (keyLit8 _), codecR_inv hv]
    rfl
  rw [atKey_put_other (key8_ne h2)] at hv
  rw [has_put_other (key8_ne h2)]
  by_cases h3 : k = 85
  · subst h3
    rw [atKey_put_same (hM.put _ _) (keyLit8 _)] at hv
    rw [has_put_same (hM.put _ _) (keyLit8 _), codecR_inv hv]
    rfl
  rw [atKey_put_other (key8_ne h3)] at hv
  rw [has_put_other (key8_ne h3)]
  by_cases h4 : k = 68
  · subst h4
    rw [atKey_put_same hM (keyLit8 _)] at hv
    rw [has_put_same hM (keyLit8 _), codecR_inv hv]
    rfl
  rw [atKey_put_other (key8_ne h4)] at hv
  rw [has_put_other (key8_ne h4), codecR_nil hv]
  unfold codecV kindB
  rw [if_neg h4, if_neg h3, if_neg h2, if_neg h1, beq_eq_false_iff_ne.2 h4, beq_eq_false_iff_ne.2 h3, beq_eq_false_iff_ne.2 h2, beq_eq_false_iff_ne.2 h1]
  rfl
theorem codec_put {w : World} {g n : Nat} {D : DataW Unit} (h : w.ownsMap Try.prog 5 codecR g n D) (hn : n < 100) (k : UInt8) (t : Nat) (z : Int) (hz : (k.toNat : Int) = z) : ∃ w', (Instr.mapUpdate 83 (.map (some g)) (.int .u8 z) (.iface t (.agg #[]))).run Try.prog w = .ok () w' ∧ w'.ownsMap Try.prog 5 codecR g (n + 1) (D.put (key8 k) (.lit (.int .i64 (t : Int)))) ∧ w.grownBy w' (some g) := by
  subst hz
  exact h.update law8 Try.underlying83 (by unfold maxLen; omega) (key8_of k) (show codecR (.iface t (.agg #[])) = some (.lit (.int .i64 (t : Int)), []) from rfl)
set_option maxHeartbeats 1000000 in
theorem formCodecOf_any (k : UInt8) (w : World) : Calls Try.prog 44 #[.int .u8 (k.toNat : Int)] w fun e w' => e = .returned (.tuple #[codecV k, .bool (kindB k)]) ∧ Below w.heap.size w w' := by
  have hmk := @run_makeMap Try.prog
  have h0 : (w.alloc (.map #[] 0)).ownsMap Try.prog 5 codecR w.heap.size 0 (.map []) := World.ownsMap_made w _ _ _
  have b0 : Below w.heap.size w (w.alloc (.map #[] 0)) := (Below.refl _ w).alloc (Nat.le_refl _) _
  obtain ⟨w1, r1, o1, g1⟩ := codec_put h0 (by omega) 68 79 68 rfl
  obtain ⟨w2, r2, o2, g2⟩ := codec_put o1 (by omega) 85 80 85 rfl
  obtain ⟨w3, r3, o3, g3⟩ := codec_put o2 (by omega) 82 81 82 rfl
  obtain ⟨w4, r4, o4, g4⟩ := codec_put o3 (by omega) 80 82 80 rfl
  have r5 := codec_look o4 k
  have B1 := below_of_grown b0 g1 (Nat.le_refl _) b0.size
  have B2 := below_of_grown B1 g2 (Nat.le_refl _) B1.size
  have B3 := below_of_grown B2 g3 (Nat.le_refl _) B2.size
  have HB := Lib.hid (below_of_grown B3 g4 (Nat.le_refl _) B3.size)
  clear B1 B2 B3 g1 g2 g3 g4 o1 o2 o3 o4 h0 b0
  generalize codecV k = cv at *
  generalize kindB k = kb at *
  go_enter Try.func44, Try.ntmps44
  go_wp2_with fail
  go_ret2
  exact ⟨rfl, HB.out⟩
end Go.Proofs.Ytnnpjcbdcjdojaa
