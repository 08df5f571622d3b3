/-
  The program's write takes many bytes, newShaHash begins. Conditions: the program's two tables are the standard's; a hash under way; fewer than 2^32 bytes.
-/
import Derived.Test.YtbejafbpipdbjaaDoorShaIW
import Derived.Test.YtbejafbpipdbjaaDoorShaWhole
namespace Go.Proofs.YtbejafbpipdbjaaDoor
set_option maxRecDepth 4000
open Go.RowKit

theorem wpList_built {P : Program} {ops : Array Oper} {rest : List Oper} {o : Oper} {a : Act} {w : World} {Q : Exit → Act → World → Prop} (hg : o.guard = none) (t : TypeId) (parts : Array (Nat × Operand)) (ho : o.op = .build t parts)
    (cells : Array Value) (hb : P.built t (parts.map fun (i, x) => (i, a.eval x)).toList = some cells) (h : wpList P ops Q rest (a.put o.dst (.agg cells)) w) : wpList P ops Q (o :: rest) a w :=
  wpList_build hg t parts ho (by rw [hb]; rfl) (by rw [hb]; exact h)
theorem Fed.many {w : World} {g : Nat} {l : List UInt8} (h : Fed w g l) : w.cell? ⟨g, 72, none⟩ = some (.int .u64 (l.length : Int)) := h.elim fun _ h => h.1.many
theorem Has.grownAt {w w' : World} {g : Nat} {A : Option Addr} {l : List UInt8} (h : Has w g A l) (hg : w.grownBy w' (some g)) (hz : g ≤ w.heap.size) : Has w' g A l :=
  h.kept fun p hp => World.cell?_of_block (hg.block p.block (by omega) (fun e => by cases e; omega))
set_option maxRecDepth 100000 in
set_option maxHeartbeats 4000000 in
theorem write_any (g : Nat) (A : Option Addr) (c : Nat) (l0 l : List UInt8) (w : World) (hl : l0.length + l.length < 4294967295) (hg : 7 + 1 ≤ g) (hT : Tabs w) (h : Fed w g l0) (hh : Has w g A l) :
    Calls Tryd.prog 119 #[.pointer (some ⟨g, 0, none⟩), .slice A l.length c] w fun e w' => e = .returned (.tuple #[]) ∧ Fed w' g (l0 ++ l) ∧ w.grownBy w' (some g) := by
  have hgw := h.lt
  go_enter Tryd.func119, Tryd.ntmps119
  go_wp2_with fail
  go_loopw [8] (fun i wr => ∃ k : Nat, k ≤ l.length ∧ i = .int .i64 k ∧ Fed wr g (l0 ++ l.take k) ∧ w.grownBy wr (some g)) (fun i _ => l.length - (intOf i).toNat)
  case atStart => exact ⟨0, by omega, rfl, by simpa using h, ⟨rfl, rfl, rfl, Nat.le_refl _, fun _ _ _ => rfl⟩⟩
  case round =>
    obtain ⟨k, hk, rfl, hf, hgr⟩ := hrel
    by_cases hlt : k < l.length
    · obtain ⟨bb, o, x, rfl, hbB, hx, hc⟩ := (hh.grownAt hgr (by omega)).spot hlt
      have HTw : Hid (Tabs wr) := Lib.hid (hT.grown hgr (fun q e => by cases e; exact hg))
      have HF := Lib.hid hf
      have HG := Lib.hid hgr
      have HX : Hid (l0 ++ l.take k ++ [x] = l0 ++ l.take (k + 1)) := Lib.hid (by rw [List.append_assoc, List.take_add_one, hx]; rfl)
      have HL : Hid ((l0 ++ l.take k).length < 4294967295) := Lib.hid (by rw [List.length_append, List.length_take]; omega)
      clear hf hgr hT h hh hx
      go_wp2_with fail
      refine (writeOne_any g _ x _ HL.out hg HTw.out HF.out).mono ?_
      rintro e w2 ⟨rfl, k1, k2⟩
      rw [HX.out] at k1
      have k3 := grown_trans HG.out k2
      clear k2 hc
      go_wp2
      go_roundw
      case rel => exact ⟨k + 1, by omega, by go_num, k1, k3⟩
      case measure => simp [intOf]; omega
    · obtain rfl : k = l.length := by omega
      rw [List.take_length] at hf
      go_wp2
      exact bodyPost_end (results_none Tryd.results119 _ _ _) rfl ⟨rfl, hf, hgr⟩
set_option maxRecDepth 100000 in
set_option maxHeartbeats 4000000 in
theorem newShaHash_any (w : World) (hT : Tabs w) :
    Calls Tryd.prog 117 #[] w fun e w' => e = .returned (.pointer (some ⟨w.heap.size, 0, none⟩)) ∧ Fed w' w.heap.size [] ∧ Below w.heap.size w w' := by
  have c0 : w.cell? ⟨3, 0, none⟩ = some (.int .u32 0x6a09e667) := hT.1 0 _ rfl
  have c1 : w.cell? ⟨3, 1, none⟩ = some (.int .u32 0xbb67ae85) := hT.1 1 _ rfl
  have c2 : w.cell? ⟨3, 2, none⟩ = some (.int .u32 0x3c6ef372) := hT.1 2 _ rfl
  have c3 : w.cell? ⟨3, 3, none⟩ = some (.int .u32 0xa54ff53a) := hT.1 3 _ rfl
  have c4 : w.cell? ⟨3, 4, none⟩ = some (.int .u32 0x510e527f) := hT.1 4 _ rfl
  have c5 : w.cell? ⟨3, 5, none⟩ = some (.int .u32 0x9b05688c) := hT.1 5 _ rfl
  have c6 : w.cell? ⟨3, 6, none⟩ = some (.int .u32 0x1f83d9ab) := hT.1 6 _ rfl
  have c7 : w.cell? ⟨3, 7, none⟩ = some (.int .u32 0x5be0cd19) := hT.1 7 _ rfl
  go_enter Tryd.func117, Tryd.ntmps117
  go_wp2_with (refine wpList_built rfl 176 _ rfl (hcells first8.list (List.replicate 64 0) 0).toArray (by kernel_rfl) ?_)
  refine bodyPost_ret (v := .pointer (some ⟨w.heap.size, 0, none⟩)) ?_ rfl ⟨rfl, ⟨List.replicate 64 0, ⟨heap_alloc_new w _, rfl, rfl⟩, rfl⟩, (Below.refl _ w).alloc (Nat.le_refl _) _⟩
  simp [results, Tryd.results117, go_sem]
end Go.Proofs.YtbejafbpipdbjaaDoor
