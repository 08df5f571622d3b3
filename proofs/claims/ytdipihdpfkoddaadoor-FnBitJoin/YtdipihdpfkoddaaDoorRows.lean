/-
  NARROWER THAN 'FOR EVERY INPUT', by the rows' own cells (each row's printed sentence says how): FnBitPut: ifaces, laid · FnBitGet: ifaces, laid · FnBitJoin: ifaces, laid.
  DERIVED. THE GIVEN ROWS OF THIS SEAT. 3 by the template 'for every input the law returns true; each argument reads behind the call as it read before'; 0 by the template 'total and deterministic' (their statements: YtdipihdpfkoddaaDoorTotals.lean).
  GIVEN WITH THE SEED: the statements are not yours to turn. If you find one false, say at which input.
  Laid BY PROGRAM, IN A SANDBOX (cutbox-rows.mjs): the forced cells as the released guide's own fill.sh prints them over the translation b88b91ab224a4c29… (all of the seat's roots in one cut). By AI agents, Wed Nov 11 2026. No macro, syntax, notation, axiom, sorry.
-/
import Derived.Test.YtdipihdpfkoddaaDoorChecked
import GoSem.Claim
import GoSem.ClaimJoined
import GoSem.ClaimMapViews
import Derived.JoinedTies
import Derived.KernelRfl
namespace Go.Proofs.YtdipihdpfkoddaaDoor
/- THE CELL 'sum', in the pinned program and in every row, IS THE sha256 OF THE DUMP (.gsa) THAT YtdipihdpfkoddaaDoorProg.lean LOADS. Nothing in Lean hashes anything: it is a label: what it is worth is what the hold of that sum in a sandbox is worth. -/
noncomputable def Tryd.pinned : Pinned := { name := "ytdipihdpfkoddaadoor", sum := "b88b91ab224a4c29693b03d580825e8dbcd8e868cc479b68de12d0ce1da84920", checked := Tryd.checked }
namespace Rows
def none {H : Type} : Left H := { results := [], args := [] }

/- WHAT THE LISTED PACKAGE-LEVEL VARIABLES READ AS WHEN THE CALL BEGINS. Each datum BY PROGRAM (the guide's laid-datum.mjs) off the statement by which the dump's own 'gosem.cut.vars' lays the variable. In a bare row this is a premise. The card (YtdipihdpfkoddaaDoorCards.lean) ties it to the program's text. -/
def laid_loop_example_easel_impl_errBitNumber {H : Type} : DataW H := .iface "*errors.errorString" (.ptr (.agg [.lit (.string [105, 110, 118, 97, 108, 105, 100, 32, 98, 105, 116, 32, 110, 117, 109, 98, 101, 114])]))
def laid_loop_example_easel_impl_errBitRoom {H : Type} : DataW H := .iface "*errors.errorString" (.ptr (.agg [.lit (.string [116, 111, 111, 32, 109, 97, 110, 121, 32, 98, 105, 116, 115, 32, 116, 111, 32, 119, 114, 105, 116, 101])]))
def laid_loop_example_easel_impl_errBitStart {H : Type} : DataW H := .iface "*errors.errorString" (.ptr (.agg [.lit (.string [112, 111, 115, 105, 116, 105, 111, 110, 32, 98, 101, 102, 111, 114, 101, 32, 116, 104, 101, 32, 102, 105, 114, 115, 116, 32, 98, 105, 116])]))
def laid_loop_example_easel_impl_errBitEnd {H : Type} : DataW H := .iface "*errors.errorString" (.ptr (.agg [.lit (.string [116, 111, 111, 32, 102, 101, 119, 32, 98, 105, 116, 115, 32, 116, 111, 32, 114, 101, 97, 100])]))

/-- 'laws.FnBitPut': WHATEVER THE INPUT: true; the input reads as it did. -/
def fnBitPutSpec : ChangeSpec := { name := "fnBitPut", vars := ["loop.example/easel/impl.errBitNumber", "loop.example/easel/impl.errBitRoom", "loop.example/easel/impl.errBitStart", "loop.example/easel/impl.errBitEnd"], fn := fun _ => fun
  | [d, g1, g2, g3, g4] => { results := [.lit (.bool true)], args := [d], vars := [g1, g2, g3, g4] }
  | _ => none }
def fnBitPutRow : OpenClaim := { program := "ytdipihdpfkoddaadoor", sum := "b88b91ab224a4c29693b03d580825e8dbcd8e868cc479b68de12d0ce1da84920", func := "loop.example/easel/laws.FnBitPut", spec := "fnBitPut", named := ["loop.example/easel/impl.errBitNumber", "loop.example/easel/impl.errBitRoom", "loop.example/easel/impl.errBitStart", "loop.example/easel/impl.errBitEnd"], ifaces := true, apart := false, laid := [("loop.example/easel/impl.errBitNumber", laid_loop_example_easel_impl_errBitNumber), ("loop.example/easel/impl.errBitRoom", laid_loop_example_easel_impl_errBitRoom), ("loop.example/easel/impl.errBitStart", laid_loop_example_easel_impl_errBitStart), ("loop.example/easel/impl.errBitEnd", laid_loop_example_easel_impl_errBitEnd)] }
def FnBitPutSaid : Prop := fnBitPutRow.holds Tryd.pinned (OpenSpec.ofChange fnBitPutSpec)

/-- ITS FALSE NEIGHBOUR: 'it returns false'. Refute it at one input. -/
def fnBitPutWrong : ChangeSpec := { name := "fnBitPut", vars := ["loop.example/easel/impl.errBitNumber", "loop.example/easel/impl.errBitRoom", "loop.example/easel/impl.errBitStart", "loop.example/easel/impl.errBitEnd"], fn := fun _ => fun
  | [d, g1, g2, g3, g4] => { results := [.lit (.bool false)], args := [d], vars := [g1, g2, g3, g4] }
  | _ => none }
def FnBitPutWrongFalsely : Prop := fnBitPutRow.holds Tryd.pinned (OpenSpec.ofChange fnBitPutWrong)

/-- 'laws.FnBitGet': WHATEVER THE INPUT: true; the input reads as it did. -/
def fnBitGetSpec : ChangeSpec := { name := "fnBitGet", vars := ["loop.example/easel/impl.errBitStart", "loop.example/easel/impl.errBitNumber", "loop.example/easel/impl.errBitEnd"], fn := fun _ => fun
  | [d, g1, g2, g3] => { results := [.lit (.bool true)], args := [d], vars := [g1, g2, g3] }
  | _ => none }
def fnBitGetRow : OpenClaim := { program := "ytdipihdpfkoddaadoor", sum := "b88b91ab224a4c29693b03d580825e8dbcd8e868cc479b68de12d0ce1da84920", func := "loop.example/easel/laws.FnBitGet", spec := "fnBitGet", named := ["loop.example/easel/impl.errBitStart", "loop.example/easel/impl.errBitNumber", "loop.example/easel/impl.errBitEnd"], ifaces := true, apart := false, laid := [("loop.example/easel/impl.errBitNumber", laid_loop_example_easel_impl_errBitNumber), ("loop.example/easel/impl.errBitStart", laid_loop_example_easel_impl_errBitStart), ("loop.example/easel/impl.errBitEnd", laid_loop_example_easel_impl_errBitEnd)] }
def FnBitGetSaid : Prop := fnBitGetRow.holds Tryd.pinned (OpenSpec.ofChange fnBitGetSpec)

/-- ITS FALSE NEIGHBOUR: 'it returns false'. Refute it at one input. -/
def fnBitGetWrong : ChangeSpec := { name := "fnBitGet", vars := ["loop.example/easel/impl.errBitStart", "loop.example/easel/impl.errBitNumber", "loop.example/easel/impl.errBitEnd"], fn := fun _ => fun
  | [d, g1, g2, g3] => { results := [.lit (.bool false)], args := [d], vars := [g1, g2, g3] }
  | _ => none }
def FnBitGetWrongFalsely : Prop := fnBitGetRow.holds Tryd.pinned (OpenSpec.ofChange fnBitGetWrong)

/-- 'laws.FnBitJoin': WHATEVER THE INPUT: true; the input reads as it did. -/
def fnBitJoinSpec : ChangeSpec := { name := "fnBitJoin", vars := ["loop.example/easel/impl.errBitNumber", "loop.example/easel/impl.errBitRoom"], fn := fun _ => fun
  | [d1, d2, g1, g2] => { results := [.lit (.bool true)], args := [d1, d2], vars := [g1, g2] }
  | _ => none }
def fnBitJoinRow : OpenClaim := { program := "ytdipihdpfkoddaadoor", sum := "b88b91ab224a4c29693b03d580825e8dbcd8e868cc479b68de12d0ce1da84920", func := "loop.example/easel/laws.FnBitJoin", spec := "fnBitJoin", named := ["loop.example/easel/impl.errBitNumber", "loop.example/easel/impl.errBitRoom"], ifaces := true, apart := false, laid := [("loop.example/easel/impl.errBitNumber", laid_loop_example_easel_impl_errBitNumber), ("loop.example/easel/impl.errBitRoom", laid_loop_example_easel_impl_errBitRoom)] }
def FnBitJoinSaid : Prop := fnBitJoinRow.holds Tryd.pinned (OpenSpec.ofChange fnBitJoinSpec)

/-- ITS FALSE NEIGHBOUR: 'it returns false'. Refute it at one input. -/
def fnBitJoinWrong : ChangeSpec := { name := "fnBitJoin", vars := ["loop.example/easel/impl.errBitNumber", "loop.example/easel/impl.errBitRoom"], fn := fun _ => fun
  | [d1, d2, g1, g2] => { results := [.lit (.bool false)], args := [d1, d2], vars := [g1, g2] }
  | _ => none }
def FnBitJoinWrongFalsely : Prop := fnBitJoinRow.holds Tryd.pinned (OpenSpec.ofChange fnBitJoinWrong)

/- THE SECOND FORM. 'bulk': how many values and letters a reading holds, each counted each time it is reached (what is shared counts as often as it is met; a slice's spare places count too). A statement '..UptoSaid' is the law's where the arguments, and the package variables that the reading takes, are together of bulk at most 1048576: NARROWER than '..Said'. Prove '..Said' where nothing that the law and all that it calls make is longer than what came in: it says more and counts as full. Else prove '..UptoSaid'. A law counts once. -/
mutual
def uptoBulk {H : Type} : DataW H → Nat
  | .lit (.string bytes) => bytes.length + 1
  | .lit _ => 1
  | .nil => 1
  | .ptr d => uptoBulk d + 1
  | .slice elems spare => uptoBulkAll elems + uptoBulkAll spare + 1
  | .agg parts => uptoBulkAll parts + 1
  | .iface _ d => uptoBulk d + 1
  | .map entries => uptoBulkEntries entries + 1
  | .held _ => 1
def uptoBulkAll {H : Type} : List (DataW H) → Nat
  | [] => 0
  | d :: r => uptoBulk d + uptoBulkAll r
def uptoBulkEntries {H : Type} : List (Lit × DataW H) → Nat
  | [] => 0
  | x :: r => uptoBulkEntry x + uptoBulkEntries r
def uptoBulkEntry {H : Type} : Lit × DataW H → Nat
  | (.string bytes, d) => bytes.length + uptoBulk d + 1
  | (_, d) => uptoBulk d + 1
 end
def uptoSmall : (H : Type) → List (DataW H) → Bool := fun _ ds => decide (uptoBulkAll ds ≤ 1048576)
def OpenSpec.upto (s : _root_.Go.ChangeSpec) : _root_.Go.OpenSpec := { _root_.Go.OpenSpec.ofChange s with cond := some uptoSmall }

/-- 'laws.FnBitPut', WHERE WHAT IT READS IS OF BULK AT MOST 1048576: true; the input reads as it did. -/
def fnBitPutUptoRow : OpenClaim := { program := "ytdipihdpfkoddaadoor", sum := "b88b91ab224a4c29693b03d580825e8dbcd8e868cc479b68de12d0ce1da84920", func := "loop.example/easel/laws.FnBitPut", spec := "fnBitPut", named := ["loop.example/easel/impl.errBitNumber", "loop.example/easel/impl.errBitRoom", "loop.example/easel/impl.errBitStart", "loop.example/easel/impl.errBitEnd"], ifaces := true, apart := false, laid := [("loop.example/easel/impl.errBitNumber", laid_loop_example_easel_impl_errBitNumber), ("loop.example/easel/impl.errBitRoom", laid_loop_example_easel_impl_errBitRoom), ("loop.example/easel/impl.errBitStart", laid_loop_example_easel_impl_errBitStart), ("loop.example/easel/impl.errBitEnd", laid_loop_example_easel_impl_errBitEnd)], narrowed := true }
def FnBitPutUptoSaid : Prop := fnBitPutUptoRow.holds Tryd.pinned (OpenSpec.upto fnBitPutSpec)

/-- 'laws.FnBitGet', WHERE WHAT IT READS IS OF BULK AT MOST 1048576: true; the input reads as it did. -/
def fnBitGetUptoRow : OpenClaim := { program := "ytdipihdpfkoddaadoor", sum := "b88b91ab224a4c29693b03d580825e8dbcd8e868cc479b68de12d0ce1da84920", func := "loop.example/easel/laws.FnBitGet", spec := "fnBitGet", named := ["loop.example/easel/impl.errBitStart", "loop.example/easel/impl.errBitNumber", "loop.example/easel/impl.errBitEnd"], ifaces := true, apart := false, laid := [("loop.example/easel/impl.errBitNumber", laid_loop_example_easel_impl_errBitNumber), ("loop.example/easel/impl.errBitStart", laid_loop_example_easel_impl_errBitStart), ("loop.example/easel/impl.errBitEnd", laid_loop_example_easel_impl_errBitEnd)], narrowed := true }
def FnBitGetUptoSaid : Prop := fnBitGetUptoRow.holds Tryd.pinned (OpenSpec.upto fnBitGetSpec)

/-- 'laws.FnBitJoin', WHERE WHAT IT READS IS OF BULK AT MOST 1048576: true; the input reads as it did. -/
def fnBitJoinUptoRow : OpenClaim := { program := "ytdipihdpfkoddaadoor", sum := "b88b91ab224a4c29693b03d580825e8dbcd8e868cc479b68de12d0ce1da84920", func := "loop.example/easel/laws.FnBitJoin", spec := "fnBitJoin", named := ["loop.example/easel/impl.errBitNumber", "loop.example/easel/impl.errBitRoom"], ifaces := true, apart := false, laid := [("loop.example/easel/impl.errBitNumber", laid_loop_example_easel_impl_errBitNumber), ("loop.example/easel/impl.errBitRoom", laid_loop_example_easel_impl_errBitRoom)], narrowed := true }
def FnBitJoinUptoSaid : Prop := fnBitJoinUptoRow.holds Tryd.pinned (OpenSpec.upto fnBitJoinSpec)

end Rows
end Go.Proofs.YtdipihdpfkoddaaDoor
