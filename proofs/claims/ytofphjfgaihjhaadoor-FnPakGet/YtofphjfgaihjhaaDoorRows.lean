/-
  NARROWER THAN 'FOR EVERY INPUT', by the rows' own cells (each row's printed sentence says how): FnPakPut: ifaces, laid · FnPakGet: ifaces, laid · FnPakApart: ifaces, laid · FnPakMore: ifaces, laid · FnExactPakPut: ifaces, laid · FnExactPakGet: ifaces, laid.
  DERIVED. THE GIVEN ROWS OF THIS SEAT. 6 by the template 'for every input the law returns true; each argument reads behind the call as it read before'; 0 by the template 'total and deterministic' (their statements: YtofphjfgaihjhaaDoorTotals.lean).
  GIVEN WITH THE SEED: the statements are not yours to turn. If you find one false, say at which input.
  Laid BY PROGRAM, IN A SANDBOX (cutbox-rows.mjs): the forced cells as the released guide's own fill.sh prints them over the translation 756796e3a97ee63f… (all of the seat's roots in one cut). By AI agents, Wed Nov 11 2026. No macro, syntax, notation, axiom, sorry.
-/
import Derived.Test.YtofphjfgaihjhaaDoorChecked
import GoSem.Claim
import GoSem.ClaimJoined
import GoSem.ClaimMapViews
import Derived.JoinedTies
import Derived.KernelRfl
namespace Go.Proofs.YtofphjfgaihjhaaDoor
/- THE CELL 'sum', in the pinned program and in every row, IS THE sha256 OF THE DUMP (.gsa) THAT YtofphjfgaihjhaaDoorProg.lean LOADS. Nothing in Lean hashes anything: it is a label: what it is worth is what the hold of that sum in a sandbox is worth. -/
noncomputable def Tryd.pinned : Pinned := { name := "ytofphjfgaihjhaadoor", sum := "756796e3a97ee63fb6e5c90b0404561378320c9b371a0c40447b1b01fd2e651b", checked := Tryd.checked }
namespace Rows
def none {H : Type} : Left H := { results := [], args := [] }

/- WHAT THE LISTED PACKAGE-LEVEL VARIABLES READ AS WHEN THE CALL BEGINS. Each datum BY PROGRAM (the guide's laid-datum.mjs) off the statement by which the dump's own 'gosem.cut.vars' lays the variable. In a bare row this is a premise. The card (YtofphjfgaihjhaaDoorCards.lean) ties it to the program's text. -/
def laid_loop_example_easel_impl_errBitNumber {H : Type} : DataW H := .iface "*errors.errorString" (.ptr (.agg [.lit (.string [105, 110, 118, 97, 108, 105, 100, 32, 98, 105, 116, 32, 110, 117, 109, 98, 101, 114])]))
def laid_loop_example_easel_impl_errBitRoom {H : Type} : DataW H := .iface "*errors.errorString" (.ptr (.agg [.lit (.string [116, 111, 111, 32, 109, 97, 110, 121, 32, 98, 105, 116, 115, 32, 116, 111, 32, 119, 114, 105, 116, 101])]))
def laid_loop_example_easel_impl_errBitStart {H : Type} : DataW H := .iface "*errors.errorString" (.ptr (.agg [.lit (.string [112, 111, 115, 105, 116, 105, 111, 110, 32, 98, 101, 102, 111, 114, 101, 32, 116, 104, 101, 32, 102, 105, 114, 115, 116, 32, 98, 105, 116])]))
def laid_loop_example_easel_impl_errBitEnd {H : Type} : DataW H := .iface "*errors.errorString" (.ptr (.agg [.lit (.string [116, 111, 111, 32, 102, 101, 119, 32, 98, 105, 116, 115, 32, 116, 111, 32, 114, 101, 97, 100])]))

/-- 'laws.FnPakPut': WHATEVER THE INPUT: true; the input reads as it did. -/
def fnPakPutSpec : ChangeSpec := { name := "fnPakPut", vars := ["loop.example/easel/impl.errBitNumber", "loop.example/easel/impl.errBitRoom", "loop.example/easel/impl.errBitStart", "loop.example/easel/impl.errBitEnd"], fn := fun _ => fun
  | [d, g1, g2, g3, g4] => { results := [.lit (.bool true)], args := [d], vars := [g1, g2, g3, g4] }
  | _ => none }
def fnPakPutRow : OpenClaim := { program := "ytofphjfgaihjhaadoor", sum := "756796e3a97ee63fb6e5c90b0404561378320c9b371a0c40447b1b01fd2e651b", func := "loop.example/easel/laws.FnPakPut", spec := "fnPakPut", named := ["loop.example/easel/impl.errBitNumber", "loop.example/easel/impl.errBitRoom", "loop.example/easel/impl.errBitStart", "loop.example/easel/impl.errBitEnd"], ifaces := true, apart := false, laid := [("loop.example/easel/impl.errBitNumber", laid_loop_example_easel_impl_errBitNumber), ("loop.example/easel/impl.errBitRoom", laid_loop_example_easel_impl_errBitRoom), ("loop.example/easel/impl.errBitStart", laid_loop_example_easel_impl_errBitStart), ("loop.example/easel/impl.errBitEnd", laid_loop_example_easel_impl_errBitEnd)] }
def FnPakPutSaid : Prop := fnPakPutRow.holds Tryd.pinned (OpenSpec.ofChange fnPakPutSpec)

/-- ITS FALSE NEIGHBOUR: 'it returns false'. Refute it at one input. -/
def fnPakPutWrong : ChangeSpec := { name := "fnPakPut", vars := ["loop.example/easel/impl.errBitNumber", "loop.example/easel/impl.errBitRoom", "loop.example/easel/impl.errBitStart", "loop.example/easel/impl.errBitEnd"], fn := fun _ => fun
  | [d, g1, g2, g3, g4] => { results := [.lit (.bool false)], args := [d], vars := [g1, g2, g3, g4] }
  | _ => none }
def FnPakPutWrongFalsely : Prop := fnPakPutRow.holds Tryd.pinned (OpenSpec.ofChange fnPakPutWrong)

/-- 'laws.FnPakGet': WHATEVER THE INPUT: true; the input reads as it did. -/
def fnPakGetSpec : ChangeSpec := { name := "fnPakGet", vars := ["loop.example/easel/impl.errBitStart", "loop.example/easel/impl.errBitNumber", "loop.example/easel/impl.errBitEnd", "loop.example/easel/impl.errBitRoom"], fn := fun _ => fun
  | [d, g1, g2, g3, g4] => { results := [.lit (.bool true)], args := [d], vars := [g1, g2, g3, g4] }
  | _ => none }
def fnPakGetRow : OpenClaim := { program := "ytofphjfgaihjhaadoor", sum := "756796e3a97ee63fb6e5c90b0404561378320c9b371a0c40447b1b01fd2e651b", func := "loop.example/easel/laws.FnPakGet", spec := "fnPakGet", named := ["loop.example/easel/impl.errBitStart", "loop.example/easel/impl.errBitNumber", "loop.example/easel/impl.errBitEnd", "loop.example/easel/impl.errBitRoom"], ifaces := true, apart := false, laid := [("loop.example/easel/impl.errBitNumber", laid_loop_example_easel_impl_errBitNumber), ("loop.example/easel/impl.errBitRoom", laid_loop_example_easel_impl_errBitRoom), ("loop.example/easel/impl.errBitStart", laid_loop_example_easel_impl_errBitStart), ("loop.example/easel/impl.errBitEnd", laid_loop_example_easel_impl_errBitEnd)] }
def FnPakGetSaid : Prop := fnPakGetRow.holds Tryd.pinned (OpenSpec.ofChange fnPakGetSpec)

/-- ITS FALSE NEIGHBOUR: 'it returns false'. Refute it at one input. -/
def fnPakGetWrong : ChangeSpec := { name := "fnPakGet", vars := ["loop.example/easel/impl.errBitStart", "loop.example/easel/impl.errBitNumber", "loop.example/easel/impl.errBitEnd", "loop.example/easel/impl.errBitRoom"], fn := fun _ => fun
  | [d, g1, g2, g3, g4] => { results := [.lit (.bool false)], args := [d], vars := [g1, g2, g3, g4] }
  | _ => none }
def FnPakGetWrongFalsely : Prop := fnPakGetRow.holds Tryd.pinned (OpenSpec.ofChange fnPakGetWrong)

/-- 'laws.FnPakApart': WHATEVER THE INPUT: true; the input reads as it did. -/
def fnPakApartSpec : ChangeSpec := { name := "fnPakApart", vars := ["loop.example/easel/impl.errBitNumber", "loop.example/easel/impl.errBitRoom", "loop.example/easel/impl.errBitStart", "loop.example/easel/impl.errBitEnd"], fn := fun _ => fun
  | [d1, d2, g1, g2, g3, g4] => { results := [.lit (.bool true)], args := [d1, d2], vars := [g1, g2, g3, g4] }
  | _ => none }
def fnPakApartRow : OpenClaim := { program := "ytofphjfgaihjhaadoor", sum := "756796e3a97ee63fb6e5c90b0404561378320c9b371a0c40447b1b01fd2e651b", func := "loop.example/easel/laws.FnPakApart", spec := "fnPakApart", named := ["loop.example/easel/impl.errBitNumber", "loop.example/easel/impl.errBitRoom", "loop.example/easel/impl.errBitStart", "loop.example/easel/impl.errBitEnd"], ifaces := true, apart := false, laid := [("loop.example/easel/impl.errBitNumber", laid_loop_example_easel_impl_errBitNumber), ("loop.example/easel/impl.errBitRoom", laid_loop_example_easel_impl_errBitRoom), ("loop.example/easel/impl.errBitStart", laid_loop_example_easel_impl_errBitStart), ("loop.example/easel/impl.errBitEnd", laid_loop_example_easel_impl_errBitEnd)] }
def FnPakApartSaid : Prop := fnPakApartRow.holds Tryd.pinned (OpenSpec.ofChange fnPakApartSpec)

/-- ITS FALSE NEIGHBOUR: 'it returns false'. Refute it at one input. -/
def fnPakApartWrong : ChangeSpec := { name := "fnPakApart", vars := ["loop.example/easel/impl.errBitNumber", "loop.example/easel/impl.errBitRoom", "loop.example/easel/impl.errBitStart", "loop.example/easel/impl.errBitEnd"], fn := fun _ => fun
  | [d1, d2, g1, g2, g3, g4] => { results := [.lit (.bool false)], args := [d1, d2], vars := [g1, g2, g3, g4] }
  | _ => none }
def FnPakApartWrongFalsely : Prop := fnPakApartRow.holds Tryd.pinned (OpenSpec.ofChange fnPakApartWrong)

/-- 'laws.FnPakMore': WHATEVER THE INPUT: true; the input reads as it did. -/
def fnPakMoreSpec : ChangeSpec := { name := "fnPakMore", vars := ["loop.example/easel/impl.errBitNumber", "loop.example/easel/impl.errBitRoom", "loop.example/easel/impl.errBitStart", "loop.example/easel/impl.errBitEnd"], fn := fun _ => fun
  | [d, g1, g2, g3, g4] => { results := [.lit (.bool true)], args := [d], vars := [g1, g2, g3, g4] }
  | _ => none }
def fnPakMoreRow : OpenClaim := { program := "ytofphjfgaihjhaadoor", sum := "756796e3a97ee63fb6e5c90b0404561378320c9b371a0c40447b1b01fd2e651b", func := "loop.example/easel/laws.FnPakMore", spec := "fnPakMore", named := ["loop.example/easel/impl.errBitNumber", "loop.example/easel/impl.errBitRoom", "loop.example/easel/impl.errBitStart", "loop.example/easel/impl.errBitEnd"], ifaces := true, apart := false, laid := [("loop.example/easel/impl.errBitNumber", laid_loop_example_easel_impl_errBitNumber), ("loop.example/easel/impl.errBitRoom", laid_loop_example_easel_impl_errBitRoom), ("loop.example/easel/impl.errBitStart", laid_loop_example_easel_impl_errBitStart), ("loop.example/easel/impl.errBitEnd", laid_loop_example_easel_impl_errBitEnd)] }
def FnPakMoreSaid : Prop := fnPakMoreRow.holds Tryd.pinned (OpenSpec.ofChange fnPakMoreSpec)

/-- ITS FALSE NEIGHBOUR: 'it returns false'. Refute it at one input. -/
def fnPakMoreWrong : ChangeSpec := { name := "fnPakMore", vars := ["loop.example/easel/impl.errBitNumber", "loop.example/easel/impl.errBitRoom", "loop.example/easel/impl.errBitStart", "loop.example/easel/impl.errBitEnd"], fn := fun _ => fun
  | [d, g1, g2, g3, g4] => { results := [.lit (.bool false)], args := [d], vars := [g1, g2, g3, g4] }
  | _ => none }
def FnPakMoreWrongFalsely : Prop := fnPakMoreRow.holds Tryd.pinned (OpenSpec.ofChange fnPakMoreWrong)

/-- 'laws.FnExactPakPut': WHATEVER THE INPUT: true; the input reads as it did. -/
def fnExactPakPutSpec : ChangeSpec := { name := "fnExactPakPut", vars := ["loop.example/easel/impl.errBitNumber", "loop.example/easel/impl.errBitRoom"], fn := fun _ => fun
  | [d, g1, g2] => { results := [.lit (.bool true)], args := [d], vars := [g1, g2] }
  | _ => none }
def fnExactPakPutRow : OpenClaim := { program := "ytofphjfgaihjhaadoor", sum := "756796e3a97ee63fb6e5c90b0404561378320c9b371a0c40447b1b01fd2e651b", func := "loop.example/easel/laws.FnExactPakPut", spec := "fnExactPakPut", named := ["loop.example/easel/impl.errBitNumber", "loop.example/easel/impl.errBitRoom"], ifaces := true, apart := false, laid := [("loop.example/easel/impl.errBitNumber", laid_loop_example_easel_impl_errBitNumber), ("loop.example/easel/impl.errBitRoom", laid_loop_example_easel_impl_errBitRoom)] }
def FnExactPakPutSaid : Prop := fnExactPakPutRow.holds Tryd.pinned (OpenSpec.ofChange fnExactPakPutSpec)

/-- ITS FALSE NEIGHBOUR: 'it returns false'. Refute it at one input. -/
def fnExactPakPutWrong : ChangeSpec := { name := "fnExactPakPut", vars := ["loop.example/easel/impl.errBitNumber", "loop.example/easel/impl.errBitRoom"], fn := fun _ => fun
  | [d, g1, g2] => { results := [.lit (.bool false)], args := [d], vars := [g1, g2] }
  | _ => none }
def FnExactPakPutWrongFalsely : Prop := fnExactPakPutRow.holds Tryd.pinned (OpenSpec.ofChange fnExactPakPutWrong)

/-- 'laws.FnExactPakGet': WHATEVER THE INPUT: true; the input reads as it did. -/
def fnExactPakGetSpec : ChangeSpec := { name := "fnExactPakGet", vars := ["loop.example/easel/impl.errBitStart", "loop.example/easel/impl.errBitNumber", "loop.example/easel/impl.errBitEnd"], fn := fun _ => fun
  | [d, g1, g2, g3] => { results := [.lit (.bool true)], args := [d], vars := [g1, g2, g3] }
  | _ => none }
def fnExactPakGetRow : OpenClaim := { program := "ytofphjfgaihjhaadoor", sum := "756796e3a97ee63fb6e5c90b0404561378320c9b371a0c40447b1b01fd2e651b", func := "loop.example/easel/laws.FnExactPakGet", spec := "fnExactPakGet", named := ["loop.example/easel/impl.errBitStart", "loop.example/easel/impl.errBitNumber", "loop.example/easel/impl.errBitEnd"], ifaces := true, apart := false, laid := [("loop.example/easel/impl.errBitNumber", laid_loop_example_easel_impl_errBitNumber), ("loop.example/easel/impl.errBitStart", laid_loop_example_easel_impl_errBitStart), ("loop.example/easel/impl.errBitEnd", laid_loop_example_easel_impl_errBitEnd)] }
def FnExactPakGetSaid : Prop := fnExactPakGetRow.holds Tryd.pinned (OpenSpec.ofChange fnExactPakGetSpec)

/-- ITS FALSE NEIGHBOUR: 'it returns false'. Refute it at one input. -/
def fnExactPakGetWrong : ChangeSpec := { name := "fnExactPakGet", vars := ["loop.example/easel/impl.errBitStart", "loop.example/easel/impl.errBitNumber", "loop.example/easel/impl.errBitEnd"], fn := fun _ => fun
  | [d, g1, g2, g3] => { results := [.lit (.bool false)], args := [d], vars := [g1, g2, g3] }
  | _ => none }
def FnExactPakGetWrongFalsely : Prop := fnExactPakGetRow.holds Tryd.pinned (OpenSpec.ofChange fnExactPakGetWrong)

/- THE SECOND FORM. 'bulk': how many values and letters a reading holds, each counted each time it is reached (what is shared counts as often as it is met; a slice's spare places count too). A statement '..UptoSaid' is the law's where the arguments, and the package variables that the reading takes, are together of bulk at most 1048576: NARROWER than '..Said'. Prove '..Said' where nothing that the law and all that it calls make is longer than what came in: it says more and counts as full. Else prove '..UptoSaid'. A law counts once. -/
mutual
def uptoBulk {H : Type} : DataW H → Nat
  | .lit (.string bytes) => bytes.length + 1
  | .lit _ => 1
  | .nil => 1
  | .ptr d => uptoBulk d + 1
  | .slice elems spare => uptoBulkAll elems + uptoBulkAll spare + 1
  | .agg parts => uptoBulkAll parts + 1
  | .iface _ d => uptoBulk d + 1
  | .map entries => uptoBulkEntries entries + 1
  | .held _ => 1
def uptoBulkAll {H : Type} : List (DataW H) → Nat
  | [] => 0
  | d :: r => uptoBulk d + uptoBulkAll r
def uptoBulkEntries {H : Type} : List (Lit × DataW H) → Nat
  | [] => 0
  | x :: r => uptoBulkEntry x + uptoBulkEntries r
def uptoBulkEntry {H : Type} : Lit × DataW H → Nat
  | (.string bytes, d) => bytes.length + uptoBulk d + 1
  | (_, d) => uptoBulk d + 1
 end
def uptoSmall : (H : Type) → List (DataW H) → Bool := fun _ ds => decide (uptoBulkAll ds ≤ 1048576)
def OpenSpec.upto (s : _root_.Go.ChangeSpec) : _root_.Go.OpenSpec := { _root_.Go.OpenSpec.ofChange s with cond := some uptoSmall }

/-- 'laws.FnPakPut', WHERE WHAT IT READS IS OF BULK AT MOST 1048576: true; the input reads as it did. -/
def fnPakPutUptoRow : OpenClaim := { program := "ytofphjfgaihjhaadoor", sum := "756796e3a97ee63fb6e5c90b0404561378320c9b371a0c40447b1b01fd2e651b", func := "loop.example/easel/laws.FnPakPut", spec := "fnPakPut", named := ["loop.example/easel/impl.errBitNumber", "loop.example/easel/impl.errBitRoom", "loop.example/easel/impl.errBitStart", "loop.example/easel/impl.errBitEnd"], ifaces := true, apart := false, laid := [("loop.example/easel/impl.errBitNumber", laid_loop_example_easel_impl_errBitNumber), ("loop.example/easel/impl.errBitRoom", laid_loop_example_easel_impl_errBitRoom), ("loop.example/easel/impl.errBitStart", laid_loop_example_easel_impl_errBitStart), ("loop.example/easel/impl.errBitEnd", laid_loop_example_easel_impl_errBitEnd)], narrowed := true }
def FnPakPutUptoSaid : Prop := fnPakPutUptoRow.holds Tryd.pinned (OpenSpec.upto fnPakPutSpec)

/-- 'laws.FnPakGet', WHERE WHAT IT READS IS OF BULK AT MOST 1048576: true; the input reads as it did. -/
def fnPakGetUptoRow : OpenClaim := { program := "ytofphjfgaihjhaadoor", sum := "756796e3a97ee63fb6e5c90b0404561378320c9b371a0c40447b1b01fd2e651b", func := "loop.example/easel/laws.FnPakGet", spec := "fnPakGet", named := ["loop.example/easel/impl.errBitStart", "loop.example/easel/impl.errBitNumber", "loop.example/easel/impl.errBitEnd", "loop.example/easel/impl.errBitRoom"], ifaces := true, apart := false, laid := [("loop.example/easel/impl.errBitNumber", laid_loop_example_easel_impl_errBitNumber), ("loop.example/easel/impl.errBitRoom", laid_loop_example_easel_impl_errBitRoom), ("loop.example/easel/impl.errBitStart", laid_loop_example_easel_impl_errBitStart), ("loop.example/easel/impl.errBitEnd", laid_loop_example_easel_impl_errBitEnd)], narrowed := true }
def FnPakGetUptoSaid : Prop := fnPakGetUptoRow.holds Tryd.pinned (OpenSpec.upto fnPakGetSpec)

/-- 'laws.FnPakApart', WHERE WHAT IT READS IS OF BULK AT MOST 1048576: true; the input reads as it did. -/
def fnPakApartUptoRow : OpenClaim := { program := "ytofphjfgaihjhaadoor", sum := "756796e3a97ee63fb6e5c90b0404561378320c9b371a0c40447b1b01fd2e651b", func := "loop.example/easel/laws.FnPakApart", spec := "fnPakApart", named := ["loop.example/easel/impl.errBitNumber", "loop.example/easel/impl.errBitRoom", "loop.example/easel/impl.errBitStart", "loop.example/easel/impl.errBitEnd"], ifaces := true, apart := false, laid := [("loop.example/easel/impl.errBitNumber", laid_loop_example_easel_impl_errBitNumber), ("loop.example/easel/impl.errBitRoom", laid_loop_example_easel_impl_errBitRoom), ("loop.example/easel/impl.errBitStart", laid_loop_example_easel_impl_errBitStart), ("loop.example/easel/impl.errBitEnd", laid_loop_example_easel_impl_errBitEnd)], narrowed := true }
def FnPakApartUptoSaid : Prop := fnPakApartUptoRow.holds Tryd.pinned (OpenSpec.upto fnPakApartSpec)

/-- 'laws.FnPakMore', WHERE WHAT IT READS IS OF BULK AT MOST 1048576: true; the input reads as it did. -/
def fnPakMoreUptoRow : OpenClaim := { program := "ytofphjfgaihjhaadoor", sum := "756796e3a97ee63fb6e5c90b0404561378320c9b371a0c40447b1b01fd2e651b", func := "loop.example/easel/laws.FnPakMore", spec := "fnPakMore", named := ["loop.example/easel/impl.errBitNumber", "loop.example/easel/impl.errBitRoom", "loop.example/easel/impl.errBitStart", "loop.example/easel/impl.errBitEnd"], ifaces := true, apart := false, laid := [("loop.example/easel/impl.errBitNumber", laid_loop_example_easel_impl_errBitNumber), ("loop.example/easel/impl.errBitRoom", laid_loop_example_easel_impl_errBitRoom), ("loop.example/easel/impl.errBitStart", laid_loop_example_easel_impl_errBitStart), ("loop.example/easel/impl.errBitEnd", laid_loop_example_easel_impl_errBitEnd)], narrowed := true }
def FnPakMoreUptoSaid : Prop := fnPakMoreUptoRow.holds Tryd.pinned (OpenSpec.upto fnPakMoreSpec)

/-- 'laws.FnExactPakPut', WHERE WHAT IT READS IS OF BULK AT MOST 1048576: true; the input reads as it did. -/
def fnExactPakPutUptoRow : OpenClaim := { program := "ytofphjfgaihjhaadoor", sum := "756796e3a97ee63fb6e5c90b0404561378320c9b371a0c40447b1b01fd2e651b", func := "loop.example/easel/laws.FnExactPakPut", spec := "fnExactPakPut", named := ["loop.example/easel/impl.errBitNumber", "loop.example/easel/impl.errBitRoom"], ifaces := true, apart := false, laid := [("loop.example/easel/impl.errBitNumber", laid_loop_example_easel_impl_errBitNumber), ("loop.example/easel/impl.errBitRoom", laid_loop_example_easel_impl_errBitRoom)], narrowed := true }
def FnExactPakPutUptoSaid : Prop := fnExactPakPutUptoRow.holds Tryd.pinned (OpenSpec.upto fnExactPakPutSpec)

/-- 'laws.FnExactPakGet', WHERE WHAT IT READS IS OF BULK AT MOST 1048576: true; the input reads as it did. -/
def fnExactPakGetUptoRow : OpenClaim := { program := "ytofphjfgaihjhaadoor", sum := "756796e3a97ee63fb6e5c90b0404561378320c9b371a0c40447b1b01fd2e651b", func := "loop.example/easel/laws.FnExactPakGet", spec := "fnExactPakGet", named := ["loop.example/easel/impl.errBitStart", "loop.example/easel/impl.errBitNumber", "loop.example/easel/impl.errBitEnd"], ifaces := true, apart := false, laid := [("loop.example/easel/impl.errBitNumber", laid_loop_example_easel_impl_errBitNumber), ("loop.example/easel/impl.errBitStart", laid_loop_example_easel_impl_errBitStart), ("loop.example/easel/impl.errBitEnd", laid_loop_example_easel_impl_errBitEnd)], narrowed := true }
def FnExactPakGetUptoSaid : Prop := fnExactPakGetUptoRow.holds Tryd.pinned (OpenSpec.upto fnExactPakGetSpec)

end Rows
end Go.Proofs.YtofphjfgaihjhaaDoor
