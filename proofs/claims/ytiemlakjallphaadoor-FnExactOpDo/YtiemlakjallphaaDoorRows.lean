/-
  NARROWER THAN 'FOR EVERY INPUT', by the rows' own cells (each row's printed sentence says how): FnOpDo: laid · FnOpTurn: laid · FnOpBlur: laid · FnOpSize: laid · FnOpMoves: laid · FnOpEach: laid · FnOpCover: laid · FnExactOpDo: laid.
  DERIVED. THE GIVEN ROWS OF THIS SEAT. 8 by the template 'for every input the law returns true; each argument reads behind the call as it read before'; 0 by the template 'total and deterministic' (their statements: YtiemlakjallphaaDoorTotals.lean).
  GIVEN WITH THE SEED: the statements are not yours to turn. If you find one false, say at which input.
  Laid BY PROGRAM, IN A SANDBOX (cutbox-rows.mjs): the forced cells as the released guide's own fill.sh prints them over the translation c8149ab07b386c5e… (all of the seat's roots in one cut). By AI agents, Wed Nov 11 2026. No macro, syntax, notation, axiom, sorry.
-/
import Derived.Test.YtiemlakjallphaaDoorChecked
import GoSem.Claim
import GoSem.ClaimJoined
import GoSem.ClaimMapViews
import Derived.JoinedTies
import Derived.KernelRfl
namespace Go.Proofs.YtiemlakjallphaaDoor
/- THE CELL 'sum', in the pinned program and in every row, IS THE sha256 OF THE DUMP (.gsa) THAT YtiemlakjallphaaDoorProg.lean LOADS. Nothing in Lean hashes anything: it is a label: what it is worth is what the hold of that sum in a sandbox is worth. -/
noncomputable def Tryd.pinned : Pinned := { name := "ytiemlakjallphaadoor", sum := "c8149ab07b386c5e15b2c6eeed53850834fabd670d3a8704f0a79f595de42a60", checked := Tryd.checked }
namespace Rows
def none {H : Type} : Left H := { results := [], args := [] }

/- WHAT THE LISTED PACKAGE-LEVEL VARIABLES READ AS WHEN THE CALL BEGINS. Each datum BY PROGRAM (the guide's laid-datum.mjs) off the statement by which the dump's own 'gosem.cut.vars' lays the variable. In a bare row this is a premise. The card (YtiemlakjallphaaDoorCards.lean) ties it to the program's text. -/
def laid_loop_example_easel_impl_opRanges {H : Type} : DataW H := .agg [.agg [.agg [.lit (.int .i64 0), .lit (.int .i64 0)], .agg [.lit (.int .i64 0), .lit (.int .i64 0)], .agg [.lit (.int .i64 0), .lit (.int .i64 0)], .agg [.lit (.int .i64 0), .lit (.int .i64 0)]], .agg [.agg [.lit (.int .i64 0), .lit (.int .i64 5)], .agg [.lit (.int .i64 0), .lit (.int .i64 5)], .agg [.lit (.int .i64 1), .lit (.int .i64 6)], .agg [.lit (.int .i64 1), .lit (.int .i64 6)]], .agg [.agg [.lit (.int .i64 0), .lit (.int .i64 0)], .agg [.lit (.int .i64 0), .lit (.int .i64 0)], .agg [.lit (.int .i64 0), .lit (.int .i64 0)], .agg [.lit (.int .i64 0), .lit (.int .i64 0)]], .agg [.agg [.lit (.int .i64 0), .lit (.int .i64 0)], .agg [.lit (.int .i64 0), .lit (.int .i64 0)], .agg [.lit (.int .i64 0), .lit (.int .i64 0)], .agg [.lit (.int .i64 0), .lit (.int .i64 0)]], .agg [.agg [.lit (.int .i64 0), .lit (.int .i64 0)], .agg [.lit (.int .i64 0), .lit (.int .i64 0)], .agg [.lit (.int .i64 0), .lit (.int .i64 0)], .agg [.lit (.int .i64 0), .lit (.int .i64 0)]], .agg [.agg [.lit (.int .i64 0), .lit (.int .i64 0)], .agg [.lit (.int .i64 0), .lit (.int .i64 0)], .agg [.lit (.int .i64 0), .lit (.int .i64 0)], .agg [.lit (.int .i64 0), .lit (.int .i64 0)]], .agg [.agg [.lit (.int .i64 0), .lit (.int .i64 0)], .agg [.lit (.int .i64 0), .lit (.int .i64 0)], .agg [.lit (.int .i64 0), .lit (.int .i64 0)], .agg [.lit (.int .i64 0), .lit (.int .i64 0)]], .agg [.agg [.lit (.int .i64 1), .lit (.int .i64 6)], .agg [.lit (.int .i64 1), .lit (.int .i64 6)], .agg [.lit (.int .i64 0), .lit (.int .i64 0)], .agg [.lit (.int .i64 0), .lit (.int .i64 0)]], .agg [.agg [.lit (.int .i64 0), .lit (.int .i64 255)], .agg [.lit (.int .i64 0), .lit (.int .i64 255)], .agg [.lit (.int .i64 0), .lit (.int .i64 255)], .agg [.lit (.int .i64 0), .lit (.int .i64 0)]]]

/-- 'laws.FnOpDo': WHATEVER THE INPUT: true; the input reads as it did. -/
def fnOpDoSpec : ChangeSpec := { name := "fnOpDo", vars := ["loop.example/easel/impl.opRanges"], fn := fun _ => fun
  | [d, g1] => { results := [.lit (.bool true)], args := [d], vars := [g1] }
  | _ => none }
def fnOpDoRow : OpenClaim := { program := "ytiemlakjallphaadoor", sum := "c8149ab07b386c5e15b2c6eeed53850834fabd670d3a8704f0a79f595de42a60", func := "loop.example/easel/laws.FnOpDo", spec := "fnOpDo", unfollowed := true, recurses := true, named := ["loop.example/easel/impl.opRanges"], apart := false, laid := [("loop.example/easel/impl.opRanges", laid_loop_example_easel_impl_opRanges)] }
def FnOpDoSaid : Prop := fnOpDoRow.holds Tryd.pinned (OpenSpec.ofChange fnOpDoSpec)

/-- ITS FALSE NEIGHBOUR: 'it returns false'. Refute it at one input. -/
def fnOpDoWrong : ChangeSpec := { name := "fnOpDo", vars := ["loop.example/easel/impl.opRanges"], fn := fun _ => fun
  | [d, g1] => { results := [.lit (.bool false)], args := [d], vars := [g1] }
  | _ => none }
def FnOpDoWrongFalsely : Prop := fnOpDoRow.holds Tryd.pinned (OpenSpec.ofChange fnOpDoWrong)

/-- 'laws.FnOpTurn': WHATEVER THE INPUT: true; the input reads as it did. -/
def fnOpTurnSpec : ChangeSpec := { name := "fnOpTurn", vars := ["loop.example/easel/impl.opRanges"], fn := fun _ => fun
  | [d, g1] => { results := [.lit (.bool true)], args := [d], vars := [g1] }
  | _ => none }
def fnOpTurnRow : OpenClaim := { program := "ytiemlakjallphaadoor", sum := "c8149ab07b386c5e15b2c6eeed53850834fabd670d3a8704f0a79f595de42a60", func := "loop.example/easel/laws.FnOpTurn", spec := "fnOpTurn", unfollowed := true, recurses := true, named := ["loop.example/easel/impl.opRanges"], apart := false, laid := [("loop.example/easel/impl.opRanges", laid_loop_example_easel_impl_opRanges)] }
def FnOpTurnSaid : Prop := fnOpTurnRow.holds Tryd.pinned (OpenSpec.ofChange fnOpTurnSpec)

/-- ITS FALSE NEIGHBOUR: 'it returns false'. Refute it at one input. -/
def fnOpTurnWrong : ChangeSpec := { name := "fnOpTurn", vars := ["loop.example/easel/impl.opRanges"], fn := fun _ => fun
  | [d, g1] => { results := [.lit (.bool false)], args := [d], vars := [g1] }
  | _ => none }
def FnOpTurnWrongFalsely : Prop := fnOpTurnRow.holds Tryd.pinned (OpenSpec.ofChange fnOpTurnWrong)

/-- 'laws.FnOpBlur': WHATEVER THE INPUT: true; the input reads as it did. -/
def fnOpBlurSpec : ChangeSpec := { name := "fnOpBlur", vars := ["loop.example/easel/impl.opRanges"], fn := fun _ => fun
  | [d, g1] => { results := [.lit (.bool true)], args := [d], vars := [g1] }
  | _ => none }
def fnOpBlurRow : OpenClaim := { program := "ytiemlakjallphaadoor", sum := "c8149ab07b386c5e15b2c6eeed53850834fabd670d3a8704f0a79f595de42a60", func := "loop.example/easel/laws.FnOpBlur", spec := "fnOpBlur", unfollowed := true, recurses := true, named := ["loop.example/easel/impl.opRanges"], apart := false, laid := [("loop.example/easel/impl.opRanges", laid_loop_example_easel_impl_opRanges)] }
def FnOpBlurSaid : Prop := fnOpBlurRow.holds Tryd.pinned (OpenSpec.ofChange fnOpBlurSpec)

/-- ITS FALSE NEIGHBOUR: 'it returns false'. Refute it at one input. -/
def fnOpBlurWrong : ChangeSpec := { name := "fnOpBlur", vars := ["loop.example/easel/impl.opRanges"], fn := fun _ => fun
  | [d, g1] => { results := [.lit (.bool false)], args := [d], vars := [g1] }
  | _ => none }
def FnOpBlurWrongFalsely : Prop := fnOpBlurRow.holds Tryd.pinned (OpenSpec.ofChange fnOpBlurWrong)

/-- 'laws.FnOpSize': WHATEVER THE INPUT: true; the input reads as it did. -/
def fnOpSizeSpec : ChangeSpec := { name := "fnOpSize", vars := ["loop.example/easel/impl.opRanges"], fn := fun _ => fun
  | [d1, d2, g1] => { results := [.lit (.bool true)], args := [d1, d2], vars := [g1] }
  | _ => none }
def fnOpSizeRow : OpenClaim := { program := "ytiemlakjallphaadoor", sum := "c8149ab07b386c5e15b2c6eeed53850834fabd670d3a8704f0a79f595de42a60", func := "loop.example/easel/laws.FnOpSize", spec := "fnOpSize", unfollowed := true, recurses := true, named := ["loop.example/easel/impl.opRanges"], apart := false, laid := [("loop.example/easel/impl.opRanges", laid_loop_example_easel_impl_opRanges)] }
def FnOpSizeSaid : Prop := fnOpSizeRow.holds Tryd.pinned (OpenSpec.ofChange fnOpSizeSpec)

/-- ITS FALSE NEIGHBOUR: 'it returns false'. Refute it at one input. -/
def fnOpSizeWrong : ChangeSpec := { name := "fnOpSize", vars := ["loop.example/easel/impl.opRanges"], fn := fun _ => fun
  | [d1, d2, g1] => { results := [.lit (.bool false)], args := [d1, d2], vars := [g1] }
  | _ => none }
def FnOpSizeWrongFalsely : Prop := fnOpSizeRow.holds Tryd.pinned (OpenSpec.ofChange fnOpSizeWrong)

/-- 'laws.FnOpMoves': WHATEVER THE INPUT: true; the input reads as it did. -/
def fnOpMovesSpec : ChangeSpec := { name := "fnOpMoves", vars := ["loop.example/easel/impl.opRanges"], fn := fun _ => fun
  | [d, g1] => { results := [.lit (.bool true)], args := [d], vars := [g1] }
  | _ => none }
def fnOpMovesRow : OpenClaim := { program := "ytiemlakjallphaadoor", sum := "c8149ab07b386c5e15b2c6eeed53850834fabd670d3a8704f0a79f595de42a60", func := "loop.example/easel/laws.FnOpMoves", spec := "fnOpMoves", unfollowed := true, recurses := true, named := ["loop.example/easel/impl.opRanges"], apart := false, laid := [("loop.example/easel/impl.opRanges", laid_loop_example_easel_impl_opRanges)] }
def FnOpMovesSaid : Prop := fnOpMovesRow.holds Tryd.pinned (OpenSpec.ofChange fnOpMovesSpec)

/-- ITS FALSE NEIGHBOUR: 'it returns false'. Refute it at one input. -/
def fnOpMovesWrong : ChangeSpec := { name := "fnOpMoves", vars := ["loop.example/easel/impl.opRanges"], fn := fun _ => fun
  | [d, g1] => { results := [.lit (.bool false)], args := [d], vars := [g1] }
  | _ => none }
def FnOpMovesWrongFalsely : Prop := fnOpMovesRow.holds Tryd.pinned (OpenSpec.ofChange fnOpMovesWrong)

/-- 'laws.FnOpEach': WHATEVER THE INPUT: true; the input reads as it did. -/
def fnOpEachSpec : ChangeSpec := { name := "fnOpEach", vars := ["loop.example/easel/impl.opRanges"], fn := fun _ => fun
  | [d1, d2, g1] => { results := [.lit (.bool true)], args := [d1, d2], vars := [g1] }
  | _ => none }
def fnOpEachRow : OpenClaim := { program := "ytiemlakjallphaadoor", sum := "c8149ab07b386c5e15b2c6eeed53850834fabd670d3a8704f0a79f595de42a60", func := "loop.example/easel/laws.FnOpEach", spec := "fnOpEach", unfollowed := true, recurses := true, named := ["loop.example/easel/impl.opRanges"], apart := false, laid := [("loop.example/easel/impl.opRanges", laid_loop_example_easel_impl_opRanges)] }
def FnOpEachSaid : Prop := fnOpEachRow.holds Tryd.pinned (OpenSpec.ofChange fnOpEachSpec)

/-- ITS FALSE NEIGHBOUR: 'it returns false'. Refute it at one input. -/
def fnOpEachWrong : ChangeSpec := { name := "fnOpEach", vars := ["loop.example/easel/impl.opRanges"], fn := fun _ => fun
  | [d1, d2, g1] => { results := [.lit (.bool false)], args := [d1, d2], vars := [g1] }
  | _ => none }
def FnOpEachWrongFalsely : Prop := fnOpEachRow.holds Tryd.pinned (OpenSpec.ofChange fnOpEachWrong)

/-- 'laws.FnOpCover': WHATEVER THE INPUT: true; the input reads as it did. -/
def fnOpCoverSpec : ChangeSpec := { name := "fnOpCover", vars := ["loop.example/easel/impl.opRanges"], fn := fun _ => fun
  | [d, g1] => { results := [.lit (.bool true)], args := [d], vars := [g1] }
  | _ => none }
def fnOpCoverRow : OpenClaim := { program := "ytiemlakjallphaadoor", sum := "c8149ab07b386c5e15b2c6eeed53850834fabd670d3a8704f0a79f595de42a60", func := "loop.example/easel/laws.FnOpCover", spec := "fnOpCover", unfollowed := true, recurses := true, named := ["loop.example/easel/impl.opRanges"], apart := false, laid := [("loop.example/easel/impl.opRanges", laid_loop_example_easel_impl_opRanges)] }
def FnOpCoverSaid : Prop := fnOpCoverRow.holds Tryd.pinned (OpenSpec.ofChange fnOpCoverSpec)

/-- ITS FALSE NEIGHBOUR: 'it returns false'. Refute it at one input. -/
def fnOpCoverWrong : ChangeSpec := { name := "fnOpCover", vars := ["loop.example/easel/impl.opRanges"], fn := fun _ => fun
  | [d, g1] => { results := [.lit (.bool false)], args := [d], vars := [g1] }
  | _ => none }
def FnOpCoverWrongFalsely : Prop := fnOpCoverRow.holds Tryd.pinned (OpenSpec.ofChange fnOpCoverWrong)

/-- 'laws.FnExactOpDo': WHATEVER THE INPUT: true; the input reads as it did. -/
def fnExactOpDoSpec : ChangeSpec := { name := "fnExactOpDo", vars := ["loop.example/easel/impl.opRanges"], fn := fun _ => fun
  | [d1, d2, g1] => { results := [.lit (.bool true)], args := [d1, d2], vars := [g1] }
  | _ => none }
def fnExactOpDoRow : OpenClaim := { program := "ytiemlakjallphaadoor", sum := "c8149ab07b386c5e15b2c6eeed53850834fabd670d3a8704f0a79f595de42a60", func := "loop.example/easel/laws.FnExactOpDo", spec := "fnExactOpDo", unfollowed := true, recurses := true, named := ["loop.example/easel/impl.opRanges"], apart := false, laid := [("loop.example/easel/impl.opRanges", laid_loop_example_easel_impl_opRanges)] }
def FnExactOpDoSaid : Prop := fnExactOpDoRow.holds Tryd.pinned (OpenSpec.ofChange fnExactOpDoSpec)

/-- ITS FALSE NEIGHBOUR: 'it returns false'. Refute it at one input. -/
def fnExactOpDoWrong : ChangeSpec := { name := "fnExactOpDo", vars := ["loop.example/easel/impl.opRanges"], fn := fun _ => fun
  | [d1, d2, g1] => { results := [.lit (.bool false)], args := [d1, d2], vars := [g1] }
  | _ => none }
def FnExactOpDoWrongFalsely : Prop := fnExactOpDoRow.holds Tryd.pinned (OpenSpec.ofChange fnExactOpDoWrong)

/- THE SECOND FORM. 'bulk': how many values and letters a reading holds, each counted each time it is reached (what is shared counts as often as it is met; a slice's spare places count too). A statement '..UptoSaid' is the law's where the arguments, and the package variables that the reading takes, are together of bulk at most 1048576: NARROWER than '..Said'. Prove '..Said' where nothing that the law and all that it calls make is longer than what came in: it says more and counts as full. Else prove '..UptoSaid'. A law counts once. -/
mutual
def uptoBulk {H : Type} : DataW H → Nat
  | .lit (.string bytes) => bytes.length + 1
  | .lit _ => 1
  | .nil => 1
  | .ptr d => uptoBulk d + 1
  | .slice elems spare => uptoBulkAll elems + uptoBulkAll spare + 1
  | .agg parts => uptoBulkAll parts + 1
  | .iface _ d => uptoBulk d + 1
  | .map entries => uptoBulkEntries entries + 1
  | .held _ => 1
def uptoBulkAll {H : Type} : List (DataW H) → Nat
  | [] => 0
  | d :: r => uptoBulk d + uptoBulkAll r
def uptoBulkEntries {H : Type} : List (Lit × DataW H) → Nat
  | [] => 0
  | x :: r => uptoBulkEntry x + uptoBulkEntries r
def uptoBulkEntry {H : Type} : Lit × DataW H → Nat
  | (.string bytes, d) => bytes.length + uptoBulk d + 1
  | (_, d) => uptoBulk d + 1
 end
def uptoSmall : (H : Type) → List (DataW H) → Bool := fun _ ds => decide (uptoBulkAll ds ≤ 1048576)
def OpenSpec.upto (s : _root_.Go.ChangeSpec) : _root_.Go.OpenSpec := { _root_.Go.OpenSpec.ofChange s with cond := some uptoSmall }

/-- 'laws.FnOpDo', WHERE WHAT IT READS IS OF BULK AT MOST 1048576: true; the input reads as it did. -/
def fnOpDoUptoRow : OpenClaim := { program := "ytiemlakjallphaadoor", sum := "c8149ab07b386c5e15b2c6eeed53850834fabd670d3a8704f0a79f595de42a60", func := "loop.example/easel/laws.FnOpDo", spec := "fnOpDo", unfollowed := true, recurses := true, named := ["loop.example/easel/impl.opRanges"], apart := false, laid := [("loop.example/easel/impl.opRanges", laid_loop_example_easel_impl_opRanges)], narrowed := true }
def FnOpDoUptoSaid : Prop := fnOpDoUptoRow.holds Tryd.pinned (OpenSpec.upto fnOpDoSpec)

/-- 'laws.FnOpTurn', WHERE WHAT IT READS IS OF BULK AT MOST 1048576: true; the input reads as it did. -/
def fnOpTurnUptoRow : OpenClaim := { program := "ytiemlakjallphaadoor", sum := "c8149ab07b386c5e15b2c6eeed53850834fabd670d3a8704f0a79f595de42a60", func := "loop.example/easel/laws.FnOpTurn", spec := "fnOpTurn", unfollowed := true, recurses := true, named := ["loop.example/easel/impl.opRanges"], apart := false, laid := [("loop.example/easel/impl.opRanges", laid_loop_example_easel_impl_opRanges)], narrowed := true }
def FnOpTurnUptoSaid : Prop := fnOpTurnUptoRow.holds Tryd.pinned (OpenSpec.upto fnOpTurnSpec)

/-- 'laws.FnOpBlur', WHERE WHAT IT READS IS OF BULK AT MOST 1048576: true; the input reads as it did. -/
def fnOpBlurUptoRow : OpenClaim := { program := "ytiemlakjallphaadoor", sum := "c8149ab07b386c5e15b2c6eeed53850834fabd670d3a8704f0a79f595de42a60", func := "loop.example/easel/laws.FnOpBlur", spec := "fnOpBlur", unfollowed := true, recurses := true, named := ["loop.example/easel/impl.opRanges"], apart := false, laid := [("loop.example/easel/impl.opRanges", laid_loop_example_easel_impl_opRanges)], narrowed := true }
def FnOpBlurUptoSaid : Prop := fnOpBlurUptoRow.holds Tryd.pinned (OpenSpec.upto fnOpBlurSpec)

/-- 'laws.FnOpSize', WHERE WHAT IT READS IS OF BULK AT MOST 1048576: true; the input reads as it did. -/
def fnOpSizeUptoRow : OpenClaim := { program := "ytiemlakjallphaadoor", sum := "c8149ab07b386c5e15b2c6eeed53850834fabd670d3a8704f0a79f595de42a60", func := "loop.example/easel/laws.FnOpSize", spec := "fnOpSize", unfollowed := true, recurses := true, named := ["loop.example/easel/impl.opRanges"], apart := false, laid := [("loop.example/easel/impl.opRanges", laid_loop_example_easel_impl_opRanges)], narrowed := true }
def FnOpSizeUptoSaid : Prop := fnOpSizeUptoRow.holds Tryd.pinned (OpenSpec.upto fnOpSizeSpec)

/-- 'laws.FnOpMoves', WHERE WHAT IT READS IS OF BULK AT MOST 1048576: true; the input reads as it did. -/
def fnOpMovesUptoRow : OpenClaim := { program := "ytiemlakjallphaadoor", sum := "c8149ab07b386c5e15b2c6eeed53850834fabd670d3a8704f0a79f595de42a60", func := "loop.example/easel/laws.FnOpMoves", spec := "fnOpMoves", unfollowed := true, recurses := true, named := ["loop.example/easel/impl.opRanges"], apart := false, laid := [("loop.example/easel/impl.opRanges", laid_loop_example_easel_impl_opRanges)], narrowed := true }
def FnOpMovesUptoSaid : Prop := fnOpMovesUptoRow.holds Tryd.pinned (OpenSpec.upto fnOpMovesSpec)

/-- 'laws.FnOpEach', WHERE WHAT IT READS IS OF BULK AT MOST 1048576: true; the input reads as it did. -/
def fnOpEachUptoRow : OpenClaim := { program := "ytiemlakjallphaadoor", sum := "c8149ab07b386c5e15b2c6eeed53850834fabd670d3a8704f0a79f595de42a60", func := "loop.example/easel/laws.FnOpEach", spec := "fnOpEach", unfollowed := true, recurses := true, named := ["loop.example/easel/impl.opRanges"], apart := false, laid := [("loop.example/easel/impl.opRanges", laid_loop_example_easel_impl_opRanges)], narrowed := true }
def FnOpEachUptoSaid : Prop := fnOpEachUptoRow.holds Tryd.pinned (OpenSpec.upto fnOpEachSpec)

/-- 'laws.FnOpCover', WHERE WHAT IT READS IS OF BULK AT MOST 1048576: true; the input reads as it did. -/
def fnOpCoverUptoRow : OpenClaim := { program := "ytiemlakjallphaadoor", sum := "c8149ab07b386c5e15b2c6eeed53850834fabd670d3a8704f0a79f595de42a60", func := "loop.example/easel/laws.FnOpCover", spec := "fnOpCover", unfollowed := true, recurses := true, named := ["loop.example/easel/impl.opRanges"], apart := false, laid := [("loop.example/easel/impl.opRanges", laid_loop_example_easel_impl_opRanges)], narrowed := true }
def FnOpCoverUptoSaid : Prop := fnOpCoverUptoRow.holds Tryd.pinned (OpenSpec.upto fnOpCoverSpec)

/-- 'laws.FnExactOpDo', WHERE WHAT IT READS IS OF BULK AT MOST 1048576: true; the input reads as it did. -/
def fnExactOpDoUptoRow : OpenClaim := { program := "ytiemlakjallphaadoor", sum := "c8149ab07b386c5e15b2c6eeed53850834fabd670d3a8704f0a79f595de42a60", func := "loop.example/easel/laws.FnExactOpDo", spec := "fnExactOpDo", unfollowed := true, recurses := true, named := ["loop.example/easel/impl.opRanges"], apart := false, laid := [("loop.example/easel/impl.opRanges", laid_loop_example_easel_impl_opRanges)], narrowed := true }
def FnExactOpDoUptoSaid : Prop := fnExactOpDoUptoRow.holds Tryd.pinned (OpenSpec.upto fnExactOpDoSpec)

end Rows
end Go.Proofs.YtiemlakjallphaaDoor
