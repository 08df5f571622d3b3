/-
  NARROWER THAN 'FOR EVERY INPUT', by the rows' own cells (each row's printed sentence says how): FnExactOpOk: laid · FnOpOk: laid · FnOpFlip: laid · FnOpGroup: laid · FnOpGray: laid · FnOpSizeUp: laid · FnOpSizeTwice: laid · FnOpSizeBoth: laid · FnOpCrop: laid · FnOpCropFlip: laid · FnOpFlat: laid · FnOpBlurIn: laid.
  DERIVED. THE GIVEN ROWS OF THIS SEAT. 12 by the template 'for every input the law returns true; each argument reads behind the call as it read before'; 0 by the template 'total and deterministic' (their statements: YthdggnfffebnlaaDoorTotals.lean).
  GIVEN WITH THE SEED: the statements are not yours to turn. If you find one false, say at which input.
  Laid BY PROGRAM, IN A SANDBOX (cutbox-rows.mjs): the forced cells as the released guide's own fill.sh prints them over the translation bb0b33ef6ffaf24e… (all of the seat's roots in one cut). By AI agents, Wed Nov 11 2026. No macro, syntax, notation, axiom, sorry.
-/
import Derived.Test.YthdggnfffebnlaaDoorChecked
import GoSem.Claim
import GoSem.ClaimJoined
import GoSem.ClaimMapViews
import Derived.JoinedTies
import Derived.KernelRfl
namespace Go.Proofs.YthdggnfffebnlaaDoor
/- THE CELL 'sum', in the pinned program and in every row, IS THE sha256 OF THE DUMP (.gsa) THAT YthdggnfffebnlaaDoorProg.lean LOADS. Nothing in Lean hashes anything: it is a label: what it is worth is what the hold of that sum in a sandbox is worth. -/
noncomputable def Tryd.pinned : Pinned := { name := "ythdggnfffebnlaadoor", sum := "bb0b33ef6ffaf24e13926e8f2d4837023c06138c4021348b6df82eadc49213b7", checked := Tryd.checked }
namespace Rows
def none {H : Type} : Left H := { results := [], args := [] }

/- WHAT THE LISTED PACKAGE-LEVEL VARIABLES READ AS WHEN THE CALL BEGINS. Each datum BY PROGRAM (the guide's laid-datum.mjs) off the statement by which the dump's own 'gosem.cut.vars' lays the variable. In a bare row this is a premise. The card (YthdggnfffebnlaaDoorCards.lean) ties it to the program's text. -/
def laid_loop_example_easel_impl_opRanges {H : Type} : DataW H := .agg [.agg [.agg [.lit (.int .i64 0), .lit (.int .i64 0)], .agg [.lit (.int .i64 0), .lit (.int .i64 0)], .agg [.lit (.int .i64 0), .lit (.int .i64 0)], .agg [.lit (.int .i64 0), .lit (.int .i64 0)]], .agg [.agg [.lit (.int .i64 0), .lit (.int .i64 5)], .agg [.lit (.int .i64 0), .lit (.int .i64 5)], .agg [.lit (.int .i64 1), .lit (.int .i64 6)], .agg [.lit (.int .i64 1), .lit (.int .i64 6)]], .agg [.agg [.lit (.int .i64 0), .lit (.int .i64 0)], .agg [.lit (.int .i64 0), .lit (.int .i64 0)], .agg [.lit (.int .i64 0), .lit (.int .i64 0)], .agg [.lit (.int .i64 0), .lit (.int .i64 0)]], .agg [.agg [.lit (.int .i64 0), .lit (.int .i64 0)], .agg [.lit (.int .i64 0), .lit (.int .i64 0)], .agg [.lit (.int .i64 0), .lit (.int .i64 0)], .agg [.lit (.int .i64 0), .lit (.int .i64 0)]], .agg [.agg [.lit (.int .i64 0), .lit (.int .i64 0)], .agg [.lit (.int .i64 0), .lit (.int .i64 0)], .agg [.lit (.int .i64 0), .lit (.int .i64 0)], .agg [.lit (.int .i64 0), .lit (.int .i64 0)]], .agg [.agg [.lit (.int .i64 0), .lit (.int .i64 0)], .agg [.lit (.int .i64 0), .lit (.int .i64 0)], .agg [.lit (.int .i64 0), .lit (.int .i64 0)], .agg [.lit (.int .i64 0), .lit (.int .i64 0)]], .agg [.agg [.lit (.int .i64 0), .lit (.int .i64 0)], .agg [.lit (.int .i64 0), .lit (.int .i64 0)], .agg [.lit (.int .i64 0), .lit (.int .i64 0)], .agg [.lit (.int .i64 0), .lit (.int .i64 0)]], .agg [.agg [.lit (.int .i64 1), .lit (.int .i64 6)], .agg [.lit (.int .i64 1), .lit (.int .i64 6)], .agg [.lit (.int .i64 0), .lit (.int .i64 0)], .agg [.lit (.int .i64 0), .lit (.int .i64 0)]], .agg [.agg [.lit (.int .i64 0), .lit (.int .i64 255)], .agg [.lit (.int .i64 0), .lit (.int .i64 255)], .agg [.lit (.int .i64 0), .lit (.int .i64 255)], .agg [.lit (.int .i64 0), .lit (.int .i64 0)]]]

/-- 'laws.FnExactOpOk': WHATEVER THE INPUT: true; the input reads as it did. -/
def fnExactOpOkSpec : ChangeSpec := { name := "fnExactOpOk", vars := ["loop.example/easel/impl.opRanges"], fn := fun _ => fun
  | [d, g1] => { results := [.lit (.bool true)], args := [d], vars := [g1] }
  | _ => none }
def fnExactOpOkRow : OpenClaim := { program := "ythdggnfffebnlaadoor", sum := "bb0b33ef6ffaf24e13926e8f2d4837023c06138c4021348b6df82eadc49213b7", func := "loop.example/easel/laws.FnExactOpOk", spec := "fnExactOpOk", named := ["loop.example/easel/impl.opRanges"], apart := false, laid := [("loop.example/easel/impl.opRanges", laid_loop_example_easel_impl_opRanges)] }
def FnExactOpOkSaid : Prop := fnExactOpOkRow.holds Tryd.pinned (OpenSpec.ofChange fnExactOpOkSpec)

/-- ITS FALSE NEIGHBOUR: 'it returns false'. Refute it at one input. -/
def fnExactOpOkWrong : ChangeSpec := { name := "fnExactOpOk", vars := ["loop.example/easel/impl.opRanges"], fn := fun _ => fun
  | [d, g1] => { results := [.lit (.bool false)], args := [d], vars := [g1] }
  | _ => none }
def FnExactOpOkWrongFalsely : Prop := fnExactOpOkRow.holds Tryd.pinned (OpenSpec.ofChange fnExactOpOkWrong)

/-- 'laws.FnOpOk': WHATEVER THE INPUT: true; the input reads as it did. -/
def fnOpOkSpec : ChangeSpec := { name := "fnOpOk", vars := ["loop.example/easel/impl.opRanges"], fn := fun _ => fun
  | [d, g1] => { results := [.lit (.bool true)], args := [d], vars := [g1] }
  | _ => none }
def fnOpOkRow : OpenClaim := { program := "ythdggnfffebnlaadoor", sum := "bb0b33ef6ffaf24e13926e8f2d4837023c06138c4021348b6df82eadc49213b7", func := "loop.example/easel/laws.FnOpOk", spec := "fnOpOk", named := ["loop.example/easel/impl.opRanges"], apart := false, laid := [("loop.example/easel/impl.opRanges", laid_loop_example_easel_impl_opRanges)] }
def FnOpOkSaid : Prop := fnOpOkRow.holds Tryd.pinned (OpenSpec.ofChange fnOpOkSpec)

/-- ITS FALSE NEIGHBOUR: 'it returns false'. Refute it at one input. -/
def fnOpOkWrong : ChangeSpec := { name := "fnOpOk", vars := ["loop.example/easel/impl.opRanges"], fn := fun _ => fun
  | [d, g1] => { results := [.lit (.bool false)], args := [d], vars := [g1] }
  | _ => none }
def FnOpOkWrongFalsely : Prop := fnOpOkRow.holds Tryd.pinned (OpenSpec.ofChange fnOpOkWrong)

/-- 'laws.FnOpFlip': WHATEVER THE INPUT: true; the input reads as it did. -/
def fnOpFlipSpec : ChangeSpec := { name := "fnOpFlip", vars := ["loop.example/easel/impl.opRanges"], fn := fun _ => fun
  | [d, g1] => { results := [.lit (.bool true)], args := [d], vars := [g1] }
  | _ => none }
def fnOpFlipRow : OpenClaim := { program := "ythdggnfffebnlaadoor", sum := "bb0b33ef6ffaf24e13926e8f2d4837023c06138c4021348b6df82eadc49213b7", func := "loop.example/easel/laws.FnOpFlip", spec := "fnOpFlip", unfollowed := true, recurses := true, named := ["loop.example/easel/impl.opRanges"], apart := false, laid := [("loop.example/easel/impl.opRanges", laid_loop_example_easel_impl_opRanges)] }
def FnOpFlipSaid : Prop := fnOpFlipRow.holds Tryd.pinned (OpenSpec.ofChange fnOpFlipSpec)

/-- ITS FALSE NEIGHBOUR: 'it returns false'. Refute it at one input. -/
def fnOpFlipWrong : ChangeSpec := { name := "fnOpFlip", vars := ["loop.example/easel/impl.opRanges"], fn := fun _ => fun
  | [d, g1] => { results := [.lit (.bool false)], args := [d], vars := [g1] }
  | _ => none }
def FnOpFlipWrongFalsely : Prop := fnOpFlipRow.holds Tryd.pinned (OpenSpec.ofChange fnOpFlipWrong)

/-- 'laws.FnOpGroup': WHATEVER THE INPUT: true; the input reads as it did. -/
def fnOpGroupSpec : ChangeSpec := { name := "fnOpGroup", vars := ["loop.example/easel/impl.opRanges"], fn := fun _ => fun
  | [d, g1] => { results := [.lit (.bool true)], args := [d], vars := [g1] }
  | _ => none }
def fnOpGroupRow : OpenClaim := { program := "ythdggnfffebnlaadoor", sum := "bb0b33ef6ffaf24e13926e8f2d4837023c06138c4021348b6df82eadc49213b7", func := "loop.example/easel/laws.FnOpGroup", spec := "fnOpGroup", unfollowed := true, recurses := true, named := ["loop.example/easel/impl.opRanges"], apart := false, laid := [("loop.example/easel/impl.opRanges", laid_loop_example_easel_impl_opRanges)] }
def FnOpGroupSaid : Prop := fnOpGroupRow.holds Tryd.pinned (OpenSpec.ofChange fnOpGroupSpec)

/-- ITS FALSE NEIGHBOUR: 'it returns false'. Refute it at one input. -/
def fnOpGroupWrong : ChangeSpec := { name := "fnOpGroup", vars := ["loop.example/easel/impl.opRanges"], fn := fun _ => fun
  | [d, g1] => { results := [.lit (.bool false)], args := [d], vars := [g1] }
  | _ => none }
def FnOpGroupWrongFalsely : Prop := fnOpGroupRow.holds Tryd.pinned (OpenSpec.ofChange fnOpGroupWrong)

/-- 'laws.FnOpGray': WHATEVER THE INPUT: true; the input reads as it did. -/
def fnOpGraySpec : ChangeSpec := { name := "fnOpGray", vars := ["loop.example/easel/impl.opRanges"], fn := fun _ => fun
  | [d, g1] => { results := [.lit (.bool true)], args := [d], vars := [g1] }
  | _ => none }
def fnOpGrayRow : OpenClaim := { program := "ythdggnfffebnlaadoor", sum := "bb0b33ef6ffaf24e13926e8f2d4837023c06138c4021348b6df82eadc49213b7", func := "loop.example/easel/laws.FnOpGray", spec := "fnOpGray", unfollowed := true, recurses := true, named := ["loop.example/easel/impl.opRanges"], apart := false, laid := [("loop.example/easel/impl.opRanges", laid_loop_example_easel_impl_opRanges)] }
def FnOpGraySaid : Prop := fnOpGrayRow.holds Tryd.pinned (OpenSpec.ofChange fnOpGraySpec)

/-- ITS FALSE NEIGHBOUR: 'it returns false'. Refute it at one input. -/
def fnOpGrayWrong : ChangeSpec := { name := "fnOpGray", vars := ["loop.example/easel/impl.opRanges"], fn := fun _ => fun
  | [d, g1] => { results := [.lit (.bool false)], args := [d], vars := [g1] }
  | _ => none }
def FnOpGrayWrongFalsely : Prop := fnOpGrayRow.holds Tryd.pinned (OpenSpec.ofChange fnOpGrayWrong)

/-- 'laws.FnOpSizeUp': WHATEVER THE INPUT: true; the input reads as it did. -/
def fnOpSizeUpSpec : ChangeSpec := { name := "fnOpSizeUp", vars := ["loop.example/easel/impl.opRanges"], fn := fun _ => fun
  | [d, g1] => { results := [.lit (.bool true)], args := [d], vars := [g1] }
  | _ => none }
def fnOpSizeUpRow : OpenClaim := { program := "ythdggnfffebnlaadoor", sum := "bb0b33ef6ffaf24e13926e8f2d4837023c06138c4021348b6df82eadc49213b7", func := "loop.example/easel/laws.FnOpSizeUp", spec := "fnOpSizeUp", unfollowed := true, recurses := true, named := ["loop.example/easel/impl.opRanges"], apart := false, laid := [("loop.example/easel/impl.opRanges", laid_loop_example_easel_impl_opRanges)] }
def FnOpSizeUpSaid : Prop := fnOpSizeUpRow.holds Tryd.pinned (OpenSpec.ofChange fnOpSizeUpSpec)

/-- ITS FALSE NEIGHBOUR: 'it returns false'. Refute it at one input. -/
def fnOpSizeUpWrong : ChangeSpec := { name := "fnOpSizeUp", vars := ["loop.example/easel/impl.opRanges"], fn := fun _ => fun
  | [d, g1] => { results := [.lit (.bool false)], args := [d], vars := [g1] }
  | _ => none }
def FnOpSizeUpWrongFalsely : Prop := fnOpSizeUpRow.holds Tryd.pinned (OpenSpec.ofChange fnOpSizeUpWrong)

/-- 'laws.FnOpSizeTwice': WHATEVER THE INPUT: true; the input reads as it did. -/
def fnOpSizeTwiceSpec : ChangeSpec := { name := "fnOpSizeTwice", vars := ["loop.example/easel/impl.opRanges"], fn := fun _ => fun
  | [d1, d2, g1] => { results := [.lit (.bool true)], args := [d1, d2], vars := [g1] }
  | _ => none }
def fnOpSizeTwiceRow : OpenClaim := { program := "ythdggnfffebnlaadoor", sum := "bb0b33ef6ffaf24e13926e8f2d4837023c06138c4021348b6df82eadc49213b7", func := "loop.example/easel/laws.FnOpSizeTwice", spec := "fnOpSizeTwice", unfollowed := true, recurses := true, named := ["loop.example/easel/impl.opRanges"], apart := false, laid := [("loop.example/easel/impl.opRanges", laid_loop_example_easel_impl_opRanges)] }
def FnOpSizeTwiceSaid : Prop := fnOpSizeTwiceRow.holds Tryd.pinned (OpenSpec.ofChange fnOpSizeTwiceSpec)

/-- ITS FALSE NEIGHBOUR: 'it returns false'. Refute it at one input. -/
def fnOpSizeTwiceWrong : ChangeSpec := { name := "fnOpSizeTwice", vars := ["loop.example/easel/impl.opRanges"], fn := fun _ => fun
  | [d1, d2, g1] => { results := [.lit (.bool false)], args := [d1, d2], vars := [g1] }
  | _ => none }
def FnOpSizeTwiceWrongFalsely : Prop := fnOpSizeTwiceRow.holds Tryd.pinned (OpenSpec.ofChange fnOpSizeTwiceWrong)

/-- 'laws.FnOpSizeBoth': WHATEVER THE INPUT: true; the input reads as it did. -/
def fnOpSizeBothSpec : ChangeSpec := { name := "fnOpSizeBoth", vars := ["loop.example/easel/impl.opRanges"], fn := fun _ => fun
  | [d1, d2, g1] => { results := [.lit (.bool true)], args := [d1, d2], vars := [g1] }
  | _ => none }
def fnOpSizeBothRow : OpenClaim := { program := "ythdggnfffebnlaadoor", sum := "bb0b33ef6ffaf24e13926e8f2d4837023c06138c4021348b6df82eadc49213b7", func := "loop.example/easel/laws.FnOpSizeBoth", spec := "fnOpSizeBoth", unfollowed := true, recurses := true, named := ["loop.example/easel/impl.opRanges"], apart := false, laid := [("loop.example/easel/impl.opRanges", laid_loop_example_easel_impl_opRanges)] }
def FnOpSizeBothSaid : Prop := fnOpSizeBothRow.holds Tryd.pinned (OpenSpec.ofChange fnOpSizeBothSpec)

/-- ITS FALSE NEIGHBOUR: 'it returns false'. Refute it at one input. -/
def fnOpSizeBothWrong : ChangeSpec := { name := "fnOpSizeBoth", vars := ["loop.example/easel/impl.opRanges"], fn := fun _ => fun
  | [d1, d2, g1] => { results := [.lit (.bool false)], args := [d1, d2], vars := [g1] }
  | _ => none }
def FnOpSizeBothWrongFalsely : Prop := fnOpSizeBothRow.holds Tryd.pinned (OpenSpec.ofChange fnOpSizeBothWrong)

/-- 'laws.FnOpCrop': WHATEVER THE INPUT: true; the input reads as it did. -/
def fnOpCropSpec : ChangeSpec := { name := "fnOpCrop", vars := ["loop.example/easel/impl.opRanges"], fn := fun _ => fun
  | [d1, d2, g1] => { results := [.lit (.bool true)], args := [d1, d2], vars := [g1] }
  | _ => none }
def fnOpCropRow : OpenClaim := { program := "ythdggnfffebnlaadoor", sum := "bb0b33ef6ffaf24e13926e8f2d4837023c06138c4021348b6df82eadc49213b7", func := "loop.example/easel/laws.FnOpCrop", spec := "fnOpCrop", unfollowed := true, recurses := true, named := ["loop.example/easel/impl.opRanges"], apart := false, laid := [("loop.example/easel/impl.opRanges", laid_loop_example_easel_impl_opRanges)] }
def FnOpCropSaid : Prop := fnOpCropRow.holds Tryd.pinned (OpenSpec.ofChange fnOpCropSpec)

/-- ITS FALSE NEIGHBOUR: 'it returns false'. Refute it at one input. -/
def fnOpCropWrong : ChangeSpec := { name := "fnOpCrop", vars := ["loop.example/easel/impl.opRanges"], fn := fun _ => fun
  | [d1, d2, g1] => { results := [.lit (.bool false)], args := [d1, d2], vars := [g1] }
  | _ => none }
def FnOpCropWrongFalsely : Prop := fnOpCropRow.holds Tryd.pinned (OpenSpec.ofChange fnOpCropWrong)

/-- 'laws.FnOpCropFlip': WHATEVER THE INPUT: true; the input reads as it did. -/
def fnOpCropFlipSpec : ChangeSpec := { name := "fnOpCropFlip", vars := ["loop.example/easel/impl.opRanges"], fn := fun _ => fun
  | [d1, d2, g1] => { results := [.lit (.bool true)], args := [d1, d2], vars := [g1] }
  | _ => none }
def fnOpCropFlipRow : OpenClaim := { program := "ythdggnfffebnlaadoor", sum := "bb0b33ef6ffaf24e13926e8f2d4837023c06138c4021348b6df82eadc49213b7", func := "loop.example/easel/laws.FnOpCropFlip", spec := "fnOpCropFlip", unfollowed := true, recurses := true, named := ["loop.example/easel/impl.opRanges"], apart := false, laid := [("loop.example/easel/impl.opRanges", laid_loop_example_easel_impl_opRanges)] }
def FnOpCropFlipSaid : Prop := fnOpCropFlipRow.holds Tryd.pinned (OpenSpec.ofChange fnOpCropFlipSpec)

/-- ITS FALSE NEIGHBOUR: 'it returns false'. Refute it at one input. -/
def fnOpCropFlipWrong : ChangeSpec := { name := "fnOpCropFlip", vars := ["loop.example/easel/impl.opRanges"], fn := fun _ => fun
  | [d1, d2, g1] => { results := [.lit (.bool false)], args := [d1, d2], vars := [g1] }
  | _ => none }
def FnOpCropFlipWrongFalsely : Prop := fnOpCropFlipRow.holds Tryd.pinned (OpenSpec.ofChange fnOpCropFlipWrong)

/-- 'laws.FnOpFlat': WHATEVER THE INPUT: true; the input reads as it did. -/
def fnOpFlatSpec : ChangeSpec := { name := "fnOpFlat", vars := ["loop.example/easel/impl.opRanges"], fn := fun _ => fun
  | [d, g1] => { results := [.lit (.bool true)], args := [d], vars := [g1] }
  | _ => none }
def fnOpFlatRow : OpenClaim := { program := "ythdggnfffebnlaadoor", sum := "bb0b33ef6ffaf24e13926e8f2d4837023c06138c4021348b6df82eadc49213b7", func := "loop.example/easel/laws.FnOpFlat", spec := "fnOpFlat", unfollowed := true, recurses := true, named := ["loop.example/easel/impl.opRanges"], apart := false, laid := [("loop.example/easel/impl.opRanges", laid_loop_example_easel_impl_opRanges)] }
def FnOpFlatSaid : Prop := fnOpFlatRow.holds Tryd.pinned (OpenSpec.ofChange fnOpFlatSpec)

/-- ITS FALSE NEIGHBOUR: 'it returns false'. Refute it at one input. -/
def fnOpFlatWrong : ChangeSpec := { name := "fnOpFlat", vars := ["loop.example/easel/impl.opRanges"], fn := fun _ => fun
  | [d, g1] => { results := [.lit (.bool false)], args := [d], vars := [g1] }
  | _ => none }
def FnOpFlatWrongFalsely : Prop := fnOpFlatRow.holds Tryd.pinned (OpenSpec.ofChange fnOpFlatWrong)

/-- 'laws.FnOpBlurIn': WHATEVER THE INPUT: true; the input reads as it did. -/
def fnOpBlurInSpec : ChangeSpec := { name := "fnOpBlurIn", vars := ["loop.example/easel/impl.opRanges"], fn := fun _ => fun
  | [d, g1] => { results := [.lit (.bool true)], args := [d], vars := [g1] }
  | _ => none }
def fnOpBlurInRow : OpenClaim := { program := "ythdggnfffebnlaadoor", sum := "bb0b33ef6ffaf24e13926e8f2d4837023c06138c4021348b6df82eadc49213b7", func := "loop.example/easel/laws.FnOpBlurIn", spec := "fnOpBlurIn", unfollowed := true, recurses := true, named := ["loop.example/easel/impl.opRanges"], apart := false, laid := [("loop.example/easel/impl.opRanges", laid_loop_example_easel_impl_opRanges)] }
def FnOpBlurInSaid : Prop := fnOpBlurInRow.holds Tryd.pinned (OpenSpec.ofChange fnOpBlurInSpec)

/-- ITS FALSE NEIGHBOUR: 'it returns false'. Refute it at one input. -/
def fnOpBlurInWrong : ChangeSpec := { name := "fnOpBlurIn", vars := ["loop.example/easel/impl.opRanges"], fn := fun _ => fun
  | [d, g1] => { results := [.lit (.bool false)], args := [d], vars := [g1] }
  | _ => none }
def FnOpBlurInWrongFalsely : Prop := fnOpBlurInRow.holds Tryd.pinned (OpenSpec.ofChange fnOpBlurInWrong)

/- THE SECOND FORM. 'bulk': how many values and letters a reading holds, each counted each time it is reached (what is shared counts as often as it is met; a slice's spare places count too). A statement '..UptoSaid' is the law's where the arguments, and the package variables that the reading takes, are together of bulk at most 1048576: NARROWER than '..Said'. Prove '..Said' where nothing that the law and all that it calls make is longer than what came in: it says more and counts as full. Else prove '..UptoSaid'. A law counts once. -/
mutual
def uptoBulk {H : Type} : DataW H → Nat
  | .lit (.string bytes) => bytes.length + 1
  | .lit _ => 1
  | .nil => 1
  | .ptr d => uptoBulk d + 1
  | .slice elems spare => uptoBulkAll elems + uptoBulkAll spare + 1
  | .agg parts => uptoBulkAll parts + 1
  | .iface _ d => uptoBulk d + 1
  | .map entries => uptoBulkEntries entries + 1
  | .held _ => 1
def uptoBulkAll {H : Type} : List (DataW H) → Nat
  | [] => 0
  | d :: r => uptoBulk d + uptoBulkAll r
def uptoBulkEntries {H : Type} : List (Lit × DataW H) → Nat
  | [] => 0
  | x :: r => uptoBulkEntry x + uptoBulkEntries r
def uptoBulkEntry {H : Type} : Lit × DataW H → Nat
  | (.string bytes, d) => bytes.length + uptoBulk d + 1
  | (_, d) => uptoBulk d + 1
 end
def uptoSmall : (H : Type) → List (DataW H) → Bool := fun _ ds => decide (uptoBulkAll ds ≤ 1048576)
def OpenSpec.upto (s : _root_.Go.ChangeSpec) : _root_.Go.OpenSpec := { _root_.Go.OpenSpec.ofChange s with cond := some uptoSmall }

/-- 'laws.FnExactOpOk', WHERE WHAT IT READS IS OF BULK AT MOST 1048576: true; the input reads as it did. -/
def fnExactOpOkUptoRow : OpenClaim := { program := "ythdggnfffebnlaadoor", sum := "bb0b33ef6ffaf24e13926e8f2d4837023c06138c4021348b6df82eadc49213b7", func := "loop.example/easel/laws.FnExactOpOk", spec := "fnExactOpOk", named := ["loop.example/easel/impl.opRanges"], apart := false, laid := [("loop.example/easel/impl.opRanges", laid_loop_example_easel_impl_opRanges)], narrowed := true }
def FnExactOpOkUptoSaid : Prop := fnExactOpOkUptoRow.holds Tryd.pinned (OpenSpec.upto fnExactOpOkSpec)

/-- 'laws.FnOpOk', WHERE WHAT IT READS IS OF BULK AT MOST 1048576: true; the input reads as it did. -/
def fnOpOkUptoRow : OpenClaim := { program := "ythdggnfffebnlaadoor", sum := "bb0b33ef6ffaf24e13926e8f2d4837023c06138c4021348b6df82eadc49213b7", func := "loop.example/easel/laws.FnOpOk", spec := "fnOpOk", named := ["loop.example/easel/impl.opRanges"], apart := false, laid := [("loop.example/easel/impl.opRanges", laid_loop_example_easel_impl_opRanges)], narrowed := true }
def FnOpOkUptoSaid : Prop := fnOpOkUptoRow.holds Tryd.pinned (OpenSpec.upto fnOpOkSpec)

/-- 'laws.FnOpFlip', WHERE WHAT IT READS IS OF BULK AT MOST 1048576: true; the input reads as it did. -/
def fnOpFlipUptoRow : OpenClaim := { program := "ythdggnfffebnlaadoor", sum := "bb0b33ef6ffaf24e13926e8f2d4837023c06138c4021348b6df82eadc49213b7", func := "loop.example/easel/laws.FnOpFlip", spec := "fnOpFlip", unfollowed := true, recurses := true, named := ["loop.example/easel/impl.opRanges"], apart := false, laid := [("loop.example/easel/impl.opRanges", laid_loop_example_easel_impl_opRanges)], narrowed := true }
def FnOpFlipUptoSaid : Prop := fnOpFlipUptoRow.holds Tryd.pinned (OpenSpec.upto fnOpFlipSpec)

/-- 'laws.FnOpGroup', WHERE WHAT IT READS IS OF BULK AT MOST 1048576: true; the input reads as it did. -/
def fnOpGroupUptoRow : OpenClaim := { program := "ythdggnfffebnlaadoor", sum := "bb0b33ef6ffaf24e13926e8f2d4837023c06138c4021348b6df82eadc49213b7", func := "loop.example/easel/laws.FnOpGroup", spec := "fnOpGroup", unfollowed := true, recurses := true, named := ["loop.example/easel/impl.opRanges"], apart := false, laid := [("loop.example/easel/impl.opRanges", laid_loop_example_easel_impl_opRanges)], narrowed := true }
def FnOpGroupUptoSaid : Prop := fnOpGroupUptoRow.holds Tryd.pinned (OpenSpec.upto fnOpGroupSpec)

/-- 'laws.FnOpGray', WHERE WHAT IT READS IS OF BULK AT MOST 1048576: true; the input reads as it did. -/
def fnOpGrayUptoRow : OpenClaim := { program := "ythdggnfffebnlaadoor", sum := "bb0b33ef6ffaf24e13926e8f2d4837023c06138c4021348b6df82eadc49213b7", func := "loop.example/easel/laws.FnOpGray", spec := "fnOpGray", unfollowed := true, recurses := true, named := ["loop.example/easel/impl.opRanges"], apart := false, laid := [("loop.example/easel/impl.opRanges", laid_loop_example_easel_impl_opRanges)], narrowed := true }
def FnOpGrayUptoSaid : Prop := fnOpGrayUptoRow.holds Tryd.pinned (OpenSpec.upto fnOpGraySpec)

/-- 'laws.FnOpSizeUp', WHERE WHAT IT READS IS OF BULK AT MOST 1048576: true; the input reads as it did. -/
def fnOpSizeUpUptoRow : OpenClaim := { program := "ythdggnfffebnlaadoor", sum := "bb0b33ef6ffaf24e13926e8f2d4837023c06138c4021348b6df82eadc49213b7", func := "loop.example/easel/laws.FnOpSizeUp", spec := "fnOpSizeUp", unfollowed := true, recurses := true, named := ["loop.example/easel/impl.opRanges"], apart := false, laid := [("loop.example/easel/impl.opRanges", laid_loop_example_easel_impl_opRanges)], narrowed := true }
def FnOpSizeUpUptoSaid : Prop := fnOpSizeUpUptoRow.holds Tryd.pinned (OpenSpec.upto fnOpSizeUpSpec)

/-- 'laws.FnOpSizeTwice', WHERE WHAT IT READS IS OF BULK AT MOST 1048576: true; the input reads as it did. -/
def fnOpSizeTwiceUptoRow : OpenClaim := { program := "ythdggnfffebnlaadoor", sum := "bb0b33ef6ffaf24e13926e8f2d4837023c06138c4021348b6df82eadc49213b7", func := "loop.example/easel/laws.FnOpSizeTwice", spec := "fnOpSizeTwice", unfollowed := true, recurses := true, named := ["loop.example/easel/impl.opRanges"], apart := false, laid := [("loop.example/easel/impl.opRanges", laid_loop_example_easel_impl_opRanges)], narrowed := true }
def FnOpSizeTwiceUptoSaid : Prop := fnOpSizeTwiceUptoRow.holds Tryd.pinned (OpenSpec.upto fnOpSizeTwiceSpec)

/-- 'laws.FnOpSizeBoth', WHERE WHAT IT READS IS OF BULK AT MOST 1048576: true; the input reads as it did. -/
def fnOpSizeBothUptoRow : OpenClaim := { program := "ythdggnfffebnlaadoor", sum := "bb0b33ef6ffaf24e13926e8f2d4837023c06138c4021348b6df82eadc49213b7", func := "loop.example/easel/laws.FnOpSizeBoth", spec := "fnOpSizeBoth", unfollowed := true, recurses := true, named := ["loop.example/easel/impl.opRanges"], apart := false, laid := [("loop.example/easel/impl.opRanges", laid_loop_example_easel_impl_opRanges)], narrowed := true }
def FnOpSizeBothUptoSaid : Prop := fnOpSizeBothUptoRow.holds Tryd.pinned (OpenSpec.upto fnOpSizeBothSpec)

/-- 'laws.FnOpCrop', WHERE WHAT IT READS IS OF BULK AT MOST 1048576: true; the input reads as it did. -/
def fnOpCropUptoRow : OpenClaim := { program := "ythdggnfffebnlaadoor", sum := "bb0b33ef6ffaf24e13926e8f2d4837023c06138c4021348b6df82eadc49213b7", func := "loop.example/easel/laws.FnOpCrop", spec := "fnOpCrop", unfollowed := true, recurses := true, named := ["loop.example/easel/impl.opRanges"], apart := false, laid := [("loop.example/easel/impl.opRanges", laid_loop_example_easel_impl_opRanges)], narrowed := true }
def FnOpCropUptoSaid : Prop := fnOpCropUptoRow.holds Tryd.pinned (OpenSpec.upto fnOpCropSpec)

/-- 'laws.FnOpCropFlip', WHERE WHAT IT READS IS OF BULK AT MOST 1048576: true; the input reads as it did. -/
def fnOpCropFlipUptoRow : OpenClaim := { program := "ythdggnfffebnlaadoor", sum := "bb0b33ef6ffaf24e13926e8f2d4837023c06138c4021348b6df82eadc49213b7", func := "loop.example/easel/laws.FnOpCropFlip", spec := "fnOpCropFlip", unfollowed := true, recurses := true, named := ["loop.example/easel/impl.opRanges"], apart := false, laid := [("loop.example/easel/impl.opRanges", laid_loop_example_easel_impl_opRanges)], narrowed := true }
def FnOpCropFlipUptoSaid : Prop := fnOpCropFlipUptoRow.holds Tryd.pinned (OpenSpec.upto fnOpCropFlipSpec)

/-- 'laws.FnOpFlat', WHERE WHAT IT READS IS OF BULK AT MOST 1048576: true; the input reads as it did. -/
def fnOpFlatUptoRow : OpenClaim := { program := "ythdggnfffebnlaadoor", sum := "bb0b33ef6ffaf24e13926e8f2d4837023c06138c4021348b6df82eadc49213b7", func := "loop.example/easel/laws.FnOpFlat", spec := "fnOpFlat", unfollowed := true, recurses := true, named := ["loop.example/easel/impl.opRanges"], apart := false, laid := [("loop.example/easel/impl.opRanges", laid_loop_example_easel_impl_opRanges)], narrowed := true }
def FnOpFlatUptoSaid : Prop := fnOpFlatUptoRow.holds Tryd.pinned (OpenSpec.upto fnOpFlatSpec)

/-- 'laws.FnOpBlurIn', WHERE WHAT IT READS IS OF BULK AT MOST 1048576: true; the input reads as it did. -/
def fnOpBlurInUptoRow : OpenClaim := { program := "ythdggnfffebnlaadoor", sum := "bb0b33ef6ffaf24e13926e8f2d4837023c06138c4021348b6df82eadc49213b7", func := "loop.example/easel/laws.FnOpBlurIn", spec := "fnOpBlurIn", unfollowed := true, recurses := true, named := ["loop.example/easel/impl.opRanges"], apart := false, laid := [("loop.example/easel/impl.opRanges", laid_loop_example_easel_impl_opRanges)], narrowed := true }
def FnOpBlurInUptoSaid : Prop := fnOpBlurInUptoRow.holds Tryd.pinned (OpenSpec.upto fnOpBlurInSpec)

end Rows
end Go.Proofs.YthdggnfffebnlaaDoor
