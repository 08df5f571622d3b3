/-
  NARROWER THAN 'FOR EVERY INPUT', by the rows' own cells (each row's printed sentence says how): FnExactOpsDo: laid · FnExactOpsFold: laid · FnOpsDo: laid · FnFoldShort: laid · FnFoldNone: laid · FnFoldCrop: laid · FnFoldKeep: laid.
  DERIVED. THE GIVEN ROWS OF THIS SEAT. 7 by the template 'for every input the law returns true; each argument reads behind the call as it read before'; 0 by the template 'total and deterministic' (their statements: YtiemlakjallphabDoorTotals.lean).
  GIVEN WITH THE SEED: the statements are not yours to turn. If you find one false, say at which input.
  Laid BY PROGRAM, IN A SANDBOX (cutbox-rows.mjs): the forced cells as the released guide's own fill.sh prints them over the translation d33a69ea11ae36f3… (all of the seat's roots in one cut). By AI agents, Wed Nov 11 2026. No macro, syntax, notation, axiom, sorry.
-/
import Derived.Test.YtiemlakjallphabDoorChecked
import GoSem.Claim
import GoSem.ClaimJoined
import GoSem.ClaimMapViews
import Derived.JoinedTies
import Derived.KernelRfl
namespace Go.Proofs.YtiemlakjallphabDoor
/- THE CELL 'sum', in the pinned program and in every row, IS THE sha256 OF THE DUMP (.gsa) THAT YtiemlakjallphabDoorProg.lean LOADS. Nothing in Lean hashes anything: it is a label: what it is worth is what the hold of that sum in a sandbox is worth. -/
noncomputable def Tryd.pinned : Pinned := { name := "ytiemlakjallphabdoor", sum := "d33a69ea11ae36f3541012b103d752ccd464ffe075640be5312a055cfcf80734", checked := Tryd.checked }
namespace Rows
def none {H : Type} : Left H := { results := [], args := [] }

/- WHAT THE LISTED PACKAGE-LEVEL VARIABLES READ AS WHEN THE CALL BEGINS. Each datum BY PROGRAM (the guide's laid-datum.mjs) off the statement by which the dump's own 'gosem.cut.vars' lays the variable. In a bare row this is a premise. The card (YtiemlakjallphabDoorCards.lean) ties it to the program's text. -/
def laid_loop_example_easel_impl_opRanges {H : Type} : DataW H := .agg [.agg [.agg [.lit (.int .i64 0), .lit (.int .i64 0)], .agg [.lit (.int .i64 0), .lit (.int .i64 0)], .agg [.lit (.int .i64 0), .lit (.int .i64 0)], .agg [.lit (.int .i64 0), .lit (.int .i64 0)]], .agg [.agg [.lit (.int .i64 0), .lit (.int .i64 5)], .agg [.lit (.int .i64 0), .lit (.int .i64 5)], .agg [.lit (.int .i64 1), .lit (.int .i64 6)], .agg [.lit (.int .i64 1), .lit (.int .i64 6)]], .agg [.agg [.lit (.int .i64 0), .lit (.int .i64 0)], .agg [.lit (.int .i64 0), .lit (.int .i64 0)], .agg [.lit (.int .i64 0), .lit (.int .i64 0)], .agg [.lit (.int .i64 0), .lit (.int .i64 0)]], .agg [.agg [.lit (.int .i64 0), .lit (.int .i64 0)], .agg [.lit (.int .i64 0), .lit (.int .i64 0)], .agg [.lit (.int .i64 0), .lit (.int .i64 0)], .agg [.lit (.int .i64 0), .lit (.int .i64 0)]], .agg [.agg [.lit (.int .i64 0), .lit (.int .i64 0)], .agg [.lit (.int .i64 0), .lit (.int .i64 0)], .agg [.lit (.int .i64 0), .lit (.int .i64 0)], .agg [.lit (.int .i64 0), .lit (.int .i64 0)]], .agg [.agg [.lit (.int .i64 0), .lit (.int .i64 0)], .agg [.lit (.int .i64 0), .lit (.int .i64 0)], .agg [.lit (.int .i64 0), .lit (.int .i64 0)], .agg [.lit (.int .i64 0), .lit (.int .i64 0)]], .agg [.agg [.lit (.int .i64 0), .lit (.int .i64 0)], .agg [.lit (.int .i64 0), .lit (.int .i64 0)], .agg [.lit (.int .i64 0), .lit (.int .i64 0)], .agg [.lit (.int .i64 0), .lit (.int .i64 0)]], .agg [.agg [.lit (.int .i64 1), .lit (.int .i64 6)], .agg [.lit (.int .i64 1), .lit (.int .i64 6)], .agg [.lit (.int .i64 0), .lit (.int .i64 0)], .agg [.lit (.int .i64 0), .lit (.int .i64 0)]], .agg [.agg [.lit (.int .i64 0), .lit (.int .i64 255)], .agg [.lit (.int .i64 0), .lit (.int .i64 255)], .agg [.lit (.int .i64 0), .lit (.int .i64 255)], .agg [.lit (.int .i64 0), .lit (.int .i64 0)]]]

/-- 'laws.FnExactOpsDo': WHATEVER THE INPUT: true; the input reads as it did. -/
def fnExactOpsDoSpec : ChangeSpec := { name := "fnExactOpsDo", vars := ["loop.example/easel/impl.opRanges"], fn := fun _ => fun
  | [d1, d2, g1] => { results := [.lit (.bool true)], args := [d1, d2], vars := [g1] }
  | _ => none }
def fnExactOpsDoRow : OpenClaim := { program := "ytiemlakjallphabdoor", sum := "d33a69ea11ae36f3541012b103d752ccd464ffe075640be5312a055cfcf80734", func := "loop.example/easel/laws.FnExactOpsDo", spec := "fnExactOpsDo", unfollowed := true, recurses := true, named := ["loop.example/easel/impl.opRanges"], apart := false, laid := [("loop.example/easel/impl.opRanges", laid_loop_example_easel_impl_opRanges)] }
def FnExactOpsDoSaid : Prop := fnExactOpsDoRow.holds Tryd.pinned (OpenSpec.ofChange fnExactOpsDoSpec)

/-- ITS FALSE NEIGHBOUR: 'it returns false'. Refute it at one input. -/
def fnExactOpsDoWrong : ChangeSpec := { name := "fnExactOpsDo", vars := ["loop.example/easel/impl.opRanges"], fn := fun _ => fun
  | [d1, d2, g1] => { results := [.lit (.bool false)], args := [d1, d2], vars := [g1] }
  | _ => none }
def FnExactOpsDoWrongFalsely : Prop := fnExactOpsDoRow.holds Tryd.pinned (OpenSpec.ofChange fnExactOpsDoWrong)

/-- 'laws.FnExactOpsFold': WHATEVER THE INPUT: true; the input reads as it did. -/
def fnExactOpsFoldSpec : ChangeSpec := { name := "fnExactOpsFold", vars := ["loop.example/easel/impl.opRanges"], fn := fun _ => fun
  | [d, g1] => { results := [.lit (.bool true)], args := [d], vars := [g1] }
  | _ => none }
def fnExactOpsFoldRow : OpenClaim := { program := "ytiemlakjallphabdoor", sum := "d33a69ea11ae36f3541012b103d752ccd464ffe075640be5312a055cfcf80734", func := "loop.example/easel/laws.FnExactOpsFold", spec := "fnExactOpsFold", unfollowed := true, recurses := true, named := ["loop.example/easel/impl.opRanges"], apart := false, laid := [("loop.example/easel/impl.opRanges", laid_loop_example_easel_impl_opRanges)] }
def FnExactOpsFoldSaid : Prop := fnExactOpsFoldRow.holds Tryd.pinned (OpenSpec.ofChange fnExactOpsFoldSpec)

/-- ITS FALSE NEIGHBOUR: 'it returns false'. Refute it at one input. -/
def fnExactOpsFoldWrong : ChangeSpec := { name := "fnExactOpsFold", vars := ["loop.example/easel/impl.opRanges"], fn := fun _ => fun
  | [d, g1] => { results := [.lit (.bool false)], args := [d], vars := [g1] }
  | _ => none }
def FnExactOpsFoldWrongFalsely : Prop := fnExactOpsFoldRow.holds Tryd.pinned (OpenSpec.ofChange fnExactOpsFoldWrong)

/-- 'laws.FnOpsDo': WHATEVER THE INPUT: true; the input reads as it did. -/
def fnOpsDoSpec : ChangeSpec := { name := "fnOpsDo", vars := ["loop.example/easel/impl.opRanges"], fn := fun _ => fun
  | [d, g1] => { results := [.lit (.bool true)], args := [d], vars := [g1] }
  | _ => none }
def fnOpsDoRow : OpenClaim := { program := "ytiemlakjallphabdoor", sum := "d33a69ea11ae36f3541012b103d752ccd464ffe075640be5312a055cfcf80734", func := "loop.example/easel/laws.FnOpsDo", spec := "fnOpsDo", unfollowed := true, recurses := true, named := ["loop.example/easel/impl.opRanges"], apart := false, laid := [("loop.example/easel/impl.opRanges", laid_loop_example_easel_impl_opRanges)] }
def FnOpsDoSaid : Prop := fnOpsDoRow.holds Tryd.pinned (OpenSpec.ofChange fnOpsDoSpec)

/-- ITS FALSE NEIGHBOUR: 'it returns false'. Refute it at one input. -/
def fnOpsDoWrong : ChangeSpec := { name := "fnOpsDo", vars := ["loop.example/easel/impl.opRanges"], fn := fun _ => fun
  | [d, g1] => { results := [.lit (.bool false)], args := [d], vars := [g1] }
  | _ => none }
def FnOpsDoWrongFalsely : Prop := fnOpsDoRow.holds Tryd.pinned (OpenSpec.ofChange fnOpsDoWrong)

/-- 'laws.FnFoldShort': WHATEVER THE INPUT: true; the input reads as it did. -/
def fnFoldShortSpec : ChangeSpec := { name := "fnFoldShort", vars := ["loop.example/easel/impl.opRanges"], fn := fun _ => fun
  | [d, g1] => { results := [.lit (.bool true)], args := [d], vars := [g1] }
  | _ => none }
def fnFoldShortRow : OpenClaim := { program := "ytiemlakjallphabdoor", sum := "d33a69ea11ae36f3541012b103d752ccd464ffe075640be5312a055cfcf80734", func := "loop.example/easel/laws.FnFoldShort", spec := "fnFoldShort", unfollowed := true, recurses := true, named := ["loop.example/easel/impl.opRanges"], apart := false, laid := [("loop.example/easel/impl.opRanges", laid_loop_example_easel_impl_opRanges)] }
def FnFoldShortSaid : Prop := fnFoldShortRow.holds Tryd.pinned (OpenSpec.ofChange fnFoldShortSpec)

/-- ITS FALSE NEIGHBOUR: 'it returns false'. Refute it at one input. -/
def fnFoldShortWrong : ChangeSpec := { name := "fnFoldShort", vars := ["loop.example/easel/impl.opRanges"], fn := fun _ => fun
  | [d, g1] => { results := [.lit (.bool false)], args := [d], vars := [g1] }
  | _ => none }
def FnFoldShortWrongFalsely : Prop := fnFoldShortRow.holds Tryd.pinned (OpenSpec.ofChange fnFoldShortWrong)

/-- 'laws.FnFoldNone': WHATEVER THE INPUT: true; the input reads as it did. -/
def fnFoldNoneSpec : ChangeSpec := { name := "fnFoldNone", vars := ["loop.example/easel/impl.opRanges"], fn := fun _ => fun
  | [d, g1] => { results := [.lit (.bool true)], args := [d], vars := [g1] }
  | _ => none }
def fnFoldNoneRow : OpenClaim := { program := "ytiemlakjallphabdoor", sum := "d33a69ea11ae36f3541012b103d752ccd464ffe075640be5312a055cfcf80734", func := "loop.example/easel/laws.FnFoldNone", spec := "fnFoldNone", unfollowed := true, recurses := true, named := ["loop.example/easel/impl.opRanges"], apart := false, laid := [("loop.example/easel/impl.opRanges", laid_loop_example_easel_impl_opRanges)] }
def FnFoldNoneSaid : Prop := fnFoldNoneRow.holds Tryd.pinned (OpenSpec.ofChange fnFoldNoneSpec)

/-- ITS FALSE NEIGHBOUR: 'it returns false'. Refute it at one input. -/
def fnFoldNoneWrong : ChangeSpec := { name := "fnFoldNone", vars := ["loop.example/easel/impl.opRanges"], fn := fun _ => fun
  | [d, g1] => { results := [.lit (.bool false)], args := [d], vars := [g1] }
  | _ => none }
def FnFoldNoneWrongFalsely : Prop := fnFoldNoneRow.holds Tryd.pinned (OpenSpec.ofChange fnFoldNoneWrong)

/-- 'laws.FnFoldCrop': WHATEVER THE INPUT: true; the input reads as it did. -/
def fnFoldCropSpec : ChangeSpec := { name := "fnFoldCrop", vars := ["loop.example/easel/impl.opRanges"], fn := fun _ => fun
  | [d, g1] => { results := [.lit (.bool true)], args := [d], vars := [g1] }
  | _ => none }
def fnFoldCropRow : OpenClaim := { program := "ytiemlakjallphabdoor", sum := "d33a69ea11ae36f3541012b103d752ccd464ffe075640be5312a055cfcf80734", func := "loop.example/easel/laws.FnFoldCrop", spec := "fnFoldCrop", unfollowed := true, recurses := true, named := ["loop.example/easel/impl.opRanges"], apart := false, laid := [("loop.example/easel/impl.opRanges", laid_loop_example_easel_impl_opRanges)] }
def FnFoldCropSaid : Prop := fnFoldCropRow.holds Tryd.pinned (OpenSpec.ofChange fnFoldCropSpec)

/-- ITS FALSE NEIGHBOUR: 'it returns false'. Refute it at one input. -/
def fnFoldCropWrong : ChangeSpec := { name := "fnFoldCrop", vars := ["loop.example/easel/impl.opRanges"], fn := fun _ => fun
  | [d, g1] => { results := [.lit (.bool false)], args := [d], vars := [g1] }
  | _ => none }
def FnFoldCropWrongFalsely : Prop := fnFoldCropRow.holds Tryd.pinned (OpenSpec.ofChange fnFoldCropWrong)

/-- 'laws.FnFoldKeep': WHATEVER THE INPUT: true; the input reads as it did. -/
def fnFoldKeepSpec : ChangeSpec := { name := "fnFoldKeep", vars := ["loop.example/easel/impl.opRanges"], fn := fun _ => fun
  | [d, g1] => { results := [.lit (.bool true)], args := [d], vars := [g1] }
  | _ => none }
def fnFoldKeepRow : OpenClaim := { program := "ytiemlakjallphabdoor", sum := "d33a69ea11ae36f3541012b103d752ccd464ffe075640be5312a055cfcf80734", func := "loop.example/easel/laws.FnFoldKeep", spec := "fnFoldKeep", unfollowed := true, recurses := true, named := ["loop.example/easel/impl.opRanges"], apart := false, laid := [("loop.example/easel/impl.opRanges", laid_loop_example_easel_impl_opRanges)] }
def FnFoldKeepSaid : Prop := fnFoldKeepRow.holds Tryd.pinned (OpenSpec.ofChange fnFoldKeepSpec)

/-- ITS FALSE NEIGHBOUR: 'it returns false'. Refute it at one input. -/
def fnFoldKeepWrong : ChangeSpec := { name := "fnFoldKeep", vars := ["loop.example/easel/impl.opRanges"], fn := fun _ => fun
  | [d, g1] => { results := [.lit (.bool false)], args := [d], vars := [g1] }
  | _ => none }
def FnFoldKeepWrongFalsely : Prop := fnFoldKeepRow.holds Tryd.pinned (OpenSpec.ofChange fnFoldKeepWrong)

/- THE SECOND FORM. 'bulk': how many values and letters a reading holds, each counted each time it is reached (what is shared counts as often as it is met; a slice's spare places count too). A statement '..UptoSaid' is the law's where the arguments, and the package variables that the reading takes, are together of bulk at most 1048576: NARROWER than '..Said'. Prove '..Said' where nothing that the law and all that it calls make is longer than what came in: it says more and counts as full. Else prove '..UptoSaid'. A law counts once. -/
mutual
def uptoBulk {H : Type} : DataW H → Nat
  | .lit (.string bytes) => bytes.length + 1
  | .lit _ => 1
  | .nil => 1
  | .ptr d => uptoBulk d + 1
  | .slice elems spare => uptoBulkAll elems + uptoBulkAll spare + 1
  | .agg parts => uptoBulkAll parts + 1
  | .iface _ d => uptoBulk d + 1
  | .map entries => uptoBulkEntries entries + 1
  | .held _ => 1
def uptoBulkAll {H : Type} : List (DataW H) → Nat
  | [] => 0
  | d :: r => uptoBulk d + uptoBulkAll r
def uptoBulkEntries {H : Type} : List (Lit × DataW H) → Nat
  | [] => 0
  | x :: r => uptoBulkEntry x + uptoBulkEntries r
def uptoBulkEntry {H : Type} : Lit × DataW H → Nat
  | (.string bytes, d) => bytes.length + uptoBulk d + 1
  | (_, d) => uptoBulk d + 1
 end
def uptoSmall : (H : Type) → List (DataW H) → Bool := fun _ ds => decide (uptoBulkAll ds ≤ 1048576)
def OpenSpec.upto (s : _root_.Go.ChangeSpec) : _root_.Go.OpenSpec := { _root_.Go.OpenSpec.ofChange s with cond := some uptoSmall }

/-- 'laws.FnExactOpsDo', WHERE WHAT IT READS IS OF BULK AT MOST 1048576: true; the input reads as it did. -/
def fnExactOpsDoUptoRow : OpenClaim := { program := "ytiemlakjallphabdoor", sum := "d33a69ea11ae36f3541012b103d752ccd464ffe075640be5312a055cfcf80734", func := "loop.example/easel/laws.FnExactOpsDo", spec := "fnExactOpsDo", unfollowed := true, recurses := true, named := ["loop.example/easel/impl.opRanges"], apart := false, laid := [("loop.example/easel/impl.opRanges", laid_loop_example_easel_impl_opRanges)], narrowed := true }
def FnExactOpsDoUptoSaid : Prop := fnExactOpsDoUptoRow.holds Tryd.pinned (OpenSpec.upto fnExactOpsDoSpec)

/-- 'laws.FnExactOpsFold', WHERE WHAT IT READS IS OF BULK AT MOST 1048576: true; the input reads as it did. -/
def fnExactOpsFoldUptoRow : OpenClaim := { program := "ytiemlakjallphabdoor", sum := "d33a69ea11ae36f3541012b103d752ccd464ffe075640be5312a055cfcf80734", func := "loop.example/easel/laws.FnExactOpsFold", spec := "fnExactOpsFold", unfollowed := true, recurses := true, named := ["loop.example/easel/impl.opRanges"], apart := false, laid := [("loop.example/easel/impl.opRanges", laid_loop_example_easel_impl_opRanges)], narrowed := true }
def FnExactOpsFoldUptoSaid : Prop := fnExactOpsFoldUptoRow.holds Tryd.pinned (OpenSpec.upto fnExactOpsFoldSpec)

/-- 'laws.FnOpsDo', WHERE WHAT IT READS IS OF BULK AT MOST 1048576: true; the input reads as it did. -/
def fnOpsDoUptoRow : OpenClaim := { program := "ytiemlakjallphabdoor", sum := "d33a69ea11ae36f3541012b103d752ccd464ffe075640be5312a055cfcf80734", func := "loop.example/easel/laws.FnOpsDo", spec := "fnOpsDo", unfollowed := true, recurses := true, named := ["loop.example/easel/impl.opRanges"], apart := false, laid := [("loop.example/easel/impl.opRanges", laid_loop_example_easel_impl_opRanges)], narrowed := true }
def FnOpsDoUptoSaid : Prop := fnOpsDoUptoRow.holds Tryd.pinned (OpenSpec.upto fnOpsDoSpec)

/-- 'laws.FnFoldShort', WHERE WHAT IT READS IS OF BULK AT MOST 1048576: true; the input reads as it did. -/
def fnFoldShortUptoRow : OpenClaim := { program := "ytiemlakjallphabdoor", sum := "d33a69ea11ae36f3541012b103d752ccd464ffe075640be5312a055cfcf80734", func := "loop.example/easel/laws.FnFoldShort", spec := "fnFoldShort", unfollowed := true, recurses := true, named := ["loop.example/easel/impl.opRanges"], apart := false, laid := [("loop.example/easel/impl.opRanges", laid_loop_example_easel_impl_opRanges)], narrowed := true }
def FnFoldShortUptoSaid : Prop := fnFoldShortUptoRow.holds Tryd.pinned (OpenSpec.upto fnFoldShortSpec)

/-- 'laws.FnFoldNone', WHERE WHAT IT READS IS OF BULK AT MOST 1048576: true; the input reads as it did. -/
def fnFoldNoneUptoRow : OpenClaim := { program := "ytiemlakjallphabdoor", sum := "d33a69ea11ae36f3541012b103d752ccd464ffe075640be5312a055cfcf80734", func := "loop.example/easel/laws.FnFoldNone", spec := "fnFoldNone", unfollowed := true, recurses := true, named := ["loop.example/easel/impl.opRanges"], apart := false, laid := [("loop.example/easel/impl.opRanges", laid_loop_example_easel_impl_opRanges)], narrowed := true }
def FnFoldNoneUptoSaid : Prop := fnFoldNoneUptoRow.holds Tryd.pinned (OpenSpec.upto fnFoldNoneSpec)

/-- 'laws.FnFoldCrop', WHERE WHAT IT READS IS OF BULK AT MOST 1048576: true; the input reads as it did. -/
def fnFoldCropUptoRow : OpenClaim := { program := "ytiemlakjallphabdoor", sum := "d33a69ea11ae36f3541012b103d752ccd464ffe075640be5312a055cfcf80734", func := "loop.example/easel/laws.FnFoldCrop", spec := "fnFoldCrop", unfollowed := true, recurses := true, named := ["loop.example/easel/impl.opRanges"], apart := false, laid := [("loop.example/easel/impl.opRanges", laid_loop_example_easel_impl_opRanges)], narrowed := true }
def FnFoldCropUptoSaid : Prop := fnFoldCropUptoRow.holds Tryd.pinned (OpenSpec.upto fnFoldCropSpec)

/-- 'laws.FnFoldKeep', WHERE WHAT IT READS IS OF BULK AT MOST 1048576: true; the input reads as it did. -/
def fnFoldKeepUptoRow : OpenClaim := { program := "ytiemlakjallphabdoor", sum := "d33a69ea11ae36f3541012b103d752ccd464ffe075640be5312a055cfcf80734", func := "loop.example/easel/laws.FnFoldKeep", spec := "fnFoldKeep", unfollowed := true, recurses := true, named := ["loop.example/easel/impl.opRanges"], apart := false, laid := [("loop.example/easel/impl.opRanges", laid_loop_example_easel_impl_opRanges)], narrowed := true }
def FnFoldKeepUptoSaid : Prop := fnFoldKeepUptoRow.holds Tryd.pinned (OpenSpec.upto fnFoldKeepSpec)

end Rows
end Go.Proofs.YtiemlakjallphabDoor
