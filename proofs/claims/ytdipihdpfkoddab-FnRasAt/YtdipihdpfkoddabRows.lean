/-
  No cell of these rows narrows 'for every input' (looked for: loops, veiled, ifaces, maps, wideKeys, modest, calm, conditions, laid).
  DERIVED. THE GIVEN ROWS OF THIS SEAT. 5 by the template 'for every input the law returns true; each argument reads behind the call as it read before'; 0 by the template 'total and deterministic' (their statements: YtdipihdpfkoddabTotals.lean).
  GIVEN WITH THE SEED: the statements are not yours to turn. If you find one false, say at which input.
  Laid BY PROGRAM, IN A SANDBOX (cutbox-rows.mjs): the forced cells as the released guide's own fill.sh prints them over the translation 7fc9b8d25b1fc6e6… (all of the seat's roots in one cut). By AI agents, Wed Nov 11 2026. No macro, syntax, notation, axiom, sorry.
-/
import Derived.Test.YtdipihdpfkoddabChecked
import GoSem.Claim
import GoSem.ClaimJoined
import GoSem.ClaimMapViews
import Derived.JoinedTies
import Derived.KernelRfl
namespace Go.Proofs.Ytdipihdpfkoddab
/- THE CELL 'sum', in the pinned program and in every row, IS THE sha256 OF THE DUMP (.gsa) THAT YtdipihdpfkoddabProg.lean LOADS. Nothing in Lean hashes anything: it is a label: what it is worth is what the hold of that sum in a sandbox is worth. -/
noncomputable def Try.pinned : Pinned := { name := "ytdipihdpfkoddab", sum := "7fc9b8d25b1fc6e6e7945e06e035d595e4365213a2524563ba028993e29c14a9", checked := Try.checked }
namespace Rows
def none {H : Type} : Left H := { results := [], args := [] }

/-- 'laws.FnRasOk': WHATEVER THE INPUT: true; the input reads as it did. -/
def fnRasOkSpec : ChangeSpec := { name := "fnRasOk", fn := fun _ => fun
  | [d] => { results := [.lit (.bool true)], args := [d] }
  | _ => none }
def fnRasOkRow : OpenClaim := { program := "ytdipihdpfkoddab", sum := "7fc9b8d25b1fc6e6e7945e06e035d595e4365213a2524563ba028993e29c14a9", func := "loop.example/easel/laws.FnRasOk", spec := "fnRasOk", apart := false }
def FnRasOkSaid : Prop := fnRasOkRow.holds Try.pinned (OpenSpec.ofChange fnRasOkSpec)

/-- ITS FALSE NEIGHBOUR: 'it returns false'. Refute it at one input. -/
def fnRasOkWrong : ChangeSpec := { name := "fnRasOk", fn := fun _ => fun
  | [d] => { results := [.lit (.bool false)], args := [d] }
  | _ => none }
def FnRasOkWrongFalsely : Prop := fnRasOkRow.holds Try.pinned (OpenSpec.ofChange fnRasOkWrong)

/-- 'laws.FnRasAt': WHATEVER THE INPUT: true; the input reads as it did. -/
def fnRasAtSpec : ChangeSpec := { name := "fnRasAt", fn := fun _ => fun
  | [d] => { results := [.lit (.bool true)], args := [d] }
  | _ => none }
def fnRasAtRow : OpenClaim := { program := "ytdipihdpfkoddab", sum := "7fc9b8d25b1fc6e6e7945e06e035d595e4365213a2524563ba028993e29c14a9", func := "loop.example/easel/laws.FnRasAt", spec := "fnRasAt", apart := false }
def FnRasAtSaid : Prop := fnRasAtRow.holds Try.pinned (OpenSpec.ofChange fnRasAtSpec)

/-- ITS FALSE NEIGHBOUR: 'it returns false'. Refute it at one input. -/
def fnRasAtWrong : ChangeSpec := { name := "fnRasAt", fn := fun _ => fun
  | [d] => { results := [.lit (.bool false)], args := [d] }
  | _ => none }
def FnRasAtWrongFalsely : Prop := fnRasAtRow.holds Try.pinned (OpenSpec.ofChange fnRasAtWrong)

/-- 'laws.FnRasBytes': WHATEVER THE INPUT: true; the input reads as it did. -/
def fnRasBytesSpec : ChangeSpec := { name := "fnRasBytes", fn := fun _ => fun
  | [d1, d2] => { results := [.lit (.bool true)], args := [d1, d2] }
  | _ => none }
def fnRasBytesRow : OpenClaim := { program := "ytdipihdpfkoddab", sum := "7fc9b8d25b1fc6e6e7945e06e035d595e4365213a2524563ba028993e29c14a9", func := "loop.example/easel/laws.FnRasBytes", spec := "fnRasBytes", apart := false }
def FnRasBytesSaid : Prop := fnRasBytesRow.holds Try.pinned (OpenSpec.ofChange fnRasBytesSpec)

/-- ITS FALSE NEIGHBOUR: 'it returns false'. Refute it at one input. -/
def fnRasBytesWrong : ChangeSpec := { name := "fnRasBytes", fn := fun _ => fun
  | [d1, d2] => { results := [.lit (.bool false)], args := [d1, d2] }
  | _ => none }
def FnRasBytesWrongFalsely : Prop := fnRasBytesRow.holds Try.pinned (OpenSpec.ofChange fnRasBytesWrong)

/-- 'laws.FnExactPixOk': WHATEVER THE INPUT: true; the input reads as it did. -/
def fnExactPixOkSpec : ChangeSpec := { name := "fnExactPixOk", fn := fun _ => fun
  | [d] => { results := [.lit (.bool true)], args := [d] }
  | _ => none }
def fnExactPixOkRow : OpenClaim := { program := "ytdipihdpfkoddab", sum := "7fc9b8d25b1fc6e6e7945e06e035d595e4365213a2524563ba028993e29c14a9", func := "loop.example/easel/laws.FnExactPixOk", spec := "fnExactPixOk", apart := false }
def FnExactPixOkSaid : Prop := fnExactPixOkRow.holds Try.pinned (OpenSpec.ofChange fnExactPixOkSpec)

/-- ITS FALSE NEIGHBOUR: 'it returns false'. Refute it at one input. -/
def fnExactPixOkWrong : ChangeSpec := { name := "fnExactPixOk", fn := fun _ => fun
  | [d] => { results := [.lit (.bool false)], args := [d] }
  | _ => none }
def FnExactPixOkWrongFalsely : Prop := fnExactPixOkRow.holds Try.pinned (OpenSpec.ofChange fnExactPixOkWrong)

/-- 'laws.FnExactRasOk': WHATEVER THE INPUT: true; the input reads as it did. -/
def fnExactRasOkSpec : ChangeSpec := { name := "fnExactRasOk", fn := fun _ => fun
  | [d] => { results := [.lit (.bool true)], args := [d] }
  | _ => none }
def fnExactRasOkRow : OpenClaim := { program := "ytdipihdpfkoddab", sum := "7fc9b8d25b1fc6e6e7945e06e035d595e4365213a2524563ba028993e29c14a9", func := "loop.example/easel/laws.FnExactRasOk", spec := "fnExactRasOk", apart := false }
def FnExactRasOkSaid : Prop := fnExactRasOkRow.holds Try.pinned (OpenSpec.ofChange fnExactRasOkSpec)

/-- ITS FALSE NEIGHBOUR: 'it returns false'. Refute it at one input. -/
def fnExactRasOkWrong : ChangeSpec := { name := "fnExactRasOk", fn := fun _ => fun
  | [d] => { results := [.lit (.bool false)], args := [d] }
  | _ => none }
def FnExactRasOkWrongFalsely : Prop := fnExactRasOkRow.holds Try.pinned (OpenSpec.ofChange fnExactRasOkWrong)

/- THE SECOND FORM. 'bulk': how many values and letters a reading holds, each counted each time it is reached (what is shared counts as often as it is met; a slice's spare places count too). A statement '..UptoSaid' is the law's where the arguments, and the package variables that the reading takes, are together of bulk at most 1048576: NARROWER than '..Said'. Prove '..Said' where nothing that the law and all that it calls make is longer than what came in: it says more and counts as full. Else prove '..UptoSaid'. A law counts once. -/
mutual
def uptoBulk {H : Type} : DataW H → Nat
  | .lit (.string bytes) => bytes.length + 1
  | .lit _ => 1
  | .nil => 1
  | .ptr d => uptoBulk d + 1
  | .slice elems spare => uptoBulkAll elems + uptoBulkAll spare + 1
  | .agg parts => uptoBulkAll parts + 1
  | .iface _ d => uptoBulk d + 1
  | .map entries => uptoBulkEntries entries + 1
  | .held _ => 1
def uptoBulkAll {H : Type} : List (DataW H) → Nat
  | [] => 0
  | d :: r => uptoBulk d + uptoBulkAll r
def uptoBulkEntries {H : Type} : List (Lit × DataW H) → Nat
  | [] => 0
  | x :: r => uptoBulkEntry x + uptoBulkEntries r
def uptoBulkEntry {H : Type} : Lit × DataW H → Nat
  | (.string bytes, d) => bytes.length + uptoBulk d + 1
  | (_, d) => uptoBulk d + 1
 end
def uptoSmall : (H : Type) → List (DataW H) → Bool := fun _ ds => decide (uptoBulkAll ds ≤ 1048576)
def OpenSpec.upto (s : _root_.Go.ChangeSpec) : _root_.Go.OpenSpec := { _root_.Go.OpenSpec.ofChange s with cond := some uptoSmall }

/-- 'laws.FnRasOk', WHERE WHAT IT READS IS OF BULK AT MOST 1048576: true; the input reads as it did. -/
def fnRasOkUptoRow : OpenClaim := { program := "ytdipihdpfkoddab", sum := "7fc9b8d25b1fc6e6e7945e06e035d595e4365213a2524563ba028993e29c14a9", func := "loop.example/easel/laws.FnRasOk", spec := "fnRasOk", apart := false, narrowed := true }
def FnRasOkUptoSaid : Prop := fnRasOkUptoRow.holds Try.pinned (OpenSpec.upto fnRasOkSpec)

/-- 'laws.FnRasAt', WHERE WHAT IT READS IS OF BULK AT MOST 1048576: true; the input reads as it did. -/
def fnRasAtUptoRow : OpenClaim := { program := "ytdipihdpfkoddab", sum := "7fc9b8d25b1fc6e6e7945e06e035d595e4365213a2524563ba028993e29c14a9", func := "loop.example/easel/laws.FnRasAt", spec := "fnRasAt", apart := false, narrowed := true }
def FnRasAtUptoSaid : Prop := fnRasAtUptoRow.holds Try.pinned (OpenSpec.upto fnRasAtSpec)

/-- 'laws.FnRasBytes', WHERE WHAT IT READS IS OF BULK AT MOST 1048576: true; the input reads as it did. -/
def fnRasBytesUptoRow : OpenClaim := { program := "ytdipihdpfkoddab", sum := "7fc9b8d25b1fc6e6e7945e06e035d595e4365213a2524563ba028993e29c14a9", func := "loop.example/easel/laws.FnRasBytes", spec := "fnRasBytes", apart := false, narrowed := true }
def FnRasBytesUptoSaid : Prop := fnRasBytesUptoRow.holds Try.pinned (OpenSpec.upto fnRasBytesSpec)

/-- 'laws.FnExactPixOk', WHERE WHAT IT READS IS OF BULK AT MOST 1048576: true; the input reads as it did. -/
def fnExactPixOkUptoRow : OpenClaim := { program := "ytdipihdpfkoddab", sum := "7fc9b8d25b1fc6e6e7945e06e035d595e4365213a2524563ba028993e29c14a9", func := "loop.example/easel/laws.FnExactPixOk", spec := "fnExactPixOk", apart := false, narrowed := true }
def FnExactPixOkUptoSaid : Prop := fnExactPixOkUptoRow.holds Try.pinned (OpenSpec.upto fnExactPixOkSpec)

/-- 'laws.FnExactRasOk', WHERE WHAT IT READS IS OF BULK AT MOST 1048576: true; the input reads as it did. -/
def fnExactRasOkUptoRow : OpenClaim := { program := "ytdipihdpfkoddab", sum := "7fc9b8d25b1fc6e6e7945e06e035d595e4365213a2524563ba028993e29c14a9", func := "loop.example/easel/laws.FnExactRasOk", spec := "fnExactRasOk", apart := false, narrowed := true }
def FnExactRasOkUptoSaid : Prop := fnExactRasOkUptoRow.holds Try.pinned (OpenSpec.upto fnExactRasOkSpec)

end Rows
end Go.Proofs.Ytdipihdpfkoddab
