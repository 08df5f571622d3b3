/-
  NARROWER THAN 'FOR EVERY INPUT', by the rows' own cells (each row's printed sentence says how): FnExactOpText: laid · FnExactOpRead: laid · FnExactAskOk: laid · FnExactAskText: laid · FnExactUrlText: laid · FnExactAskRead: laid · FnOpText: laid · FnAskText: laid.
  DERIVED. THE GIVEN ROWS OF THIS SEAT. 8 by the template 'for every input the law returns true; each argument reads behind the call as it read before'; 0 by the template 'total and deterministic' (their statements: YtbejafbpipdbjaaDoorTotals.lean).
  GIVEN WITH THE SEED: the statements are not yours to turn. If you find one false, say at which input.
  Laid BY PROGRAM, IN A SANDBOX (cutbox-rows.mjs): the forced cells as the released guide's own fill.sh prints them over the translation 5e533afeac5e19cd… (all of the seat's roots in one cut). By AI agents, Wed Nov 11 2026. No macro, syntax, notation, axiom, sorry.
-/
import Derived.Test.YtbejafbpipdbjaaDoorChecked
import GoSem.Claim
import GoSem.ClaimJoined
import GoSem.ClaimMapViews
import Derived.JoinedTies
import Derived.KernelRfl
namespace Go.Proofs.YtbejafbpipdbjaaDoor
/- THE CELL 'sum', in the pinned program and in every row, IS THE sha256 OF THE DUMP (.gsa) THAT YtbejafbpipdbjaaDoorProg.lean LOADS. Nothing in Lean hashes anything: it is a label: what it is worth is what the hold of that sum in a sandbox is worth. -/
noncomputable def Tryd.pinned : Pinned := { name := "ytbejafbpipdbjaadoor", sum := "5e533afeac5e19cd114cba2942835de29a957478937fa89fda15e05911b992ff", checked := Tryd.checked }
namespace Rows
def none {H : Type} : Left H := { results := [], args := [] }

/- WHAT THE LISTED PACKAGE-LEVEL VARIABLES READ AS WHEN THE CALL BEGINS. Each datum BY PROGRAM (the guide's laid-datum.mjs) off the statement by which the dump's own 'gosem.cut.vars' lays the variable. In a bare row this is a premise. The card (YtbejafbpipdbjaaDoorCards.lean) ties it to the program's text. -/
def laid_math_bits_deBruijn32tab {H : Type} : DataW H := .agg [.lit (.int .u8 0), .lit (.int .u8 1), .lit (.int .u8 28), .lit (.int .u8 2), .lit (.int .u8 29), .lit (.int .u8 14), .lit (.int .u8 24), .lit (.int .u8 3), .lit (.int .u8 30), .lit (.int .u8 22), .lit (.int .u8 20), .lit (.int .u8 15), .lit (.int .u8 25), .lit (.int .u8 17), .lit (.int .u8 4), .lit (.int .u8 8), .lit (.int .u8 31), .lit (.int .u8 27), .lit (.int .u8 13), .lit (.int .u8 23), .lit (.int .u8 21), .lit (.int .u8 19), .lit (.int .u8 16), .lit (.int .u8 7), .lit (.int .u8 26), .lit (.int .u8 12), .lit (.int .u8 18), .lit (.int .u8 6), .lit (.int .u8 11), .lit (.int .u8 5), .lit (.int .u8 10), .lit (.int .u8 9)]
def laid_math_bits_deBruijn64tab {H : Type} : DataW H := .agg [.lit (.int .u8 0), .lit (.int .u8 1), .lit (.int .u8 56), .lit (.int .u8 2), .lit (.int .u8 57), .lit (.int .u8 49), .lit (.int .u8 28), .lit (.int .u8 3), .lit (.int .u8 61), .lit (.int .u8 58), .lit (.int .u8 42), .lit (.int .u8 50), .lit (.int .u8 38), .lit (.int .u8 29), .lit (.int .u8 17), .lit (.int .u8 4), .lit (.int .u8 62), .lit (.int .u8 47), .lit (.int .u8 59), .lit (.int .u8 36), .lit (.int .u8 45), .lit (.int .u8 43), .lit (.int .u8 51), .lit (.int .u8 22), .lit (.int .u8 53), .lit (.int .u8 39), .lit (.int .u8 33), .lit (.int .u8 30), .lit (.int .u8 24), .lit (.int .u8 18), .lit (.int .u8 12), .lit (.int .u8 5), .lit (.int .u8 63), .lit (.int .u8 55), .lit (.int .u8 48), .lit (.int .u8 27), .lit (.int .u8 60), .lit (.int .u8 41), .lit (.int .u8 37), .lit (.int .u8 16), .lit (.int .u8 46), .lit (.int .u8 35), .lit (.int .u8 44), .lit (.int .u8 21), .lit (.int .u8 52), .lit (.int .u8 32), .lit (.int .u8 23), .lit (.int .u8 11), .lit (.int .u8 54), .lit (.int .u8 26), .lit (.int .u8 40), .lit (.int .u8 15), .lit (.int .u8 34), .lit (.int .u8 20), .lit (.int .u8 31), .lit (.int .u8 10), .lit (.int .u8 25), .lit (.int .u8 14), .lit (.int .u8 19), .lit (.int .u8 9), .lit (.int .u8 13), .lit (.int .u8 8), .lit (.int .u8 7), .lit (.int .u8 6)]
def laid_internal_strconv_uint64pow10 {H : Type} : DataW H := .agg [.lit (.int .u64 1), .lit (.int .u64 10), .lit (.int .u64 100), .lit (.int .u64 1000), .lit (.int .u64 10000), .lit (.int .u64 100000), .lit (.int .u64 1000000), .lit (.int .u64 10000000), .lit (.int .u64 100000000), .lit (.int .u64 1000000000), .lit (.int .u64 10000000000), .lit (.int .u64 100000000000), .lit (.int .u64 1000000000000), .lit (.int .u64 10000000000000), .lit (.int .u64 100000000000000), .lit (.int .u64 1000000000000000), .lit (.int .u64 10000000000000000), .lit (.int .u64 100000000000000000), .lit (.int .u64 1000000000000000000), .lit (.int .u64 10000000000000000000)]
def laid_loop_example_easel_impl_opRanges {H : Type} : DataW H := .agg [.agg [.agg [.lit (.int .i64 0), .lit (.int .i64 0)], .agg [.lit (.int .i64 0), .lit (.int .i64 0)], .agg [.lit (.int .i64 0), .lit (.int .i64 0)], .agg [.lit (.int .i64 0), .lit (.int .i64 0)]], .agg [.agg [.lit (.int .i64 0), .lit (.int .i64 5)], .agg [.lit (.int .i64 0), .lit (.int .i64 5)], .agg [.lit (.int .i64 1), .lit (.int .i64 6)], .agg [.lit (.int .i64 1), .lit (.int .i64 6)]], .agg [.agg [.lit (.int .i64 0), .lit (.int .i64 0)], .agg [.lit (.int .i64 0), .lit (.int .i64 0)], .agg [.lit (.int .i64 0), .lit (.int .i64 0)], .agg [.lit (.int .i64 0), .lit (.int .i64 0)]], .agg [.agg [.lit (.int .i64 0), .lit (.int .i64 0)], .agg [.lit (.int .i64 0), .lit (.int .i64 0)], .agg [.lit (.int .i64 0), .lit (.int .i64 0)], .agg [.lit (.int .i64 0), .lit (.int .i64 0)]], .agg [.agg [.lit (.int .i64 0), .lit (.int .i64 0)], .agg [.lit (.int .i64 0), .lit (.int .i64 0)], .agg [.lit (.int .i64 0), .lit (.int .i64 0)], .agg [.lit (.int .i64 0), .lit (.int .i64 0)]], .agg [.agg [.lit (.int .i64 0), .lit (.int .i64 0)], .agg [.lit (.int .i64 0), .lit (.int .i64 0)], .agg [.lit (.int .i64 0), .lit (.int .i64 0)], .agg [.lit (.int .i64 0), .lit (.int .i64 0)]], .agg [.agg [.lit (.int .i64 0), .lit (.int .i64 0)], .agg [.lit (.int .i64 0), .lit (.int .i64 0)], .agg [.lit (.int .i64 0), .lit (.int .i64 0)], .agg [.lit (.int .i64 0), .lit (.int .i64 0)]], .agg [.agg [.lit (.int .i64 1), .lit (.int .i64 6)], .agg [.lit (.int .i64 1), .lit (.int .i64 6)], .agg [.lit (.int .i64 0), .lit (.int .i64 0)], .agg [.lit (.int .i64 0), .lit (.int .i64 0)]], .agg [.agg [.lit (.int .i64 0), .lit (.int .i64 255)], .agg [.lit (.int .i64 0), .lit (.int .i64 255)], .agg [.lit (.int .i64 0), .lit (.int .i64 255)], .agg [.lit (.int .i64 0), .lit (.int .i64 0)]]]
def laid_loop_example_easel_impl_opForms {H : Type} : DataW H := .agg [.agg [.lit (.string []), .lit (.int .i64 0)], .agg [.lit (.string [99, 114, 111, 112]), .lit (.int .i64 4)], .agg [.lit (.string [102, 108, 105, 112, 120]), .lit (.int .i64 0)], .agg [.lit (.string [102, 108, 105, 112, 121]), .lit (.int .i64 0)], .agg [.lit (.string [116, 117, 114, 110]), .lit (.int .i64 0)], .agg [.lit (.string [103, 114, 97, 121]), .lit (.int .i64 0)], .agg [.lit (.string [98, 108, 117, 114]), .lit (.int .i64 0)], .agg [.lit (.string [115, 105, 122, 101]), .lit (.int .i64 2)], .agg [.lit (.string [102, 108, 97, 116]), .lit (.int .i64 3)]]
def laid_strconv_ErrRange {H : Type} : DataW H := .iface "*errors.errorString" (.ptr (.agg [.lit (.string [118, 97, 108, 117, 101, 32, 111, 117, 116, 32, 111, 102, 32, 114, 97, 110, 103, 101])]))
def laid_strconv_ErrSyntax {H : Type} : DataW H := .iface "*errors.errorString" (.ptr (.agg [.lit (.string [105, 110, 118, 97, 108, 105, 100, 32, 115, 121, 110, 116, 97, 120])]))
def laid_loop_example_easel_impl_shaFirst {H : Type} : DataW H := .agg [.lit (.int .u32 1779033703), .lit (.int .u32 3144134277), .lit (.int .u32 1013904242), .lit (.int .u32 2773480762), .lit (.int .u32 1359893119), .lit (.int .u32 2600822924), .lit (.int .u32 528734635), .lit (.int .u32 1541459225)]
def laid_loop_example_easel_impl_shaRounds {H : Type} : DataW H := .agg [.lit (.int .u32 1116352408), .lit (.int .u32 1899447441), .lit (.int .u32 3049323471), .lit (.int .u32 3921009573), .lit (.int .u32 961987163), .lit (.int .u32 1508970993), .lit (.int .u32 2453635748), .lit (.int .u32 2870763221), .lit (.int .u32 3624381080), .lit (.int .u32 310598401), .lit (.int .u32 607225278), .lit (.int .u32 1426881987), .lit (.int .u32 1925078388), .lit (.int .u32 2162078206), .lit (.int .u32 2614888103), .lit (.int .u32 3248222580), .lit (.int .u32 3835390401), .lit (.int .u32 4022224774), .lit (.int .u32 264347078), .lit (.int .u32 604807628), .lit (.int .u32 770255983), .lit (.int .u32 1249150122), .lit (.int .u32 1555081692), .lit (.int .u32 1996064986), .lit (.int .u32 2554220882), .lit (.int .u32 2821834349), .lit (.int .u32 2952996808), .lit (.int .u32 3210313671), .lit (.int .u32 3336571891), .lit (.int .u32 3584528711), .lit (.int .u32 113926993), .lit (.int .u32 338241895), .lit (.int .u32 666307205), .lit (.int .u32 773529912), .lit (.int .u32 1294757372), .lit (.int .u32 1396182291), .lit (.int .u32 1695183700), .lit (.int .u32 1986661051), .lit (.int .u32 2177026350), .lit (.int .u32 2456956037), .lit (.int .u32 2730485921), .lit (.int .u32 2820302411), .lit (.int .u32 3259730800), .lit (.int .u32 3345764771), .lit (.int .u32 3516065817), .lit (.int .u32 3600352804), .lit (.int .u32 4094571909), .lit (.int .u32 275423344), .lit (.int .u32 430227734), .lit (.int .u32 506948616), .lit (.int .u32 659060556), .lit (.int .u32 883997877), .lit (.int .u32 958139571), .lit (.int .u32 1322822218), .lit (.int .u32 1537002063), .lit (.int .u32 1747873779), .lit (.int .u32 1955562222), .lit (.int .u32 2024104815), .lit (.int .u32 2227730452), .lit (.int .u32 2361852424), .lit (.int .u32 2428436474), .lit (.int .u32 2756734187), .lit (.int .u32 3204031479), .lit (.int .u32 3329325298)]

/-- 'laws.FnExactOpText': WHATEVER THE INPUT: true; the input reads as it did. -/
def fnExactOpTextSpec : ChangeSpec := { name := "fnExactOpText", vars := ["loop.example/easel/impl.opForms", "loop.example/easel/impl.opRanges"], fn := fun _ => fun
  | [d, g1, g2] => { results := [.lit (.bool true)], args := [d], vars := [g1, g2] }
  | _ => none }
def fnExactOpTextRow : OpenClaim := { program := "ytbejafbpipdbjaadoor", sum := "5e533afeac5e19cd114cba2942835de29a957478937fa89fda15e05911b992ff", func := "loop.example/easel/laws.FnExactOpText", spec := "fnExactOpText", named := ["loop.example/easel/impl.opForms", "loop.example/easel/impl.opRanges", "internal/strconv.uint64pow10", "math/bits.deBruijn32tab", "math/bits.deBruijn64tab"], apart := false, laid := [("math/bits.deBruijn32tab", laid_math_bits_deBruijn32tab), ("math/bits.deBruijn64tab", laid_math_bits_deBruijn64tab), ("internal/strconv.uint64pow10", laid_internal_strconv_uint64pow10), ("loop.example/easel/impl.opRanges", laid_loop_example_easel_impl_opRanges), ("loop.example/easel/impl.opForms", laid_loop_example_easel_impl_opForms)] }
def FnExactOpTextSaid : Prop := fnExactOpTextRow.holds Tryd.pinned (OpenSpec.ofChange fnExactOpTextSpec)

/-- ITS FALSE NEIGHBOUR: 'it returns false'. Refute it at one input. -/
def fnExactOpTextWrong : ChangeSpec := { name := "fnExactOpText", vars := ["loop.example/easel/impl.opForms", "loop.example/easel/impl.opRanges"], fn := fun _ => fun
  | [d, g1, g2] => { results := [.lit (.bool false)], args := [d], vars := [g1, g2] }
  | _ => none }
def FnExactOpTextWrongFalsely : Prop := fnExactOpTextRow.holds Tryd.pinned (OpenSpec.ofChange fnExactOpTextWrong)

/-- 'laws.FnExactOpRead': WHATEVER THE INPUT: true; the input reads as it did. -/
def fnExactOpReadSpec : ChangeSpec := { name := "fnExactOpRead", vars := ["loop.example/easel/impl.opForms", "loop.example/easel/impl.opRanges"], fn := fun _ => fun
  | [d, g1, g2] => { results := [.lit (.bool true)], args := [d], vars := [g1, g2] }
  | _ => none }
def fnExactOpReadRow : OpenClaim := { program := "ytbejafbpipdbjaadoor", sum := "5e533afeac5e19cd114cba2942835de29a957478937fa89fda15e05911b992ff", func := "loop.example/easel/laws.FnExactOpRead", spec := "fnExactOpRead", unfollowed := true, recurses := true, named := ["loop.example/easel/impl.opForms", "strconv.ErrSyntax", "strconv.ErrRange", "internal/strconv.uint64pow10", "math/bits.deBruijn32tab", "math/bits.deBruijn64tab", "loop.example/easel/impl.opRanges"], apart := false, laid := [("math/bits.deBruijn32tab", laid_math_bits_deBruijn32tab), ("math/bits.deBruijn64tab", laid_math_bits_deBruijn64tab), ("internal/strconv.uint64pow10", laid_internal_strconv_uint64pow10), ("strconv.ErrRange", laid_strconv_ErrRange), ("strconv.ErrSyntax", laid_strconv_ErrSyntax), ("loop.example/easel/impl.opRanges", laid_loop_example_easel_impl_opRanges), ("loop.example/easel/impl.opForms", laid_loop_example_easel_impl_opForms)] }
def FnExactOpReadSaid : Prop := fnExactOpReadRow.holds Tryd.pinned (OpenSpec.ofChange fnExactOpReadSpec)

/-- ITS FALSE NEIGHBOUR: 'it returns false'. Refute it at one input. -/
def fnExactOpReadWrong : ChangeSpec := { name := "fnExactOpRead", vars := ["loop.example/easel/impl.opForms", "loop.example/easel/impl.opRanges"], fn := fun _ => fun
  | [d, g1, g2] => { results := [.lit (.bool false)], args := [d], vars := [g1, g2] }
  | _ => none }
def FnExactOpReadWrongFalsely : Prop := fnExactOpReadRow.holds Tryd.pinned (OpenSpec.ofChange fnExactOpReadWrong)

/-- 'laws.FnExactAskOk': WHATEVER THE INPUT: true; the input reads as it did. -/
def fnExactAskOkSpec : ChangeSpec := { name := "fnExactAskOk", vars := ["loop.example/easel/impl.opRanges"], fn := fun _ => fun
  | [d, g1] => { results := [.lit (.bool true)], args := [d], vars := [g1] }
  | _ => none }
def fnExactAskOkRow : OpenClaim := { program := "ytbejafbpipdbjaadoor", sum := "5e533afeac5e19cd114cba2942835de29a957478937fa89fda15e05911b992ff", func := "loop.example/easel/laws.FnExactAskOk", spec := "fnExactAskOk", named := ["loop.example/easel/impl.opRanges"], apart := false, laid := [("loop.example/easel/impl.opRanges", laid_loop_example_easel_impl_opRanges)] }
def FnExactAskOkSaid : Prop := fnExactAskOkRow.holds Tryd.pinned (OpenSpec.ofChange fnExactAskOkSpec)

/-- ITS FALSE NEIGHBOUR: 'it returns false'. Refute it at one input. -/
def fnExactAskOkWrong : ChangeSpec := { name := "fnExactAskOk", vars := ["loop.example/easel/impl.opRanges"], fn := fun _ => fun
  | [d, g1] => { results := [.lit (.bool false)], args := [d], vars := [g1] }
  | _ => none }
def FnExactAskOkWrongFalsely : Prop := fnExactAskOkRow.holds Tryd.pinned (OpenSpec.ofChange fnExactAskOkWrong)

/-- 'laws.FnExactAskText': WHATEVER THE INPUT: true; the input reads as it did. -/
def fnExactAskTextSpec : ChangeSpec := { name := "fnExactAskText", vars := ["loop.example/easel/impl.opRanges", "loop.example/easel/impl.opForms"], fn := fun _ => fun
  | [d, g1, g2] => { results := [.lit (.bool true)], args := [d], vars := [g1, g2] }
  | _ => none }
def fnExactAskTextRow : OpenClaim := { program := "ytbejafbpipdbjaadoor", sum := "5e533afeac5e19cd114cba2942835de29a957478937fa89fda15e05911b992ff", func := "loop.example/easel/laws.FnExactAskText", spec := "fnExactAskText", inPlace := ["internal/abi.NoEscape", "internal/bytealg.MakeNoZero"], named := ["loop.example/easel/impl.opRanges", "loop.example/easel/impl.opForms", "internal/strconv.uint64pow10", "math/bits.deBruijn32tab", "math/bits.deBruijn64tab"], apart := false, laid := [("math/bits.deBruijn32tab", laid_math_bits_deBruijn32tab), ("math/bits.deBruijn64tab", laid_math_bits_deBruijn64tab), ("internal/strconv.uint64pow10", laid_internal_strconv_uint64pow10), ("loop.example/easel/impl.opRanges", laid_loop_example_easel_impl_opRanges), ("loop.example/easel/impl.opForms", laid_loop_example_easel_impl_opForms)] }
def FnExactAskTextSaid : Prop := fnExactAskTextRow.holds Tryd.pinned (OpenSpec.ofChange fnExactAskTextSpec)

/-- ITS FALSE NEIGHBOUR: 'it returns false'. Refute it at one input. -/
def fnExactAskTextWrong : ChangeSpec := { name := "fnExactAskText", vars := ["loop.example/easel/impl.opRanges", "loop.example/easel/impl.opForms"], fn := fun _ => fun
  | [d, g1, g2] => { results := [.lit (.bool false)], args := [d], vars := [g1, g2] }
  | _ => none }
def FnExactAskTextWrongFalsely : Prop := fnExactAskTextRow.holds Tryd.pinned (OpenSpec.ofChange fnExactAskTextWrong)

/-- 'laws.FnExactUrlText': WHATEVER THE INPUT: true; the input reads as it did. -/
def fnExactUrlTextSpec : ChangeSpec := { name := "fnExactUrlText", vars := ["loop.example/easel/impl.opRanges", "loop.example/easel/impl.opForms", "loop.example/easel/impl.shaFirst", "loop.example/easel/impl.shaRounds"], fn := fun _ => fun
  | [d1, d2, g1, g2, g3, g4] => { results := [.lit (.bool true)], args := [d1, d2], vars := [g1, g2, g3, g4] }
  | _ => none }
def fnExactUrlTextRow : OpenClaim := { program := "ytbejafbpipdbjaadoor", sum := "5e533afeac5e19cd114cba2942835de29a957478937fa89fda15e05911b992ff", func := "loop.example/easel/laws.FnExactUrlText", spec := "fnExactUrlText", inPlace := ["internal/abi.NoEscape", "internal/bytealg.MakeNoZero"], named := ["loop.example/easel/impl.opRanges", "loop.example/easel/impl.opForms", "internal/strconv.uint64pow10", "math/bits.deBruijn32tab", "math/bits.deBruijn64tab", "loop.example/easel/impl.shaFirst", "loop.example/easel/impl.shaRounds"], apart := false, laid := [("math/bits.deBruijn32tab", laid_math_bits_deBruijn32tab), ("math/bits.deBruijn64tab", laid_math_bits_deBruijn64tab), ("internal/strconv.uint64pow10", laid_internal_strconv_uint64pow10), ("loop.example/easel/impl.shaFirst", laid_loop_example_easel_impl_shaFirst), ("loop.example/easel/impl.shaRounds", laid_loop_example_easel_impl_shaRounds), ("loop.example/easel/impl.opRanges", laid_loop_example_easel_impl_opRanges), ("loop.example/easel/impl.opForms", laid_loop_example_easel_impl_opForms)] }
def FnExactUrlTextSaid : Prop := fnExactUrlTextRow.holds Tryd.pinned (OpenSpec.ofChange fnExactUrlTextSpec)

/-- ITS FALSE NEIGHBOUR: 'it returns false'. Refute it at one input. -/
def fnExactUrlTextWrong : ChangeSpec := { name := "fnExactUrlText", vars := ["loop.example/easel/impl.opRanges", "loop.example/easel/impl.opForms", "loop.example/easel/impl.shaFirst", "loop.example/easel/impl.shaRounds"], fn := fun _ => fun
  | [d1, d2, g1, g2, g3, g4] => { results := [.lit (.bool false)], args := [d1, d2], vars := [g1, g2, g3, g4] }
  | _ => none }
def FnExactUrlTextWrongFalsely : Prop := fnExactUrlTextRow.holds Tryd.pinned (OpenSpec.ofChange fnExactUrlTextWrong)

/-- 'laws.FnExactAskRead': WHATEVER THE INPUT: true; the input reads as it did. -/
def fnExactAskReadSpec : ChangeSpec := { name := "fnExactAskRead", vars := ["loop.example/easel/impl.opForms", "loop.example/easel/impl.opRanges"], fn := fun _ => fun
  | [d, g1, g2] => { results := [.lit (.bool true)], args := [d], vars := [g1, g2] }
  | _ => none }
def fnExactAskReadRow : OpenClaim := { program := "ytbejafbpipdbjaadoor", sum := "5e533afeac5e19cd114cba2942835de29a957478937fa89fda15e05911b992ff", func := "loop.example/easel/laws.FnExactAskRead", spec := "fnExactAskRead", unfollowed := true, recurses := true, named := ["loop.example/easel/impl.opForms", "strconv.ErrSyntax", "strconv.ErrRange", "internal/strconv.uint64pow10", "math/bits.deBruijn32tab", "math/bits.deBruijn64tab", "loop.example/easel/impl.opRanges"], apart := false, laid := [("math/bits.deBruijn32tab", laid_math_bits_deBruijn32tab), ("math/bits.deBruijn64tab", laid_math_bits_deBruijn64tab), ("internal/strconv.uint64pow10", laid_internal_strconv_uint64pow10), ("strconv.ErrRange", laid_strconv_ErrRange), ("strconv.ErrSyntax", laid_strconv_ErrSyntax), ("loop.example/easel/impl.opRanges", laid_loop_example_easel_impl_opRanges), ("loop.example/easel/impl.opForms", laid_loop_example_easel_impl_opForms)] }
def FnExactAskReadSaid : Prop := fnExactAskReadRow.holds Tryd.pinned (OpenSpec.ofChange fnExactAskReadSpec)

/-- ITS FALSE NEIGHBOUR: 'it returns false'. Refute it at one input. -/
def fnExactAskReadWrong : ChangeSpec := { name := "fnExactAskRead", vars := ["loop.example/easel/impl.opForms", "loop.example/easel/impl.opRanges"], fn := fun _ => fun
  | [d, g1, g2] => { results := [.lit (.bool false)], args := [d], vars := [g1, g2] }
  | _ => none }
def FnExactAskReadWrongFalsely : Prop := fnExactAskReadRow.holds Tryd.pinned (OpenSpec.ofChange fnExactAskReadWrong)

/-- 'laws.FnOpText': WHATEVER THE INPUT: true; the input reads as it did. -/
def fnOpTextSpec : ChangeSpec := { name := "fnOpText", vars := ["loop.example/easel/impl.opForms", "loop.example/easel/impl.opRanges"], fn := fun _ => fun
  | [d1, d2, g1, g2] => { results := [.lit (.bool true)], args := [d1, d2], vars := [g1, g2] }
  | _ => none }
def fnOpTextRow : OpenClaim := { program := "ytbejafbpipdbjaadoor", sum := "5e533afeac5e19cd114cba2942835de29a957478937fa89fda15e05911b992ff", func := "loop.example/easel/laws.FnOpText", spec := "fnOpText", unfollowed := true, recurses := true, named := ["loop.example/easel/impl.opForms", "loop.example/easel/impl.opRanges", "internal/strconv.uint64pow10", "math/bits.deBruijn32tab", "math/bits.deBruijn64tab", "strconv.ErrSyntax", "strconv.ErrRange"], apart := false, laid := [("math/bits.deBruijn32tab", laid_math_bits_deBruijn32tab), ("math/bits.deBruijn64tab", laid_math_bits_deBruijn64tab), ("internal/strconv.uint64pow10", laid_internal_strconv_uint64pow10), ("strconv.ErrRange", laid_strconv_ErrRange), ("strconv.ErrSyntax", laid_strconv_ErrSyntax), ("loop.example/easel/impl.opRanges", laid_loop_example_easel_impl_opRanges), ("loop.example/easel/impl.opForms", laid_loop_example_easel_impl_opForms)] }
def FnOpTextSaid : Prop := fnOpTextRow.holds Tryd.pinned (OpenSpec.ofChange fnOpTextSpec)

/-- ITS FALSE NEIGHBOUR: 'it returns false'. Refute it at one input. -/
def fnOpTextWrong : ChangeSpec := { name := "fnOpText", vars := ["loop.example/easel/impl.opForms", "loop.example/easel/impl.opRanges"], fn := fun _ => fun
  | [d1, d2, g1, g2] => { results := [.lit (.bool false)], args := [d1, d2], vars := [g1, g2] }
  | _ => none }
def FnOpTextWrongFalsely : Prop := fnOpTextRow.holds Tryd.pinned (OpenSpec.ofChange fnOpTextWrong)

/-- 'laws.FnAskText': WHATEVER THE INPUT: true; the input reads as it did. -/
def fnAskTextSpec : ChangeSpec := { name := "fnAskText", vars := ["loop.example/easel/impl.opRanges", "loop.example/easel/impl.opForms"], fn := fun _ => fun
  | [d1, d2, g1, g2] => { results := [.lit (.bool true)], args := [d1, d2], vars := [g1, g2] }
  | _ => none }
def fnAskTextRow : OpenClaim := { program := "ytbejafbpipdbjaadoor", sum := "5e533afeac5e19cd114cba2942835de29a957478937fa89fda15e05911b992ff", func := "loop.example/easel/laws.FnAskText", spec := "fnAskText", inPlace := ["internal/abi.NoEscape", "internal/bytealg.MakeNoZero"], unfollowed := true, recurses := true, named := ["loop.example/easel/impl.opRanges", "loop.example/easel/impl.opForms", "internal/strconv.uint64pow10", "math/bits.deBruijn32tab", "math/bits.deBruijn64tab", "strconv.ErrSyntax", "strconv.ErrRange"], apart := false, laid := [("math/bits.deBruijn32tab", laid_math_bits_deBruijn32tab), ("math/bits.deBruijn64tab", laid_math_bits_deBruijn64tab), ("internal/strconv.uint64pow10", laid_internal_strconv_uint64pow10), ("strconv.ErrRange", laid_strconv_ErrRange), ("strconv.ErrSyntax", laid_strconv_ErrSyntax), ("loop.example/easel/impl.opRanges", laid_loop_example_easel_impl_opRanges), ("loop.example/easel/impl.opForms", laid_loop_example_easel_impl_opForms)] }
def FnAskTextSaid : Prop := fnAskTextRow.holds Tryd.pinned (OpenSpec.ofChange fnAskTextSpec)

/-- ITS FALSE NEIGHBOUR: 'it returns false'. Refute it at one input. -/
def fnAskTextWrong : ChangeSpec := { name := "fnAskText", vars := ["loop.example/easel/impl.opRanges", "loop.example/easel/impl.opForms"], fn := fun _ => fun
  | [d1, d2, g1, g2] => { results := [.lit (.bool false)], args := [d1, d2], vars := [g1, g2] }
  | _ => none }
def FnAskTextWrongFalsely : Prop := fnAskTextRow.holds Tryd.pinned (OpenSpec.ofChange fnAskTextWrong)

/- THE SECOND FORM. 'bulk': how many values and letters a reading holds, each counted each time it is reached (what is shared counts as often as it is met; a slice's spare places count too). A statement '..UptoSaid' is the law's where the arguments, and the package variables that the reading takes, are together of bulk at most 1048576: NARROWER than '..Said'. Prove '..Said' where nothing that the law and all that it calls make is longer than what came in: it says more and counts as full. Else prove '..UptoSaid'. A law counts once. -/
mutual
def uptoBulk {H : Type} : DataW H → Nat
  | .lit (.string bytes) => bytes.length + 1
  | .lit _ => 1
  | .nil => 1
  | .ptr d => uptoBulk d + 1
  | .slice elems spare => uptoBulkAll elems + uptoBulkAll spare + 1
  | .agg parts => uptoBulkAll parts + 1
  | .iface _ d => uptoBulk d + 1
  | .map entries => uptoBulkEntries entries + 1
  | .held _ => 1
def uptoBulkAll {H : Type} : List (DataW H) → Nat
  | [] => 0
  | d :: r => uptoBulk d + uptoBulkAll r
def uptoBulkEntries {H : Type} : List (Lit × DataW H) → Nat
  | [] => 0
  | x :: r => uptoBulkEntry x + uptoBulkEntries r
def uptoBulkEntry {H : Type} : Lit × DataW H → Nat
  | (.string bytes, d) => bytes.length + uptoBulk d + 1
  | (_, d) => uptoBulk d + 1
 end
def uptoSmall : (H : Type) → List (DataW H) → Bool := fun _ ds => decide (uptoBulkAll ds ≤ 1048576)
def OpenSpec.upto (s : _root_.Go.ChangeSpec) : _root_.Go.OpenSpec := { _root_.Go.OpenSpec.ofChange s with cond := some uptoSmall }

/-- 'laws.FnExactOpText', WHERE WHAT IT READS IS OF BULK AT MOST 1048576: true; the input reads as it did. -/
def fnExactOpTextUptoRow : OpenClaim := { program := "ytbejafbpipdbjaadoor", sum := "5e533afeac5e19cd114cba2942835de29a957478937fa89fda15e05911b992ff", func := "loop.example/easel/laws.FnExactOpText", spec := "fnExactOpText", named := ["loop.example/easel/impl.opForms", "loop.example/easel/impl.opRanges", "internal/strconv.uint64pow10", "math/bits.deBruijn32tab", "math/bits.deBruijn64tab"], apart := false, laid := [("math/bits.deBruijn32tab", laid_math_bits_deBruijn32tab), ("math/bits.deBruijn64tab", laid_math_bits_deBruijn64tab), ("internal/strconv.uint64pow10", laid_internal_strconv_uint64pow10), ("loop.example/easel/impl.opRanges", laid_loop_example_easel_impl_opRanges), ("loop.example/easel/impl.opForms", laid_loop_example_easel_impl_opForms)], narrowed := true }
def FnExactOpTextUptoSaid : Prop := fnExactOpTextUptoRow.holds Tryd.pinned (OpenSpec.upto fnExactOpTextSpec)

/-- 'laws.FnExactOpRead', WHERE WHAT IT READS IS OF BULK AT MOST 1048576: true; the input reads as it did. -/
def fnExactOpReadUptoRow : OpenClaim := { program := "ytbejafbpipdbjaadoor", sum := "5e533afeac5e19cd114cba2942835de29a957478937fa89fda15e05911b992ff", func := "loop.example/easel/laws.FnExactOpRead", spec := "fnExactOpRead", unfollowed := true, recurses := true, named := ["loop.example/easel/impl.opForms", "strconv.ErrSyntax", "strconv.ErrRange", "internal/strconv.uint64pow10", "math/bits.deBruijn32tab", "math/bits.deBruijn64tab", "loop.example/easel/impl.opRanges"], apart := false, laid := [("math/bits.deBruijn32tab", laid_math_bits_deBruijn32tab), ("math/bits.deBruijn64tab", laid_math_bits_deBruijn64tab), ("internal/strconv.uint64pow10", laid_internal_strconv_uint64pow10), ("strconv.ErrRange", laid_strconv_ErrRange), ("strconv.ErrSyntax", laid_strconv_ErrSyntax), ("loop.example/easel/impl.opRanges", laid_loop_example_easel_impl_opRanges), ("loop.example/easel/impl.opForms", laid_loop_example_easel_impl_opForms)], narrowed := true }
def FnExactOpReadUptoSaid : Prop := fnExactOpReadUptoRow.holds Tryd.pinned (OpenSpec.upto fnExactOpReadSpec)

/-- 'laws.FnExactAskOk', WHERE WHAT IT READS IS OF BULK AT MOST 1048576: true; the input reads as it did. -/
def fnExactAskOkUptoRow : OpenClaim := { program := "ytbejafbpipdbjaadoor", sum := "5e533afeac5e19cd114cba2942835de29a957478937fa89fda15e05911b992ff", func := "loop.example/easel/laws.FnExactAskOk", spec := "fnExactAskOk", named := ["loop.example/easel/impl.opRanges"], apart := false, laid := [("loop.example/easel/impl.opRanges", laid_loop_example_easel_impl_opRanges)], narrowed := true }
def FnExactAskOkUptoSaid : Prop := fnExactAskOkUptoRow.holds Tryd.pinned (OpenSpec.upto fnExactAskOkSpec)

/-- 'laws.FnExactAskText', WHERE WHAT IT READS IS OF BULK AT MOST 1048576: true; the input reads as it did. -/
def fnExactAskTextUptoRow : OpenClaim := { program := "ytbejafbpipdbjaadoor", sum := "5e533afeac5e19cd114cba2942835de29a957478937fa89fda15e05911b992ff", func := "loop.example/easel/laws.FnExactAskText", spec := "fnExactAskText", inPlace := ["internal/abi.NoEscape", "internal/bytealg.MakeNoZero"], named := ["loop.example/easel/impl.opRanges", "loop.example/easel/impl.opForms", "internal/strconv.uint64pow10", "math/bits.deBruijn32tab", "math/bits.deBruijn64tab"], apart := false, laid := [("math/bits.deBruijn32tab", laid_math_bits_deBruijn32tab), ("math/bits.deBruijn64tab", laid_math_bits_deBruijn64tab), ("internal/strconv.uint64pow10", laid_internal_strconv_uint64pow10), ("loop.example/easel/impl.opRanges", laid_loop_example_easel_impl_opRanges), ("loop.example/easel/impl.opForms", laid_loop_example_easel_impl_opForms)], narrowed := true }
def FnExactAskTextUptoSaid : Prop := fnExactAskTextUptoRow.holds Tryd.pinned (OpenSpec.upto fnExactAskTextSpec)

/-- 'laws.FnExactUrlText', WHERE WHAT IT READS IS OF BULK AT MOST 1048576: true; the input reads as it did. -/
def fnExactUrlTextUptoRow : OpenClaim := { program := "ytbejafbpipdbjaadoor", sum := "5e533afeac5e19cd114cba2942835de29a957478937fa89fda15e05911b992ff", func := "loop.example/easel/laws.FnExactUrlText", spec := "fnExactUrlText", inPlace := ["internal/abi.NoEscape", "internal/bytealg.MakeNoZero"], named := ["loop.example/easel/impl.opRanges", "loop.example/easel/impl.opForms", "internal/strconv.uint64pow10", "math/bits.deBruijn32tab", "math/bits.deBruijn64tab", "loop.example/easel/impl.shaFirst", "loop.example/easel/impl.shaRounds"], apart := false, laid := [("math/bits.deBruijn32tab", laid_math_bits_deBruijn32tab), ("math/bits.deBruijn64tab", laid_math_bits_deBruijn64tab), ("internal/strconv.uint64pow10", laid_internal_strconv_uint64pow10), ("loop.example/easel/impl.shaFirst", laid_loop_example_easel_impl_shaFirst), ("loop.example/easel/impl.shaRounds", laid_loop_example_easel_impl_shaRounds), ("loop.example/easel/impl.opRanges", laid_loop_example_easel_impl_opRanges), ("loop.example/easel/impl.opForms", laid_loop_example_easel_impl_opForms)], narrowed := true }
def FnExactUrlTextUptoSaid : Prop := fnExactUrlTextUptoRow.holds Tryd.pinned (OpenSpec.upto fnExactUrlTextSpec)

/-- 'laws.FnExactAskRead', WHERE WHAT IT READS IS OF BULK AT MOST 1048576: true; the input reads as it did. -/
def fnExactAskReadUptoRow : OpenClaim := { program := "ytbejafbpipdbjaadoor", sum := "5e533afeac5e19cd114cba2942835de29a957478937fa89fda15e05911b992ff", func := "loop.example/easel/laws.FnExactAskRead", spec := "fnExactAskRead", unfollowed := true, recurses := true, named := ["loop.example/easel/impl.opForms", "strconv.ErrSyntax", "strconv.ErrRange", "internal/strconv.uint64pow10", "math/bits.deBruijn32tab", "math/bits.deBruijn64tab", "loop.example/easel/impl.opRanges"], apart := false, laid := [("math/bits.deBruijn32tab", laid_math_bits_deBruijn32tab), ("math/bits.deBruijn64tab", laid_math_bits_deBruijn64tab), ("internal/strconv.uint64pow10", laid_internal_strconv_uint64pow10), ("strconv.ErrRange", laid_strconv_ErrRange), ("strconv.ErrSyntax", laid_strconv_ErrSyntax), ("loop.example/easel/impl.opRanges", laid_loop_example_easel_impl_opRanges), ("loop.example/easel/impl.opForms", laid_loop_example_easel_impl_opForms)], narrowed := true }
def FnExactAskReadUptoSaid : Prop := fnExactAskReadUptoRow.holds Tryd.pinned (OpenSpec.upto fnExactAskReadSpec)

/-- 'laws.FnOpText', WHERE WHAT IT READS IS OF BULK AT MOST 1048576: true; the input reads as it did. -/
def fnOpTextUptoRow : OpenClaim := { program := "ytbejafbpipdbjaadoor", sum := "5e533afeac5e19cd114cba2942835de29a957478937fa89fda15e05911b992ff", func := "loop.example/easel/laws.FnOpText", spec := "fnOpText", unfollowed := true, recurses := true, named := ["loop.example/easel/impl.opForms", "loop.example/easel/impl.opRanges", "internal/strconv.uint64pow10", "math/bits.deBruijn32tab", "math/bits.deBruijn64tab", "strconv.ErrSyntax", "strconv.ErrRange"], apart := false, laid := [("math/bits.deBruijn32tab", laid_math_bits_deBruijn32tab), ("math/bits.deBruijn64tab", laid_math_bits_deBruijn64tab), ("internal/strconv.uint64pow10", laid_internal_strconv_uint64pow10), ("strconv.ErrRange", laid_strconv_ErrRange), ("strconv.ErrSyntax", laid_strconv_ErrSyntax), ("loop.example/easel/impl.opRanges", laid_loop_example_easel_impl_opRanges), ("loop.example/easel/impl.opForms", laid_loop_example_easel_impl_opForms)], narrowed := true }
def FnOpTextUptoSaid : Prop := fnOpTextUptoRow.holds Tryd.pinned (OpenSpec.upto fnOpTextSpec)

/-- 'laws.FnAskText', WHERE WHAT IT READS IS OF BULK AT MOST 1048576: true; the input reads as it did. -/
def fnAskTextUptoRow : OpenClaim := { program := "ytbejafbpipdbjaadoor", sum := "5e533afeac5e19cd114cba2942835de29a957478937fa89fda15e05911b992ff", func := "loop.example/easel/laws.FnAskText", spec := "fnAskText", inPlace := ["internal/abi.NoEscape", "internal/bytealg.MakeNoZero"], unfollowed := true, recurses := true, named := ["loop.example/easel/impl.opRanges", "loop.example/easel/impl.opForms", "internal/strconv.uint64pow10", "math/bits.deBruijn32tab", "math/bits.deBruijn64tab", "strconv.ErrSyntax", "strconv.ErrRange"], apart := false, laid := [("math/bits.deBruijn32tab", laid_math_bits_deBruijn32tab), ("math/bits.deBruijn64tab", laid_math_bits_deBruijn64tab), ("internal/strconv.uint64pow10", laid_internal_strconv_uint64pow10), ("strconv.ErrRange", laid_strconv_ErrRange), ("strconv.ErrSyntax", laid_strconv_ErrSyntax), ("loop.example/easel/impl.opRanges", laid_loop_example_easel_impl_opRanges), ("loop.example/easel/impl.opForms", laid_loop_example_easel_impl_opForms)], narrowed := true }
def FnAskTextUptoSaid : Prop := fnAskTextUptoRow.holds Tryd.pinned (OpenSpec.upto fnAskTextSpec)

end Rows
end Go.Proofs.YtbejafbpipdbjaaDoor
