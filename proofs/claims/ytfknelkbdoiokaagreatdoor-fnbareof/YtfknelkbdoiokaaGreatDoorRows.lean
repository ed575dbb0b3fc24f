/-
  NARROWER THAN 'FOR EVERY INPUT', by the rows' own cells (each row's printed sentence says how): FnExprLast: laid · FnStmt: ifaces, laid · FnStmtWords: ifaces, laid · FnBareOf: ifaces, laid · FnBareCast: ifaces, laid · FnExactStmtRead: ifaces, laid · FnExactProgType: loops, ifaces, laid · FnExactProgRun: loops, ifaces, laid · FnExactBareOf: loops, ifaces, laid.
  DERIVED. THE GIVEN ROWS OF THIS SEAT. 9 by the template 'for every input the law returns true; each argument reads behind the call as it read before'; 0 by the template 'total and deterministic' (their statements: YtfknelkbdoiokaaGreatDoorTotals.lean).
  GIVEN WITH THE SEED: the statements are not yours to turn. If you find one false, say at which input.
  Laid BY PROGRAM, IN A SANDBOX (cutbox-rows.mjs): the forced cells as the released guide's own fill.sh prints them over the translation 3398cd6c18b76d3a… (all of the seat's roots in one cut). By AI agents, Wed Nov 11 2026. No macro, syntax, notation, axiom, sorry.
-/
import Derived.Test.YtfknelkbdoiokaaGreatDoorChecked
import GoSem.Claim
import GoSem.ClaimJoined
import GoSem.ClaimMapViews
import Derived.JoinedTies
import Derived.KernelRfl
namespace Go.Proofs.YtfknelkbdoiokaaGreatDoor
/- THE CELL 'sum', in the pinned program and in every row, IS THE sha256 OF THE DUMP (.gsa) THAT YtfknelkbdoiokaaGreatDoorProg.lean LOADS. Nothing in Lean hashes anything: it is a label: what it is worth is what the hold of that sum in a sandbox is worth. -/
noncomputable def Tryz.pinned : Pinned := { name := "ytfknelkbdoiokaagreatdoor", sum := "3398cd6c18b76d3a0daa7adacb6bf3a07857e61e1e91012cbf1a9e949d193671", checked := Tryz.checked }
namespace Rows
def none {H : Type} : Left H := { results := [], args := [] }

/- WHAT THE LISTED PACKAGE-LEVEL VARIABLES READ AS WHEN THE CALL BEGINS. Each datum BY PROGRAM (the guide's laid-datum.mjs) off the statement by which the dump's own 'gosem.cut.vars' lays the variable. In a bare row this is a premise. The card (YtfknelkbdoiokaaGreatDoorCards.lean) ties it to the program's text. -/
def laid_math_bits_deBruijn32tab {H : Type} : DataW H := .agg [.lit (.int .u8 0), .lit (.int .u8 1), .lit (.int .u8 28), .lit (.int .u8 2), .lit (.int .u8 29), .lit (.int .u8 14), .lit (.int .u8 24), .lit (.int .u8 3), .lit (.int .u8 30), .lit (.int .u8 22), .lit (.int .u8 20), .lit (.int .u8 15), .lit (.int .u8 25), .lit (.int .u8 17), .lit (.int .u8 4), .lit (.int .u8 8), .lit (.int .u8 31), .lit (.int .u8 27), .lit (.int .u8 13), .lit (.int .u8 23), .lit (.int .u8 21), .lit (.int .u8 19), .lit (.int .u8 16), .lit (.int .u8 7), .lit (.int .u8 26), .lit (.int .u8 12), .lit (.int .u8 18), .lit (.int .u8 6), .lit (.int .u8 11), .lit (.int .u8 5), .lit (.int .u8 10), .lit (.int .u8 9)]
def laid_math_bits_deBruijn64tab {H : Type} : DataW H := .agg [.lit (.int .u8 0), .lit (.int .u8 1), .lit (.int .u8 56), .lit (.int .u8 2), .lit (.int .u8 57), .lit (.int .u8 49), .lit (.int .u8 28), .lit (.int .u8 3), .lit (.int .u8 61), .lit (.int .u8 58), .lit (.int .u8 42), .lit (.int .u8 50), .lit (.int .u8 38), .lit (.int .u8 29), .lit (.int .u8 17), .lit (.int .u8 4), .lit (.int .u8 62), .lit (.int .u8 47), .lit (.int .u8 59), .lit (.int .u8 36), .lit (.int .u8 45), .lit (.int .u8 43), .lit (.int .u8 51), .lit (.int .u8 22), .lit (.int .u8 53), .lit (.int .u8 39), .lit (.int .u8 33), .lit (.int .u8 30), .lit (.int .u8 24), .lit (.int .u8 18), .lit (.int .u8 12), .lit (.int .u8 5), .lit (.int .u8 63), .lit (.int .u8 55), .lit (.int .u8 48), .lit (.int .u8 27), .lit (.int .u8 60), .lit (.int .u8 41), .lit (.int .u8 37), .lit (.int .u8 16), .lit (.int .u8 46), .lit (.int .u8 35), .lit (.int .u8 44), .lit (.int .u8 21), .lit (.int .u8 52), .lit (.int .u8 32), .lit (.int .u8 23), .lit (.int .u8 11), .lit (.int .u8 54), .lit (.int .u8 26), .lit (.int .u8 40), .lit (.int .u8 15), .lit (.int .u8 34), .lit (.int .u8 20), .lit (.int .u8 31), .lit (.int .u8 10), .lit (.int .u8 25), .lit (.int .u8 14), .lit (.int .u8 19), .lit (.int .u8 9), .lit (.int .u8 13), .lit (.int .u8 8), .lit (.int .u8 7), .lit (.int .u8 6)]
def laid_internal_strconv_uint64pow10 {H : Type} : DataW H := .agg [.lit (.int .u64 1), .lit (.int .u64 10), .lit (.int .u64 100), .lit (.int .u64 1000), .lit (.int .u64 10000), .lit (.int .u64 100000), .lit (.int .u64 1000000), .lit (.int .u64 10000000), .lit (.int .u64 100000000), .lit (.int .u64 1000000000), .lit (.int .u64 10000000000), .lit (.int .u64 100000000000), .lit (.int .u64 1000000000000), .lit (.int .u64 10000000000000), .lit (.int .u64 100000000000000), .lit (.int .u64 1000000000000000), .lit (.int .u64 10000000000000000), .lit (.int .u64 100000000000000000), .lit (.int .u64 1000000000000000000), .lit (.int .u64 10000000000000000000)]
def laid_strconv_ErrRange {H : Type} : DataW H := .iface "*errors.errorString" (.ptr (.agg [.lit (.string [118, 97, 108, 117, 101, 32, 111, 117, 116, 32, 111, 102, 32, 114, 97, 110, 103, 101])]))
def laid_strconv_ErrSyntax {H : Type} : DataW H := .iface "*errors.errorString" (.ptr (.agg [.lit (.string [105, 110, 118, 97, 108, 105, 100, 32, 115, 121, 110, 116, 97, 120])]))
def laid_loop_example_interlinear_impl_errNoLine {H : Type} : DataW H := .iface "*errors.errorString" (.ptr (.agg [.lit (.string [110, 111, 32, 108, 105, 110, 101])]))

/-- 'laws.FnExprLast': WHATEVER THE INPUT: true; the input reads as it did. -/
def fnExprLastSpec : ChangeSpec := { name := "fnExprLast", fn := fun _ => fun
  | [d] => { results := [.lit (.bool true)], args := [d] }
  | _ => none }
def fnExprLastRow : OpenClaim := { program := "ytfknelkbdoiokaagreatdoor", sum := "3398cd6c18b76d3a0daa7adacb6bf3a07857e61e1e91012cbf1a9e949d193671", func := "loop.example/interlinear/laws.FnExprLast", spec := "fnExprLast", inPlace := ["internal/bytealg.IndexByteString", "internal/bytealg.IndexString"], unfollowed := true, recurses := true, named := ["strconv.ErrSyntax", "strconv.ErrRange", "internal/strconv.uint64pow10", "math/bits.deBruijn32tab", "math/bits.deBruijn64tab", "internal/bytealg.MaxLen"], plainKeys := false, apart := false, laid := [("math/bits.deBruijn32tab", laid_math_bits_deBruijn32tab), ("math/bits.deBruijn64tab", laid_math_bits_deBruijn64tab), ("internal/strconv.uint64pow10", laid_internal_strconv_uint64pow10), ("strconv.ErrRange", laid_strconv_ErrRange), ("strconv.ErrSyntax", laid_strconv_ErrSyntax)] }
def FnExprLastSaid : Prop := fnExprLastRow.holds Tryz.pinned (OpenSpec.ofChange fnExprLastSpec)

/-- ITS FALSE NEIGHBOUR: 'it returns false'. Refute it at one input. -/
def fnExprLastWrong : ChangeSpec := { name := "fnExprLast", fn := fun _ => fun
  | [d] => { results := [.lit (.bool false)], args := [d] }
  | _ => none }
def FnExprLastWrongFalsely : Prop := fnExprLastRow.holds Tryz.pinned (OpenSpec.ofChange fnExprLastWrong)

/-- 'laws.FnStmt': WHATEVER THE INPUT: true; the input reads as it did. -/
def fnStmtSpec : ChangeSpec := { name := "fnStmt", vars := ["loop.example/interlinear/impl.errNoLine"], fn := fun _ => fun
  | [d1, d2, g1] => { results := [.lit (.bool true)], args := [d1, d2], vars := [g1] }
  | _ => none }
def fnStmtRow : OpenClaim := { program := "ytfknelkbdoiokaagreatdoor", sum := "3398cd6c18b76d3a0daa7adacb6bf3a07857e61e1e91012cbf1a9e949d193671", func := "loop.example/interlinear/laws.FnStmt", spec := "fnStmt", inPlace := ["internal/bytealg.IndexByteString", "internal/bytealg.IndexString", "internal/abi.NoEscape", "internal/bytealg.MakeNoZero", "internal/reflectlite.TypeOf"], unfollowed := true, recurses := true, named := ["loop.example/interlinear/impl.errNoLine", "strconv.ErrSyntax", "strconv.ErrRange", "internal/strconv.uint64pow10", "math/bits.deBruijn32tab", "math/bits.deBruijn64tab", "internal/bytealg.MaxLen"], ifaces := true, plainKeys := false, apart := false, laid := [("math/bits.deBruijn32tab", laid_math_bits_deBruijn32tab), ("math/bits.deBruijn64tab", laid_math_bits_deBruijn64tab), ("internal/strconv.uint64pow10", laid_internal_strconv_uint64pow10), ("strconv.ErrRange", laid_strconv_ErrRange), ("strconv.ErrSyntax", laid_strconv_ErrSyntax), ("loop.example/interlinear/impl.errNoLine", laid_loop_example_interlinear_impl_errNoLine)] }
def FnStmtSaid : Prop := fnStmtRow.holds Tryz.pinned (OpenSpec.ofChange fnStmtSpec)

/-- ITS FALSE NEIGHBOUR: 'it returns false'. Refute it at one input. -/
def fnStmtWrong : ChangeSpec := { name := "fnStmt", vars := ["loop.example/interlinear/impl.errNoLine"], fn := fun _ => fun
  | [d1, d2, g1] => { results := [.lit (.bool false)], args := [d1, d2], vars := [g1] }
  | _ => none }
def FnStmtWrongFalsely : Prop := fnStmtRow.holds Tryz.pinned (OpenSpec.ofChange fnStmtWrong)

/-- 'laws.FnStmtWords': WHATEVER THE INPUT: true; the input reads as it did. -/
def fnStmtWordsSpec : ChangeSpec := { name := "fnStmtWords", vars := ["loop.example/interlinear/impl.errNoLine"], fn := fun _ => fun
  | [d, g1] => { results := [.lit (.bool true)], args := [d], vars := [g1] }
  | _ => none }
def fnStmtWordsRow : OpenClaim := { program := "ytfknelkbdoiokaagreatdoor", sum := "3398cd6c18b76d3a0daa7adacb6bf3a07857e61e1e91012cbf1a9e949d193671", func := "loop.example/interlinear/laws.FnStmtWords", spec := "fnStmtWords", inPlace := ["internal/bytealg.IndexByteString", "internal/bytealg.IndexString", "internal/abi.NoEscape", "internal/bytealg.MakeNoZero", "internal/reflectlite.TypeOf"], unfollowed := true, recurses := true, named := ["loop.example/interlinear/impl.errNoLine", "strconv.ErrSyntax", "strconv.ErrRange", "internal/strconv.uint64pow10", "math/bits.deBruijn32tab", "math/bits.deBruijn64tab", "internal/bytealg.MaxLen"], ifaces := true, plainKeys := false, apart := false, laid := [("math/bits.deBruijn32tab", laid_math_bits_deBruijn32tab), ("math/bits.deBruijn64tab", laid_math_bits_deBruijn64tab), ("internal/strconv.uint64pow10", laid_internal_strconv_uint64pow10), ("strconv.ErrRange", laid_strconv_ErrRange), ("strconv.ErrSyntax", laid_strconv_ErrSyntax), ("loop.example/interlinear/impl.errNoLine", laid_loop_example_interlinear_impl_errNoLine)] }
def FnStmtWordsSaid : Prop := fnStmtWordsRow.holds Tryz.pinned (OpenSpec.ofChange fnStmtWordsSpec)

/-- ITS FALSE NEIGHBOUR: 'it returns false'. Refute it at one input. -/
def fnStmtWordsWrong : ChangeSpec := { name := "fnStmtWords", vars := ["loop.example/interlinear/impl.errNoLine"], fn := fun _ => fun
  | [d, g1] => { results := [.lit (.bool false)], args := [d], vars := [g1] }
  | _ => none }
def FnStmtWordsWrongFalsely : Prop := fnStmtWordsRow.holds Tryz.pinned (OpenSpec.ofChange fnStmtWordsWrong)

/-- 'laws.FnBareOf': WHATEVER THE INPUT: true; the input reads as it did. -/
def fnBareOfSpec : ChangeSpec := { name := "fnBareOf", vars := ["loop.example/interlinear/impl.errNoLine"], fn := fun _ => fun
  | [d, g1] => { results := [.lit (.bool true)], args := [d], vars := [g1] }
  | _ => none }
def fnBareOfRow : OpenClaim := { program := "ytfknelkbdoiokaagreatdoor", sum := "3398cd6c18b76d3a0daa7adacb6bf3a07857e61e1e91012cbf1a9e949d193671", func := "loop.example/interlinear/laws.FnBareOf", spec := "fnBareOf", inPlace := ["internal/bytealg.IndexByteString", "internal/bytealg.IndexString", "internal/abi.NoEscape", "internal/bytealg.MakeNoZero", "internal/reflectlite.TypeOf"], unfollowed := true, recurses := true, named := ["loop.example/interlinear/impl.errNoLine", "strconv.ErrSyntax", "strconv.ErrRange", "internal/strconv.uint64pow10", "math/bits.deBruijn32tab", "math/bits.deBruijn64tab", "internal/bytealg.MaxLen"], ifaces := true, plainKeys := false, apart := false, laid := [("math/bits.deBruijn32tab", laid_math_bits_deBruijn32tab), ("math/bits.deBruijn64tab", laid_math_bits_deBruijn64tab), ("internal/strconv.uint64pow10", laid_internal_strconv_uint64pow10), ("strconv.ErrRange", laid_strconv_ErrRange), ("strconv.ErrSyntax", laid_strconv_ErrSyntax), ("loop.example/interlinear/impl.errNoLine", laid_loop_example_interlinear_impl_errNoLine)] }
def FnBareOfSaid : Prop := fnBareOfRow.holds Tryz.pinned (OpenSpec.ofChange fnBareOfSpec)

/-- ITS FALSE NEIGHBOUR: 'it returns false'. Refute it at one input. -/
def fnBareOfWrong : ChangeSpec := { name := "fnBareOf", vars := ["loop.example/interlinear/impl.errNoLine"], fn := fun _ => fun
  | [d, g1] => { results := [.lit (.bool false)], args := [d], vars := [g1] }
  | _ => none }
def FnBareOfWrongFalsely : Prop := fnBareOfRow.holds Tryz.pinned (OpenSpec.ofChange fnBareOfWrong)

/-- 'laws.FnBareCast': WHATEVER THE INPUT: true; the input reads as it did. -/
def fnBareCastSpec : ChangeSpec := { name := "fnBareCast", vars := ["loop.example/interlinear/impl.errNoLine"], fn := fun _ => fun
  | [d, g1] => { results := [.lit (.bool true)], args := [d], vars := [g1] }
  | _ => none }
def fnBareCastRow : OpenClaim := { program := "ytfknelkbdoiokaagreatdoor", sum := "3398cd6c18b76d3a0daa7adacb6bf3a07857e61e1e91012cbf1a9e949d193671", func := "loop.example/interlinear/laws.FnBareCast", spec := "fnBareCast", inPlace := ["internal/bytealg.IndexByteString", "internal/bytealg.IndexString", "internal/abi.NoEscape", "internal/bytealg.MakeNoZero", "internal/reflectlite.TypeOf"], unfollowed := true, recurses := true, named := ["loop.example/interlinear/impl.errNoLine", "strconv.ErrSyntax", "strconv.ErrRange", "internal/strconv.uint64pow10", "math/bits.deBruijn32tab", "math/bits.deBruijn64tab", "internal/bytealg.MaxLen"], ifaces := true, plainKeys := false, apart := false, laid := [("math/bits.deBruijn32tab", laid_math_bits_deBruijn32tab), ("math/bits.deBruijn64tab", laid_math_bits_deBruijn64tab), ("internal/strconv.uint64pow10", laid_internal_strconv_uint64pow10), ("strconv.ErrRange", laid_strconv_ErrRange), ("strconv.ErrSyntax", laid_strconv_ErrSyntax), ("loop.example/interlinear/impl.errNoLine", laid_loop_example_interlinear_impl_errNoLine)] }
def FnBareCastSaid : Prop := fnBareCastRow.holds Tryz.pinned (OpenSpec.ofChange fnBareCastSpec)

/-- ITS FALSE NEIGHBOUR: 'it returns false'. Refute it at one input. -/
def fnBareCastWrong : ChangeSpec := { name := "fnBareCast", vars := ["loop.example/interlinear/impl.errNoLine"], fn := fun _ => fun
  | [d, g1] => { results := [.lit (.bool false)], args := [d], vars := [g1] }
  | _ => none }
def FnBareCastWrongFalsely : Prop := fnBareCastRow.holds Tryz.pinned (OpenSpec.ofChange fnBareCastWrong)

/-- 'laws.FnExactStmtRead': WHATEVER THE INPUT: true; the input reads as it did. -/
def fnExactStmtReadSpec : ChangeSpec := { name := "fnExactStmtRead", vars := ["loop.example/interlinear/impl.errNoLine"], fn := fun _ => fun
  | [d, g1] => { results := [.lit (.bool true)], args := [d], vars := [g1] }
  | _ => none }
def fnExactStmtReadRow : OpenClaim := { program := "ytfknelkbdoiokaagreatdoor", sum := "3398cd6c18b76d3a0daa7adacb6bf3a07857e61e1e91012cbf1a9e949d193671", func := "loop.example/interlinear/laws.FnExactStmtRead", spec := "fnExactStmtRead", inPlace := ["internal/bytealg.IndexByteString", "internal/bytealg.IndexString", "internal/abi.NoEscape", "internal/bytealg.MakeNoZero", "internal/reflectlite.TypeOf"], unfollowed := true, recurses := true, named := ["loop.example/interlinear/impl.errNoLine", "strconv.ErrSyntax", "strconv.ErrRange", "internal/strconv.uint64pow10", "math/bits.deBruijn32tab", "math/bits.deBruijn64tab", "internal/bytealg.MaxLen"], ifaces := true, plainKeys := false, apart := false, laid := [("math/bits.deBruijn32tab", laid_math_bits_deBruijn32tab), ("math/bits.deBruijn64tab", laid_math_bits_deBruijn64tab), ("internal/strconv.uint64pow10", laid_internal_strconv_uint64pow10), ("strconv.ErrRange", laid_strconv_ErrRange), ("strconv.ErrSyntax", laid_strconv_ErrSyntax), ("loop.example/interlinear/impl.errNoLine", laid_loop_example_interlinear_impl_errNoLine)] }
def FnExactStmtReadSaid : Prop := fnExactStmtReadRow.holds Tryz.pinned (OpenSpec.ofChange fnExactStmtReadSpec)

/-- ITS FALSE NEIGHBOUR: 'it returns false'. Refute it at one input. -/
def fnExactStmtReadWrong : ChangeSpec := { name := "fnExactStmtRead", vars := ["loop.example/interlinear/impl.errNoLine"], fn := fun _ => fun
  | [d, g1] => { results := [.lit (.bool false)], args := [d], vars := [g1] }
  | _ => none }
def FnExactStmtReadWrongFalsely : Prop := fnExactStmtReadRow.holds Tryz.pinned (OpenSpec.ofChange fnExactStmtReadWrong)

/-- 'laws.FnExactProgType': WHATEVER THE INPUT: true; the input reads as it did. -/
def fnExactProgTypeSpec : ChangeSpec := { name := "fnExactProgType", vars := ["loop.example/interlinear/impl.errNoLine"], fn := fun _ => fun
  | [d, g1] => { results := [.lit (.bool true)], args := [d], vars := [g1] }
  | _ => none }
def fnExactProgTypeRow : OpenClaim := { program := "ytfknelkbdoiokaagreatdoor", sum := "3398cd6c18b76d3a0daa7adacb6bf3a07857e61e1e91012cbf1a9e949d193671", func := "loop.example/interlinear/laws.FnExactProgType", spec := "fnExactProgType", inPlace := ["internal/bytealg.IndexByteString", "internal/bytealg.IndexString", "internal/abi.NoEscape", "internal/bytealg.MakeNoZero", "internal/reflectlite.TypeOf"], unfollowed := true, recurses := true, named := ["loop.example/interlinear/impl.errNoLine", "strconv.ErrSyntax", "strconv.ErrRange", "internal/strconv.uint64pow10", "math/bits.deBruijn32tab", "math/bits.deBruijn64tab", "internal/bytealg.MaxLen"], ifaces := true, loops := true, plainKeys := false, apart := false, laid := [("math/bits.deBruijn32tab", laid_math_bits_deBruijn32tab), ("math/bits.deBruijn64tab", laid_math_bits_deBruijn64tab), ("internal/strconv.uint64pow10", laid_internal_strconv_uint64pow10), ("strconv.ErrRange", laid_strconv_ErrRange), ("strconv.ErrSyntax", laid_strconv_ErrSyntax), ("loop.example/interlinear/impl.errNoLine", laid_loop_example_interlinear_impl_errNoLine)] }
def FnExactProgTypeSaid : Prop := fnExactProgTypeRow.holds Tryz.pinned (OpenSpec.ofChange fnExactProgTypeSpec)

/-- ITS FALSE NEIGHBOUR: 'it returns false'. Refute it at one input. -/
def fnExactProgTypeWrong : ChangeSpec := { name := "fnExactProgType", vars := ["loop.example/interlinear/impl.errNoLine"], fn := fun _ => fun
  | [d, g1] => { results := [.lit (.bool false)], args := [d], vars := [g1] }
  | _ => none }
def FnExactProgTypeWrongFalsely : Prop := fnExactProgTypeRow.holds Tryz.pinned (OpenSpec.ofChange fnExactProgTypeWrong)

/-- 'laws.FnExactProgRun': WHATEVER THE INPUT: true; the input reads as it did. -/
def fnExactProgRunSpec : ChangeSpec := { name := "fnExactProgRun", vars := ["loop.example/interlinear/impl.errNoLine"], fn := fun _ => fun
  | [d, g1] => { results := [.lit (.bool true)], args := [d], vars := [g1] }
  | _ => none }
def fnExactProgRunRow : OpenClaim := { program := "ytfknelkbdoiokaagreatdoor", sum := "3398cd6c18b76d3a0daa7adacb6bf3a07857e61e1e91012cbf1a9e949d193671", func := "loop.example/interlinear/laws.FnExactProgRun", spec := "fnExactProgRun", inPlace := ["internal/bytealg.IndexByteString", "internal/bytealg.IndexString", "internal/abi.NoEscape", "internal/bytealg.MakeNoZero", "internal/reflectlite.TypeOf"], unfollowed := true, recurses := true, named := ["loop.example/interlinear/impl.errNoLine", "strconv.ErrSyntax", "strconv.ErrRange", "internal/strconv.uint64pow10", "math/bits.deBruijn32tab", "math/bits.deBruijn64tab", "internal/bytealg.MaxLen"], ifaces := true, loops := true, plainKeys := false, apart := false, laid := [("math/bits.deBruijn32tab", laid_math_bits_deBruijn32tab), ("math/bits.deBruijn64tab", laid_math_bits_deBruijn64tab), ("internal/strconv.uint64pow10", laid_internal_strconv_uint64pow10), ("strconv.ErrRange", laid_strconv_ErrRange), ("strconv.ErrSyntax", laid_strconv_ErrSyntax), ("loop.example/interlinear/impl.errNoLine", laid_loop_example_interlinear_impl_errNoLine)] }
def FnExactProgRunSaid : Prop := fnExactProgRunRow.holds Tryz.pinned (OpenSpec.ofChange fnExactProgRunSpec)

/-- ITS FALSE NEIGHBOUR: 'it returns false'. Refute it at one input. -/
def fnExactProgRunWrong : ChangeSpec := { name := "fnExactProgRun", vars := ["loop.example/interlinear/impl.errNoLine"], fn := fun _ => fun
  | [d, g1] => { results := [.lit (.bool false)], args := [d], vars := [g1] }
  | _ => none }
def FnExactProgRunWrongFalsely : Prop := fnExactProgRunRow.holds Tryz.pinned (OpenSpec.ofChange fnExactProgRunWrong)

/-- 'laws.FnExactBareOf': WHATEVER THE INPUT: true; the input reads as it did. -/
def fnExactBareOfSpec : ChangeSpec := { name := "fnExactBareOf", vars := ["loop.example/interlinear/impl.errNoLine"], fn := fun _ => fun
  | [d, g1] => { results := [.lit (.bool true)], args := [d], vars := [g1] }
  | _ => none }
def fnExactBareOfRow : OpenClaim := { program := "ytfknelkbdoiokaagreatdoor", sum := "3398cd6c18b76d3a0daa7adacb6bf3a07857e61e1e91012cbf1a9e949d193671", func := "loop.example/interlinear/laws.FnExactBareOf", spec := "fnExactBareOf", inPlace := ["internal/bytealg.IndexByteString", "internal/bytealg.IndexString", "internal/abi.NoEscape", "internal/bytealg.MakeNoZero", "internal/reflectlite.TypeOf"], unfollowed := true, recurses := true, named := ["loop.example/interlinear/impl.errNoLine", "strconv.ErrSyntax", "strconv.ErrRange", "internal/strconv.uint64pow10", "math/bits.deBruijn32tab", "math/bits.deBruijn64tab", "internal/bytealg.MaxLen"], ifaces := true, loops := true, plainKeys := false, apart := false, laid := [("math/bits.deBruijn32tab", laid_math_bits_deBruijn32tab), ("math/bits.deBruijn64tab", laid_math_bits_deBruijn64tab), ("internal/strconv.uint64pow10", laid_internal_strconv_uint64pow10), ("strconv.ErrRange", laid_strconv_ErrRange), ("strconv.ErrSyntax", laid_strconv_ErrSyntax), ("loop.example/interlinear/impl.errNoLine", laid_loop_example_interlinear_impl_errNoLine)] }
def FnExactBareOfSaid : Prop := fnExactBareOfRow.holds Tryz.pinned (OpenSpec.ofChange fnExactBareOfSpec)

/-- ITS FALSE NEIGHBOUR: 'it returns false'. Refute it at one input. -/
def fnExactBareOfWrong : ChangeSpec := { name := "fnExactBareOf", vars := ["loop.example/interlinear/impl.errNoLine"], fn := fun _ => fun
  | [d, g1] => { results := [.lit (.bool false)], args := [d], vars := [g1] }
  | _ => none }
def FnExactBareOfWrongFalsely : Prop := fnExactBareOfRow.holds Tryz.pinned (OpenSpec.ofChange fnExactBareOfWrong)

/- THE SECOND FORM. 'bulk': how many values and letters a reading holds, each counted each time it is reached (what is shared counts as often as it is met; a slice's spare places count too). A statement '..UptoSaid' is the law's where the arguments, and the package variables that the reading takes, are together of bulk at most 1048576: NARROWER than '..Said'. Prove '..Said' where nothing that the law and all that it calls make is longer than what came in: it says more and counts as full. Else prove '..UptoSaid'. A law counts once. -/
mutual
def uptoBulk {H : Type} : DataW H → Nat
  | .lit (.string bytes) => bytes.length + 1
  | .lit _ => 1
  | .nil => 1
  | .ptr d => uptoBulk d + 1
  | .slice elems spare => uptoBulkAll elems + uptoBulkAll spare + 1
  | .agg parts => uptoBulkAll parts + 1
  | .iface _ d => uptoBulk d + 1
  | .map entries => uptoBulkEntries entries + 1
  | .held _ => 1
def uptoBulkAll {H : Type} : List (DataW H) → Nat
  | [] => 0
  | d :: r => uptoBulk d + uptoBulkAll r
def uptoBulkEntries {H : Type} : List (Lit × DataW H) → Nat
  | [] => 0
  | x :: r => uptoBulkEntry x + uptoBulkEntries r
def uptoBulkEntry {H : Type} : Lit × DataW H → Nat
  | (.string bytes, d) => bytes.length + uptoBulk d + 1
  | (_, d) => uptoBulk d + 1
 end
def uptoSmall : (H : Type) → List (DataW H) → Bool := fun _ ds => decide (uptoBulkAll ds ≤ 1048576)
def OpenSpec.upto (s : _root_.Go.ChangeSpec) : _root_.Go.OpenSpec := { _root_.Go.OpenSpec.ofChange s with cond := some uptoSmall }

/-- 'laws.FnExprLast', WHERE WHAT IT READS IS OF BULK AT MOST 1048576: true; the input reads as it did. -/
def fnExprLastUptoRow : OpenClaim := { program := "ytfknelkbdoiokaagreatdoor", sum := "3398cd6c18b76d3a0daa7adacb6bf3a07857e61e1e91012cbf1a9e949d193671", func := "loop.example/interlinear/laws.FnExprLast", spec := "fnExprLast", inPlace := ["internal/bytealg.IndexByteString", "internal/bytealg.IndexString"], unfollowed := true, recurses := true, named := ["strconv.ErrSyntax", "strconv.ErrRange", "internal/strconv.uint64pow10", "math/bits.deBruijn32tab", "math/bits.deBruijn64tab", "internal/bytealg.MaxLen"], plainKeys := false, apart := false, laid := [("math/bits.deBruijn32tab", laid_math_bits_deBruijn32tab), ("math/bits.deBruijn64tab", laid_math_bits_deBruijn64tab), ("internal/strconv.uint64pow10", laid_internal_strconv_uint64pow10), ("strconv.ErrRange", laid_strconv_ErrRange), ("strconv.ErrSyntax", laid_strconv_ErrSyntax)], narrowed := true }
def FnExprLastUptoSaid : Prop := fnExprLastUptoRow.holds Tryz.pinned (OpenSpec.upto fnExprLastSpec)

/-- 'laws.FnStmt', WHERE WHAT IT READS IS OF BULK AT MOST 1048576: true; the input reads as it did. -/
def fnStmtUptoRow : OpenClaim := { program := "ytfknelkbdoiokaagreatdoor", sum := "3398cd6c18b76d3a0daa7adacb6bf3a07857e61e1e91012cbf1a9e949d193671", func := "loop.example/interlinear/laws.FnStmt", spec := "fnStmt", inPlace := ["internal/bytealg.IndexByteString", "internal/bytealg.IndexString", "internal/abi.NoEscape", "internal/bytealg.MakeNoZero", "internal/reflectlite.TypeOf"], unfollowed := true, recurses := true, named := ["loop.example/interlinear/impl.errNoLine", "strconv.ErrSyntax", "strconv.ErrRange", "internal/strconv.uint64pow10", "math/bits.deBruijn32tab", "math/bits.deBruijn64tab", "internal/bytealg.MaxLen"], ifaces := true, plainKeys := false, apart := false, laid := [("math/bits.deBruijn32tab", laid_math_bits_deBruijn32tab), ("math/bits.deBruijn64tab", laid_math_bits_deBruijn64tab), ("internal/strconv.uint64pow10", laid_internal_strconv_uint64pow10), ("strconv.ErrRange", laid_strconv_ErrRange), ("strconv.ErrSyntax", laid_strconv_ErrSyntax), ("loop.example/interlinear/impl.errNoLine", laid_loop_example_interlinear_impl_errNoLine)], narrowed := true }
def FnStmtUptoSaid : Prop := fnStmtUptoRow.holds Tryz.pinned (OpenSpec.upto fnStmtSpec)

/-- 'laws.FnStmtWords', WHERE WHAT IT READS IS OF BULK AT MOST 1048576: true; the input reads as it did. -/
def fnStmtWordsUptoRow : OpenClaim := { program := "ytfknelkbdoiokaagreatdoor", sum := "3398cd6c18b76d3a0daa7adacb6bf3a07857e61e1e91012cbf1a9e949d193671", func := "loop.example/interlinear/laws.FnStmtWords", spec := "fnStmtWords", inPlace := ["internal/bytealg.IndexByteString", "internal/bytealg.IndexString", "internal/abi.NoEscape", "internal/bytealg.MakeNoZero", "internal/reflectlite.TypeOf"], unfollowed := true, recurses := true, named := ["loop.example/interlinear/impl.errNoLine", "strconv.ErrSyntax", "strconv.ErrRange", "internal/strconv.uint64pow10", "math/bits.deBruijn32tab", "math/bits.deBruijn64tab", "internal/bytealg.MaxLen"], ifaces := true, plainKeys := false, apart := false, laid := [("math/bits.deBruijn32tab", laid_math_bits_deBruijn32tab), ("math/bits.deBruijn64tab", laid_math_bits_deBruijn64tab), ("internal/strconv.uint64pow10", laid_internal_strconv_uint64pow10), ("strconv.ErrRange", laid_strconv_ErrRange), ("strconv.ErrSyntax", laid_strconv_ErrSyntax), ("loop.example/interlinear/impl.errNoLine", laid_loop_example_interlinear_impl_errNoLine)], narrowed := true }
def FnStmtWordsUptoSaid : Prop := fnStmtWordsUptoRow.holds Tryz.pinned (OpenSpec.upto fnStmtWordsSpec)

/-- 'laws.FnBareOf', WHERE WHAT IT READS IS OF BULK AT MOST 1048576: true; the input reads as it did. -/
def fnBareOfUptoRow : OpenClaim := { program := "ytfknelkbdoiokaagreatdoor", sum := "3398cd6c18b76d3a0daa7adacb6bf3a07857e61e1e91012cbf1a9e949d193671", func := "loop.example/interlinear/laws.FnBareOf", spec := "fnBareOf", inPlace := ["internal/bytealg.IndexByteString", "internal/bytealg.IndexString", "internal/abi.NoEscape", "internal/bytealg.MakeNoZero", "internal/reflectlite.TypeOf"], unfollowed := true, recurses := true, named := ["loop.example/interlinear/impl.errNoLine", "strconv.ErrSyntax", "strconv.ErrRange", "internal/strconv.uint64pow10", "math/bits.deBruijn32tab", "math/bits.deBruijn64tab", "internal/bytealg.MaxLen"], ifaces := true, plainKeys := false, apart := false, laid := [("math/bits.deBruijn32tab", laid_math_bits_deBruijn32tab), ("math/bits.deBruijn64tab", laid_math_bits_deBruijn64tab), ("internal/strconv.uint64pow10", laid_internal_strconv_uint64pow10), ("strconv.ErrRange", laid_strconv_ErrRange), ("strconv.ErrSyntax", laid_strconv_ErrSyntax), ("loop.example/interlinear/impl.errNoLine", laid_loop_example_interlinear_impl_errNoLine)], narrowed := true }
def FnBareOfUptoSaid : Prop := fnBareOfUptoRow.holds Tryz.pinned (OpenSpec.upto fnBareOfSpec)

/-- 'laws.FnBareCast', WHERE WHAT IT READS IS OF BULK AT MOST 1048576: true; the input reads as it did. -/
def fnBareCastUptoRow : OpenClaim := { program := "ytfknelkbdoiokaagreatdoor", sum := "3398cd6c18b76d3a0daa7adacb6bf3a07857e61e1e91012cbf1a9e949d193671", func := "loop.example/interlinear/laws.FnBareCast", spec := "fnBareCast", inPlace := ["internal/bytealg.IndexByteString", "internal/bytealg.IndexString", "internal/abi.NoEscape", "internal/bytealg.MakeNoZero", "internal/reflectlite.TypeOf"], unfollowed := true, recurses := true, named := ["loop.example/interlinear/impl.errNoLine", "strconv.ErrSyntax", "strconv.ErrRange", "internal/strconv.uint64pow10", "math/bits.deBruijn32tab", "math/bits.deBruijn64tab", "internal/bytealg.MaxLen"], ifaces := true, plainKeys := false, apart := false, laid := [("math/bits.deBruijn32tab", laid_math_bits_deBruijn32tab), ("math/bits.deBruijn64tab", laid_math_bits_deBruijn64tab), ("internal/strconv.uint64pow10", laid_internal_strconv_uint64pow10), ("strconv.ErrRange", laid_strconv_ErrRange), ("strconv.ErrSyntax", laid_strconv_ErrSyntax), ("loop.example/interlinear/impl.errNoLine", laid_loop_example_interlinear_impl_errNoLine)], narrowed := true }
def FnBareCastUptoSaid : Prop := fnBareCastUptoRow.holds Tryz.pinned (OpenSpec.upto fnBareCastSpec)

/-- 'laws.FnExactStmtRead', WHERE WHAT IT READS IS OF BULK AT MOST 1048576: true; the input reads as it did. -/
def fnExactStmtReadUptoRow : OpenClaim := { program := "ytfknelkbdoiokaagreatdoor", sum := "3398cd6c18b76d3a0daa7adacb6bf3a07857e61e1e91012cbf1a9e949d193671", func := "loop.example/interlinear/laws.FnExactStmtRead", spec := "fnExactStmtRead", inPlace := ["internal/bytealg.IndexByteString", "internal/bytealg.IndexString", "internal/abi.NoEscape", "internal/bytealg.MakeNoZero", "internal/reflectlite.TypeOf"], unfollowed := true, recurses := true, named := ["loop.example/interlinear/impl.errNoLine", "strconv.ErrSyntax", "strconv.ErrRange", "internal/strconv.uint64pow10", "math/bits.deBruijn32tab", "math/bits.deBruijn64tab", "internal/bytealg.MaxLen"], ifaces := true, plainKeys := false, apart := false, laid := [("math/bits.deBruijn32tab", laid_math_bits_deBruijn32tab), ("math/bits.deBruijn64tab", laid_math_bits_deBruijn64tab), ("internal/strconv.uint64pow10", laid_internal_strconv_uint64pow10), ("strconv.ErrRange", laid_strconv_ErrRange), ("strconv.ErrSyntax", laid_strconv_ErrSyntax), ("loop.example/interlinear/impl.errNoLine", laid_loop_example_interlinear_impl_errNoLine)], narrowed := true }
def FnExactStmtReadUptoSaid : Prop := fnExactStmtReadUptoRow.holds Tryz.pinned (OpenSpec.upto fnExactStmtReadSpec)

/-- 'laws.FnExactProgType', WHERE WHAT IT READS IS OF BULK AT MOST 1048576: true; the input reads as it did. -/
def fnExactProgTypeUptoRow : OpenClaim := { program := "ytfknelkbdoiokaagreatdoor", sum := "3398cd6c18b76d3a0daa7adacb6bf3a07857e61e1e91012cbf1a9e949d193671", func := "loop.example/interlinear/laws.FnExactProgType", spec := "fnExactProgType", inPlace := ["internal/bytealg.IndexByteString", "internal/bytealg.IndexString", "internal/abi.NoEscape", "internal/bytealg.MakeNoZero", "internal/reflectlite.TypeOf"], unfollowed := true, recurses := true, named := ["loop.example/interlinear/impl.errNoLine", "strconv.ErrSyntax", "strconv.ErrRange", "internal/strconv.uint64pow10", "math/bits.deBruijn32tab", "math/bits.deBruijn64tab", "internal/bytealg.MaxLen"], ifaces := true, loops := true, plainKeys := false, apart := false, laid := [("math/bits.deBruijn32tab", laid_math_bits_deBruijn32tab), ("math/bits.deBruijn64tab", laid_math_bits_deBruijn64tab), ("internal/strconv.uint64pow10", laid_internal_strconv_uint64pow10), ("strconv.ErrRange", laid_strconv_ErrRange), ("strconv.ErrSyntax", laid_strconv_ErrSyntax), ("loop.example/interlinear/impl.errNoLine", laid_loop_example_interlinear_impl_errNoLine)], narrowed := true }
def FnExactProgTypeUptoSaid : Prop := fnExactProgTypeUptoRow.holds Tryz.pinned (OpenSpec.upto fnExactProgTypeSpec)

/-- 'laws.FnExactProgRun', WHERE WHAT IT READS IS OF BULK AT MOST 1048576: true; the input reads as it did. -/
def fnExactProgRunUptoRow : OpenClaim := { program := "ytfknelkbdoiokaagreatdoor", sum := "3398cd6c18b76d3a0daa7adacb6bf3a07857e61e1e91012cbf1a9e949d193671", func := "loop.example/interlinear/laws.FnExactProgRun", spec := "fnExactProgRun", inPlace := ["internal/bytealg.IndexByteString", "internal/bytealg.IndexString", "internal/abi.NoEscape", "internal/bytealg.MakeNoZero", "internal/reflectlite.TypeOf"], unfollowed := true, recurses := true, named := ["loop.example/interlinear/impl.errNoLine", "strconv.ErrSyntax", "strconv.ErrRange", "internal/strconv.uint64pow10", "math/bits.deBruijn32tab", "math/bits.deBruijn64tab", "internal/bytealg.MaxLen"], ifaces := true, loops := true, plainKeys := false, apart := false, laid := [("math/bits.deBruijn32tab", laid_math_bits_deBruijn32tab), ("math/bits.deBruijn64tab", laid_math_bits_deBruijn64tab), ("internal/strconv.uint64pow10", laid_internal_strconv_uint64pow10), ("strconv.ErrRange", laid_strconv_ErrRange), ("strconv.ErrSyntax", laid_strconv_ErrSyntax), ("loop.example/interlinear/impl.errNoLine", laid_loop_example_interlinear_impl_errNoLine)], narrowed := true }
def FnExactProgRunUptoSaid : Prop := fnExactProgRunUptoRow.holds Tryz.pinned (OpenSpec.upto fnExactProgRunSpec)

/-- 'laws.FnExactBareOf', WHERE WHAT IT READS IS OF BULK AT MOST 1048576: true; the input reads as it did. -/
def fnExactBareOfUptoRow : OpenClaim := { program := "ytfknelkbdoiokaagreatdoor", sum := "3398cd6c18b76d3a0daa7adacb6bf3a07857e61e1e91012cbf1a9e949d193671", func := "loop.example/interlinear/laws.FnExactBareOf", spec := "fnExactBareOf", inPlace := ["internal/bytealg.IndexByteString", "internal/bytealg.IndexString", "internal/abi.NoEscape", "internal/bytealg.MakeNoZero", "internal/reflectlite.TypeOf"], unfollowed := true, recurses := true, named := ["loop.example/interlinear/impl.errNoLine", "strconv.ErrSyntax", "strconv.ErrRange", "internal/strconv.uint64pow10", "math/bits.deBruijn32tab", "math/bits.deBruijn64tab", "internal/bytealg.MaxLen"], ifaces := true, loops := true, plainKeys := false, apart := false, laid := [("math/bits.deBruijn32tab", laid_math_bits_deBruijn32tab), ("math/bits.deBruijn64tab", laid_math_bits_deBruijn64tab), ("internal/strconv.uint64pow10", laid_internal_strconv_uint64pow10), ("strconv.ErrRange", laid_strconv_ErrRange), ("strconv.ErrSyntax", laid_strconv_ErrSyntax), ("loop.example/interlinear/impl.errNoLine", laid_loop_example_interlinear_impl_errNoLine)], narrowed := true }
def FnExactBareOfUptoSaid : Prop := fnExactBareOfUptoRow.holds Tryz.pinned (OpenSpec.upto fnExactBareOfSpec)

end Rows
end Go.Proofs.YtfknelkbdoiokaaGreatDoor
