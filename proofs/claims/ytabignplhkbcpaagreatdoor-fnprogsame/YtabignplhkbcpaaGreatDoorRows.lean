/-
  NARROWER THAN 'FOR EVERY INPUT', by the rows' own cells (each row's printed sentence says how): FnProgRun: ifaces, laid · FnProgType: ifaces, laid · FnProgBent: ifaces, laid · FnProgCast: ifaces, laid · FnProgLet: ifaces, laid · FnProgWhen: ifaces, laid · FnProgSame: ifaces, laid.
  DERIVED. THE GIVEN ROWS OF THIS SEAT. 7 by the template 'for every input the law returns true; each argument reads behind the call as it read before'; 0 by the template 'total and deterministic' (their statements: YtabignplhkbcpaaGreatDoorTotals.lean).
  GIVEN WITH THE SEED: the statements are not yours to turn. If you find one false, say at which input.
  Laid BY PROGRAM, IN A SANDBOX (cutbox-rows.mjs): the forced cells as the released guide's own fill.sh prints them over the translation 66dc939156bda89a… (all of the seat's roots in one cut). By AI agents, Wed Nov 11 2026. No macro, syntax, notation, axiom, sorry.
-/
import Derived.Test.YtabignplhkbcpaaGreatDoorChecked
import GoSem.Claim
import GoSem.ClaimJoined
import GoSem.ClaimMapViews
import Derived.JoinedTies
import Derived.KernelRfl
namespace Go.Proofs.YtabignplhkbcpaaGreatDoor
/- THE CELL 'sum', in the pinned program and in every row, IS THE sha256 OF THE DUMP (.gsa) THAT YtabignplhkbcpaaGreatDoorProg.lean LOADS. Nothing in Lean hashes anything: it is a label: what it is worth is what the hold of that sum in a sandbox is worth. -/
noncomputable def Tryz.pinned : Pinned := { name := "ytabignplhkbcpaagreatdoor", sum := "66dc939156bda89a94f40d5535cd1be4d52d282f218eff700df2b078fcafbed2", checked := Tryz.checked }
namespace Rows
def none {H : Type} : Left H := { results := [], args := [] }

/- WHAT THE LISTED PACKAGE-LEVEL VARIABLES READ AS WHEN THE CALL BEGINS. Each datum BY PROGRAM (the guide's laid-datum.mjs) off the statement by which the dump's own 'gosem.cut.vars' lays the variable. In a bare row this is a premise. The card (YtabignplhkbcpaaGreatDoorCards.lean) ties it to the program's text. -/
def laid_math_bits_deBruijn32tab {H : Type} : DataW H := .agg [.lit (.int .u8 0), .lit (.int .u8 1), .lit (.int .u8 28), .lit (.int .u8 2), .lit (.int .u8 29), .lit (.int .u8 14), .lit (.int .u8 24), .lit (.int .u8 3), .lit (.int .u8 30), .lit (.int .u8 22), .lit (.int .u8 20), .lit (.int .u8 15), .lit (.int .u8 25), .lit (.int .u8 17), .lit (.int .u8 4), .lit (.int .u8 8), .lit (.int .u8 31), .lit (.int .u8 27), .lit (.int .u8 13), .lit (.int .u8 23), .lit (.int .u8 21), .lit (.int .u8 19), .lit (.int .u8 16), .lit (.int .u8 7), .lit (.int .u8 26), .lit (.int .u8 12), .lit (.int .u8 18), .lit (.int .u8 6), .lit (.int .u8 11), .lit (.int .u8 5), .lit (.int .u8 10), .lit (.int .u8 9)]
def laid_math_bits_deBruijn64tab {H : Type} : DataW H := .agg [.lit (.int .u8 0), .lit (.int .u8 1), .lit (.int .u8 56), .lit (.int .u8 2), .lit (.int .u8 57), .lit (.int .u8 49), .lit (.int .u8 28), .lit (.int .u8 3), .lit (.int .u8 61), .lit (.int .u8 58), .lit (.int .u8 42), .lit (.int .u8 50), .lit (.int .u8 38), .lit (.int .u8 29), .lit (.int .u8 17), .lit (.int .u8 4), .lit (.int .u8 62), .lit (.int .u8 47), .lit (.int .u8 59), .lit (.int .u8 36), .lit (.int .u8 45), .lit (.int .u8 43), .lit (.int .u8 51), .lit (.int .u8 22), .lit (.int .u8 53), .lit (.int .u8 39), .lit (.int .u8 33), .lit (.int .u8 30), .lit (.int .u8 24), .lit (.int .u8 18), .lit (.int .u8 12), .lit (.int .u8 5), .lit (.int .u8 63), .lit (.int .u8 55), .lit (.int .u8 48), .lit (.int .u8 27), .lit (.int .u8 60), .lit (.int .u8 41), .lit (.int .u8 37), .lit (.int .u8 16), .lit (.int .u8 46), .lit (.int .u8 35), .lit (.int .u8 44), .lit (.int .u8 21), .lit (.int .u8 52), .lit (.int .u8 32), .lit (.int .u8 23), .lit (.int .u8 11), .lit (.int .u8 54), .lit (.int .u8 26), .lit (.int .u8 40), .lit (.int .u8 15), .lit (.int .u8 34), .lit (.int .u8 20), .lit (.int .u8 31), .lit (.int .u8 10), .lit (.int .u8 25), .lit (.int .u8 14), .lit (.int .u8 19), .lit (.int .u8 9), .lit (.int .u8 13), .lit (.int .u8 8), .lit (.int .u8 7), .lit (.int .u8 6)]
def laid_internal_strconv_uint64pow10 {H : Type} : DataW H := .agg [.lit (.int .u64 1), .lit (.int .u64 10), .lit (.int .u64 100), .lit (.int .u64 1000), .lit (.int .u64 10000), .lit (.int .u64 100000), .lit (.int .u64 1000000), .lit (.int .u64 10000000), .lit (.int .u64 100000000), .lit (.int .u64 1000000000), .lit (.int .u64 10000000000), .lit (.int .u64 100000000000), .lit (.int .u64 1000000000000), .lit (.int .u64 10000000000000), .lit (.int .u64 100000000000000), .lit (.int .u64 1000000000000000), .lit (.int .u64 10000000000000000), .lit (.int .u64 100000000000000000), .lit (.int .u64 1000000000000000000), .lit (.int .u64 10000000000000000000)]
def laid_strconv_ErrRange {H : Type} : DataW H := .iface "*errors.errorString" (.ptr (.agg [.lit (.string [118, 97, 108, 117, 101, 32, 111, 117, 116, 32, 111, 102, 32, 114, 97, 110, 103, 101])]))
def laid_strconv_ErrSyntax {H : Type} : DataW H := .iface "*errors.errorString" (.ptr (.agg [.lit (.string [105, 110, 118, 97, 108, 105, 100, 32, 115, 121, 110, 116, 97, 120])]))
def laid_loop_example_interlinear_impl_errNoLine {H : Type} : DataW H := .iface "*errors.errorString" (.ptr (.agg [.lit (.string [110, 111, 32, 108, 105, 110, 101])]))

/-- 'laws.FnProgRun': WHATEVER THE INPUT: true; the input reads as it did. -/
def fnProgRunSpec : ChangeSpec := { name := "fnProgRun", vars := ["loop.example/interlinear/impl.errNoLine"], fn := fun _ => fun
  | [d1, d2, g1] => { results := [.lit (.bool true)], args := [d1, d2], vars := [g1] }
  | _ => none }
def fnProgRunRow : OpenClaim := { program := "ytabignplhkbcpaagreatdoor", sum := "66dc939156bda89a94f40d5535cd1be4d52d282f218eff700df2b078fcafbed2", func := "loop.example/interlinear/laws.FnProgRun", spec := "fnProgRun", inPlace := ["internal/bytealg.IndexByteString", "internal/bytealg.IndexString", "internal/abi.NoEscape", "internal/bytealg.MakeNoZero", "internal/reflectlite.TypeOf"], unfollowed := true, recurses := true, named := ["loop.example/interlinear/impl.errNoLine", "strconv.ErrSyntax", "strconv.ErrRange", "internal/strconv.uint64pow10", "math/bits.deBruijn32tab", "math/bits.deBruijn64tab", "internal/bytealg.MaxLen"], ifaces := true, plainKeys := false, apart := false, laid := [("math/bits.deBruijn32tab", laid_math_bits_deBruijn32tab), ("math/bits.deBruijn64tab", laid_math_bits_deBruijn64tab), ("internal/strconv.uint64pow10", laid_internal_strconv_uint64pow10), ("strconv.ErrRange", laid_strconv_ErrRange), ("strconv.ErrSyntax", laid_strconv_ErrSyntax), ("loop.example/interlinear/impl.errNoLine", laid_loop_example_interlinear_impl_errNoLine)] }
def FnProgRunSaid : Prop := fnProgRunRow.holds Tryz.pinned (OpenSpec.ofChange fnProgRunSpec)

/-- ITS FALSE NEIGHBOUR: 'it returns false'. Refute it at one input. -/
def fnProgRunWrong : ChangeSpec := { name := "fnProgRun", vars := ["loop.example/interlinear/impl.errNoLine"], fn := fun _ => fun
  | [d1, d2, g1] => { results := [.lit (.bool false)], args := [d1, d2], vars := [g1] }
  | _ => none }
def FnProgRunWrongFalsely : Prop := fnProgRunRow.holds Tryz.pinned (OpenSpec.ofChange fnProgRunWrong)

/-- 'laws.FnProgType': WHATEVER THE INPUT: true; the input reads as it did. -/
def fnProgTypeSpec : ChangeSpec := { name := "fnProgType", vars := ["loop.example/interlinear/impl.errNoLine"], fn := fun _ => fun
  | [d, g1] => { results := [.lit (.bool true)], args := [d], vars := [g1] }
  | _ => none }
def fnProgTypeRow : OpenClaim := { program := "ytabignplhkbcpaagreatdoor", sum := "66dc939156bda89a94f40d5535cd1be4d52d282f218eff700df2b078fcafbed2", func := "loop.example/interlinear/laws.FnProgType", spec := "fnProgType", inPlace := ["internal/bytealg.IndexByteString", "internal/bytealg.IndexString", "internal/abi.NoEscape", "internal/bytealg.MakeNoZero", "internal/reflectlite.TypeOf"], unfollowed := true, recurses := true, named := ["loop.example/interlinear/impl.errNoLine", "strconv.ErrSyntax", "strconv.ErrRange", "internal/strconv.uint64pow10", "math/bits.deBruijn32tab", "math/bits.deBruijn64tab", "internal/bytealg.MaxLen"], ifaces := true, plainKeys := false, apart := false, laid := [("math/bits.deBruijn32tab", laid_math_bits_deBruijn32tab), ("math/bits.deBruijn64tab", laid_math_bits_deBruijn64tab), ("internal/strconv.uint64pow10", laid_internal_strconv_uint64pow10), ("strconv.ErrRange", laid_strconv_ErrRange), ("strconv.ErrSyntax", laid_strconv_ErrSyntax), ("loop.example/interlinear/impl.errNoLine", laid_loop_example_interlinear_impl_errNoLine)] }
def FnProgTypeSaid : Prop := fnProgTypeRow.holds Tryz.pinned (OpenSpec.ofChange fnProgTypeSpec)

/-- ITS FALSE NEIGHBOUR: 'it returns false'. Refute it at one input. -/
def fnProgTypeWrong : ChangeSpec := { name := "fnProgType", vars := ["loop.example/interlinear/impl.errNoLine"], fn := fun _ => fun
  | [d, g1] => { results := [.lit (.bool false)], args := [d], vars := [g1] }
  | _ => none }
def FnProgTypeWrongFalsely : Prop := fnProgTypeRow.holds Tryz.pinned (OpenSpec.ofChange fnProgTypeWrong)

/-- 'laws.FnProgBent': WHATEVER THE INPUT: true; the input reads as it did. -/
def fnProgBentSpec : ChangeSpec := { name := "fnProgBent", vars := ["loop.example/interlinear/impl.errNoLine"], fn := fun _ => fun
  | [d, g1] => { results := [.lit (.bool true)], args := [d], vars := [g1] }
  | _ => none }
def fnProgBentRow : OpenClaim := { program := "ytabignplhkbcpaagreatdoor", sum := "66dc939156bda89a94f40d5535cd1be4d52d282f218eff700df2b078fcafbed2", func := "loop.example/interlinear/laws.FnProgBent", spec := "fnProgBent", inPlace := ["internal/bytealg.IndexByteString", "internal/bytealg.IndexString", "internal/abi.NoEscape", "internal/bytealg.MakeNoZero", "internal/reflectlite.TypeOf"], unfollowed := true, recurses := true, named := ["loop.example/interlinear/impl.errNoLine", "strconv.ErrSyntax", "strconv.ErrRange", "internal/strconv.uint64pow10", "math/bits.deBruijn32tab", "math/bits.deBruijn64tab", "internal/bytealg.MaxLen"], ifaces := true, plainKeys := false, apart := false, laid := [("math/bits.deBruijn32tab", laid_math_bits_deBruijn32tab), ("math/bits.deBruijn64tab", laid_math_bits_deBruijn64tab), ("internal/strconv.uint64pow10", laid_internal_strconv_uint64pow10), ("strconv.ErrRange", laid_strconv_ErrRange), ("strconv.ErrSyntax", laid_strconv_ErrSyntax), ("loop.example/interlinear/impl.errNoLine", laid_loop_example_interlinear_impl_errNoLine)] }
def FnProgBentSaid : Prop := fnProgBentRow.holds Tryz.pinned (OpenSpec.ofChange fnProgBentSpec)

/-- ITS FALSE NEIGHBOUR: 'it returns false'. Refute it at one input. -/
def fnProgBentWrong : ChangeSpec := { name := "fnProgBent", vars := ["loop.example/interlinear/impl.errNoLine"], fn := fun _ => fun
  | [d, g1] => { results := [.lit (.bool false)], args := [d], vars := [g1] }
  | _ => none }
def FnProgBentWrongFalsely : Prop := fnProgBentRow.holds Tryz.pinned (OpenSpec.ofChange fnProgBentWrong)

/-- 'laws.FnProgCast': WHATEVER THE INPUT: true; the input reads as it did. -/
def fnProgCastSpec : ChangeSpec := { name := "fnProgCast", vars := ["loop.example/interlinear/impl.errNoLine"], fn := fun _ => fun
  | [d, g1] => { results := [.lit (.bool true)], args := [d], vars := [g1] }
  | _ => none }
def fnProgCastRow : OpenClaim := { program := "ytabignplhkbcpaagreatdoor", sum := "66dc939156bda89a94f40d5535cd1be4d52d282f218eff700df2b078fcafbed2", func := "loop.example/interlinear/laws.FnProgCast", spec := "fnProgCast", inPlace := ["internal/bytealg.IndexByteString", "internal/bytealg.IndexString", "internal/abi.NoEscape", "internal/bytealg.MakeNoZero", "internal/reflectlite.TypeOf"], unfollowed := true, recurses := true, named := ["loop.example/interlinear/impl.errNoLine", "strconv.ErrSyntax", "strconv.ErrRange", "internal/strconv.uint64pow10", "math/bits.deBruijn32tab", "math/bits.deBruijn64tab", "internal/bytealg.MaxLen"], ifaces := true, plainKeys := false, apart := false, laid := [("math/bits.deBruijn32tab", laid_math_bits_deBruijn32tab), ("math/bits.deBruijn64tab", laid_math_bits_deBruijn64tab), ("internal/strconv.uint64pow10", laid_internal_strconv_uint64pow10), ("strconv.ErrRange", laid_strconv_ErrRange), ("strconv.ErrSyntax", laid_strconv_ErrSyntax), ("loop.example/interlinear/impl.errNoLine", laid_loop_example_interlinear_impl_errNoLine)] }
def FnProgCastSaid : Prop := fnProgCastRow.holds Tryz.pinned (OpenSpec.ofChange fnProgCastSpec)

/-- ITS FALSE NEIGHBOUR: 'it returns false'. Refute it at one input. -/
def fnProgCastWrong : ChangeSpec := { name := "fnProgCast", vars := ["loop.example/interlinear/impl.errNoLine"], fn := fun _ => fun
  | [d, g1] => { results := [.lit (.bool false)], args := [d], vars := [g1] }
  | _ => none }
def FnProgCastWrongFalsely : Prop := fnProgCastRow.holds Tryz.pinned (OpenSpec.ofChange fnProgCastWrong)

/-- 'laws.FnProgLet': WHATEVER THE INPUT: true; the input reads as it did. -/
def fnProgLetSpec : ChangeSpec := { name := "fnProgLet", vars := ["loop.example/interlinear/impl.errNoLine"], fn := fun _ => fun
  | [d, g1] => { results := [.lit (.bool true)], args := [d], vars := [g1] }
  | _ => none }
def fnProgLetRow : OpenClaim := { program := "ytabignplhkbcpaagreatdoor", sum := "66dc939156bda89a94f40d5535cd1be4d52d282f218eff700df2b078fcafbed2", func := "loop.example/interlinear/laws.FnProgLet", spec := "fnProgLet", inPlace := ["internal/bytealg.IndexByteString", "internal/bytealg.IndexString", "internal/abi.NoEscape", "internal/bytealg.MakeNoZero", "internal/reflectlite.TypeOf"], unfollowed := true, recurses := true, named := ["loop.example/interlinear/impl.errNoLine", "strconv.ErrSyntax", "strconv.ErrRange", "internal/strconv.uint64pow10", "math/bits.deBruijn32tab", "math/bits.deBruijn64tab", "internal/bytealg.MaxLen"], ifaces := true, plainKeys := false, apart := false, laid := [("math/bits.deBruijn32tab", laid_math_bits_deBruijn32tab), ("math/bits.deBruijn64tab", laid_math_bits_deBruijn64tab), ("internal/strconv.uint64pow10", laid_internal_strconv_uint64pow10), ("strconv.ErrRange", laid_strconv_ErrRange), ("strconv.ErrSyntax", laid_strconv_ErrSyntax), ("loop.example/interlinear/impl.errNoLine", laid_loop_example_interlinear_impl_errNoLine)] }
def FnProgLetSaid : Prop := fnProgLetRow.holds Tryz.pinned (OpenSpec.ofChange fnProgLetSpec)

/-- ITS FALSE NEIGHBOUR: 'it returns false'. Refute it at one input. -/
def fnProgLetWrong : ChangeSpec := { name := "fnProgLet", vars := ["loop.example/interlinear/impl.errNoLine"], fn := fun _ => fun
  | [d, g1] => { results := [.lit (.bool false)], args := [d], vars := [g1] }
  | _ => none }
def FnProgLetWrongFalsely : Prop := fnProgLetRow.holds Tryz.pinned (OpenSpec.ofChange fnProgLetWrong)

/-- 'laws.FnProgWhen': WHATEVER THE INPUT: true; the input reads as it did. -/
def fnProgWhenSpec : ChangeSpec := { name := "fnProgWhen", vars := ["loop.example/interlinear/impl.errNoLine"], fn := fun _ => fun
  | [d, g1] => { results := [.lit (.bool true)], args := [d], vars := [g1] }
  | _ => none }
def fnProgWhenRow : OpenClaim := { program := "ytabignplhkbcpaagreatdoor", sum := "66dc939156bda89a94f40d5535cd1be4d52d282f218eff700df2b078fcafbed2", func := "loop.example/interlinear/laws.FnProgWhen", spec := "fnProgWhen", inPlace := ["internal/bytealg.IndexByteString", "internal/bytealg.IndexString", "internal/abi.NoEscape", "internal/bytealg.MakeNoZero", "internal/reflectlite.TypeOf"], unfollowed := true, recurses := true, named := ["loop.example/interlinear/impl.errNoLine", "strconv.ErrSyntax", "strconv.ErrRange", "internal/strconv.uint64pow10", "math/bits.deBruijn32tab", "math/bits.deBruijn64tab", "internal/bytealg.MaxLen"], ifaces := true, plainKeys := false, apart := false, laid := [("math/bits.deBruijn32tab", laid_math_bits_deBruijn32tab), ("math/bits.deBruijn64tab", laid_math_bits_deBruijn64tab), ("internal/strconv.uint64pow10", laid_internal_strconv_uint64pow10), ("strconv.ErrRange", laid_strconv_ErrRange), ("strconv.ErrSyntax", laid_strconv_ErrSyntax), ("loop.example/interlinear/impl.errNoLine", laid_loop_example_interlinear_impl_errNoLine)] }
def FnProgWhenSaid : Prop := fnProgWhenRow.holds Tryz.pinned (OpenSpec.ofChange fnProgWhenSpec)

/-- ITS FALSE NEIGHBOUR: 'it returns false'. Refute it at one input. -/
def fnProgWhenWrong : ChangeSpec := { name := "fnProgWhen", vars := ["loop.example/interlinear/impl.errNoLine"], fn := fun _ => fun
  | [d, g1] => { results := [.lit (.bool false)], args := [d], vars := [g1] }
  | _ => none }
def FnProgWhenWrongFalsely : Prop := fnProgWhenRow.holds Tryz.pinned (OpenSpec.ofChange fnProgWhenWrong)

/-- 'laws.FnProgSame': WHATEVER THE INPUT: true; the input reads as it did. -/
def fnProgSameSpec : ChangeSpec := { name := "fnProgSame", vars := ["loop.example/interlinear/impl.errNoLine"], fn := fun _ => fun
  | [d1, d2, g1] => { results := [.lit (.bool true)], args := [d1, d2], vars := [g1] }
  | _ => none }
def fnProgSameRow : OpenClaim := { program := "ytabignplhkbcpaagreatdoor", sum := "66dc939156bda89a94f40d5535cd1be4d52d282f218eff700df2b078fcafbed2", func := "loop.example/interlinear/laws.FnProgSame", spec := "fnProgSame", inPlace := ["internal/bytealg.IndexByteString", "internal/bytealg.IndexString", "internal/abi.NoEscape", "internal/bytealg.MakeNoZero", "internal/reflectlite.TypeOf"], unfollowed := true, recurses := true, named := ["loop.example/interlinear/impl.errNoLine", "strconv.ErrSyntax", "strconv.ErrRange", "internal/strconv.uint64pow10", "math/bits.deBruijn32tab", "math/bits.deBruijn64tab", "internal/bytealg.MaxLen"], ifaces := true, plainKeys := false, apart := false, laid := [("math/bits.deBruijn32tab", laid_math_bits_deBruijn32tab), ("math/bits.deBruijn64tab", laid_math_bits_deBruijn64tab), ("internal/strconv.uint64pow10", laid_internal_strconv_uint64pow10), ("strconv.ErrRange", laid_strconv_ErrRange), ("strconv.ErrSyntax", laid_strconv_ErrSyntax), ("loop.example/interlinear/impl.errNoLine", laid_loop_example_interlinear_impl_errNoLine)] }
def FnProgSameSaid : Prop := fnProgSameRow.holds Tryz.pinned (OpenSpec.ofChange fnProgSameSpec)

/-- ITS FALSE NEIGHBOUR: 'it returns false'. Refute it at one input. -/
def fnProgSameWrong : ChangeSpec := { name := "fnProgSame", vars := ["loop.example/interlinear/impl.errNoLine"], fn := fun _ => fun
  | [d1, d2, g1] => { results := [.lit (.bool false)], args := [d1, d2], vars := [g1] }
  | _ => none }
def FnProgSameWrongFalsely : Prop := fnProgSameRow.holds Tryz.pinned (OpenSpec.ofChange fnProgSameWrong)

/- THE SECOND FORM. 'bulk': how many values and letters a reading holds, each counted each time it is reached (what is shared counts as often as it is met; a slice's spare places count too). A statement '..UptoSaid' is the law's where the arguments, and the package variables that the reading takes, are together of bulk at most 1048576: NARROWER than '..Said'. Prove '..Said' where nothing that the law and all that it calls make is longer than what came in: it says more and counts as full. Else prove '..UptoSaid'. A law counts once. -/
mutual
def uptoBulk {H : Type} : DataW H → Nat
  | .lit (.string bytes) => bytes.length + 1
  | .lit _ => 1
  | .nil => 1
  | .ptr d => uptoBulk d + 1
  | .slice elems spare => uptoBulkAll elems + uptoBulkAll spare + 1
  | .agg parts => uptoBulkAll parts + 1
  | .iface _ d => uptoBulk d + 1
  | .map entries => uptoBulkEntries entries + 1
  | .held _ => 1
def uptoBulkAll {H : Type} : List (DataW H) → Nat
  | [] => 0
  | d :: r => uptoBulk d + uptoBulkAll r
def uptoBulkEntries {H : Type} : List (Lit × DataW H) → Nat
  | [] => 0
  | x :: r => uptoBulkEntry x + uptoBulkEntries r
def uptoBulkEntry {H : Type} : Lit × DataW H → Nat
  | (.string bytes, d) => bytes.length + uptoBulk d + 1
  | (_, d) => uptoBulk d + 1
 end
def uptoSmall : (H : Type) → List (DataW H) → Bool := fun _ ds => decide (uptoBulkAll ds ≤ 1048576)
def OpenSpec.upto (s : _root_.Go.ChangeSpec) : _root_.Go.OpenSpec := { _root_.Go.OpenSpec.ofChange s with cond := some uptoSmall }

/-- 'laws.FnProgRun', WHERE WHAT IT READS IS OF BULK AT MOST 1048576: true; the input reads as it did. -/
def fnProgRunUptoRow : OpenClaim := { program := "ytabignplhkbcpaagreatdoor", sum := "66dc939156bda89a94f40d5535cd1be4d52d282f218eff700df2b078fcafbed2", func := "loop.example/interlinear/laws.FnProgRun", spec := "fnProgRun", inPlace := ["internal/bytealg.IndexByteString", "internal/bytealg.IndexString", "internal/abi.NoEscape", "internal/bytealg.MakeNoZero", "internal/reflectlite.TypeOf"], unfollowed := true, recurses := true, named := ["loop.example/interlinear/impl.errNoLine", "strconv.ErrSyntax", "strconv.ErrRange", "internal/strconv.uint64pow10", "math/bits.deBruijn32tab", "math/bits.deBruijn64tab", "internal/bytealg.MaxLen"], ifaces := true, plainKeys := false, apart := false, laid := [("math/bits.deBruijn32tab", laid_math_bits_deBruijn32tab), ("math/bits.deBruijn64tab", laid_math_bits_deBruijn64tab), ("internal/strconv.uint64pow10", laid_internal_strconv_uint64pow10), ("strconv.ErrRange", laid_strconv_ErrRange), ("strconv.ErrSyntax", laid_strconv_ErrSyntax), ("loop.example/interlinear/impl.errNoLine", laid_loop_example_interlinear_impl_errNoLine)], narrowed := true }
def FnProgRunUptoSaid : Prop := fnProgRunUptoRow.holds Tryz.pinned (OpenSpec.upto fnProgRunSpec)

/-- 'laws.FnProgType', WHERE WHAT IT READS IS OF BULK AT MOST 1048576: true; the input reads as it did. -/
def fnProgTypeUptoRow : OpenClaim := { program := "ytabignplhkbcpaagreatdoor", sum := "66dc939156bda89a94f40d5535cd1be4d52d282f218eff700df2b078fcafbed2", func := "loop.example/interlinear/laws.FnProgType", spec := "fnProgType", inPlace := ["internal/bytealg.IndexByteString", "internal/bytealg.IndexString", "internal/abi.NoEscape", "internal/bytealg.MakeNoZero", "internal/reflectlite.TypeOf"], unfollowed := true, recurses := true, named := ["loop.example/interlinear/impl.errNoLine", "strconv.ErrSyntax", "strconv.ErrRange", "internal/strconv.uint64pow10", "math/bits.deBruijn32tab", "math/bits.deBruijn64tab", "internal/bytealg.MaxLen"], ifaces := true, plainKeys := false, apart := false, laid := [("math/bits.deBruijn32tab", laid_math_bits_deBruijn32tab), ("math/bits.deBruijn64tab", laid_math_bits_deBruijn64tab), ("internal/strconv.uint64pow10", laid_internal_strconv_uint64pow10), ("strconv.ErrRange", laid_strconv_ErrRange), ("strconv.ErrSyntax", laid_strconv_ErrSyntax), ("loop.example/interlinear/impl.errNoLine", laid_loop_example_interlinear_impl_errNoLine)], narrowed := true }
def FnProgTypeUptoSaid : Prop := fnProgTypeUptoRow.holds Tryz.pinned (OpenSpec.upto fnProgTypeSpec)

/-- 'laws.FnProgBent', WHERE WHAT IT READS IS OF BULK AT MOST 1048576: true; the input reads as it did. -/
def fnProgBentUptoRow : OpenClaim := { program := "ytabignplhkbcpaagreatdoor", sum := "66dc939156bda89a94f40d5535cd1be4d52d282f218eff700df2b078fcafbed2", func := "loop.example/interlinear/laws.FnProgBent", spec := "fnProgBent", inPlace := ["internal/bytealg.IndexByteString", "internal/bytealg.IndexString", "internal/abi.NoEscape", "internal/bytealg.MakeNoZero", "internal/reflectlite.TypeOf"], unfollowed := true, recurses := true, named := ["loop.example/interlinear/impl.errNoLine", "strconv.ErrSyntax", "strconv.ErrRange", "internal/strconv.uint64pow10", "math/bits.deBruijn32tab", "math/bits.deBruijn64tab", "internal/bytealg.MaxLen"], ifaces := true, plainKeys := false, apart := false, laid := [("math/bits.deBruijn32tab", laid_math_bits_deBruijn32tab), ("math/bits.deBruijn64tab", laid_math_bits_deBruijn64tab), ("internal/strconv.uint64pow10", laid_internal_strconv_uint64pow10), ("strconv.ErrRange", laid_strconv_ErrRange), ("strconv.ErrSyntax", laid_strconv_ErrSyntax), ("loop.example/interlinear/impl.errNoLine", laid_loop_example_interlinear_impl_errNoLine)], narrowed := true }
def FnProgBentUptoSaid : Prop := fnProgBentUptoRow.holds Tryz.pinned (OpenSpec.upto fnProgBentSpec)

/-- 'laws.FnProgCast', WHERE WHAT IT READS IS OF BULK AT MOST 1048576: true; the input reads as it did. -/
def fnProgCastUptoRow : OpenClaim := { program := "ytabignplhkbcpaagreatdoor", sum := "66dc939156bda89a94f40d5535cd1be4d52d282f218eff700df2b078fcafbed2", func := "loop.example/interlinear/laws.FnProgCast", spec := "fnProgCast", inPlace := ["internal/bytealg.IndexByteString", "internal/bytealg.IndexString", "internal/abi.NoEscape", "internal/bytealg.MakeNoZero", "internal/reflectlite.TypeOf"], unfollowed := true, recurses := true, named := ["loop.example/interlinear/impl.errNoLine", "strconv.ErrSyntax", "strconv.ErrRange", "internal/strconv.uint64pow10", "math/bits.deBruijn32tab", "math/bits.deBruijn64tab", "internal/bytealg.MaxLen"], ifaces := true, plainKeys := false, apart := false, laid := [("math/bits.deBruijn32tab", laid_math_bits_deBruijn32tab), ("math/bits.deBruijn64tab", laid_math_bits_deBruijn64tab), ("internal/strconv.uint64pow10", laid_internal_strconv_uint64pow10), ("strconv.ErrRange", laid_strconv_ErrRange), ("strconv.ErrSyntax", laid_strconv_ErrSyntax), ("loop.example/interlinear/impl.errNoLine", laid_loop_example_interlinear_impl_errNoLine)], narrowed := true }
def FnProgCastUptoSaid : Prop := fnProgCastUptoRow.holds Tryz.pinned (OpenSpec.upto fnProgCastSpec)

/-- 'laws.FnProgLet', WHERE WHAT IT READS IS OF BULK AT MOST 1048576: true; the input reads as it did. -/
def fnProgLetUptoRow : OpenClaim := { program := "ytabignplhkbcpaagreatdoor", sum := "66dc939156bda89a94f40d5535cd1be4d52d282f218eff700df2b078fcafbed2", func := "loop.example/interlinear/laws.FnProgLet", spec := "fnProgLet", inPlace := ["internal/bytealg.IndexByteString", "internal/bytealg.IndexString", "internal/abi.NoEscape", "internal/bytealg.MakeNoZero", "internal/reflectlite.TypeOf"], unfollowed := true, recurses := true, named := ["loop.example/interlinear/impl.errNoLine", "strconv.ErrSyntax", "strconv.ErrRange", "internal/strconv.uint64pow10", "math/bits.deBruijn32tab", "math/bits.deBruijn64tab", "internal/bytealg.MaxLen"], ifaces := true, plainKeys := false, apart := false, laid := [("math/bits.deBruijn32tab", laid_math_bits_deBruijn32tab), ("math/bits.deBruijn64tab", laid_math_bits_deBruijn64tab), ("internal/strconv.uint64pow10", laid_internal_strconv_uint64pow10), ("strconv.ErrRange", laid_strconv_ErrRange), ("strconv.ErrSyntax", laid_strconv_ErrSyntax), ("loop.example/interlinear/impl.errNoLine", laid_loop_example_interlinear_impl_errNoLine)], narrowed := true }
def FnProgLetUptoSaid : Prop := fnProgLetUptoRow.holds Tryz.pinned (OpenSpec.upto fnProgLetSpec)

/-- 'laws.FnProgWhen', WHERE WHAT IT READS IS OF BULK AT MOST 1048576: true; the input reads as it did. -/
def fnProgWhenUptoRow : OpenClaim := { program := "ytabignplhkbcpaagreatdoor", sum := "66dc939156bda89a94f40d5535cd1be4d52d282f218eff700df2b078fcafbed2", func := "loop.example/interlinear/laws.FnProgWhen", spec := "fnProgWhen", inPlace := ["internal/bytealg.IndexByteString", "internal/bytealg.IndexString", "internal/abi.NoEscape", "internal/bytealg.MakeNoZero", "internal/reflectlite.TypeOf"], unfollowed := true, recurses := true, named := ["loop.example/interlinear/impl.errNoLine", "strconv.ErrSyntax", "strconv.ErrRange", "internal/strconv.uint64pow10", "math/bits.deBruijn32tab", "math/bits.deBruijn64tab", "internal/bytealg.MaxLen"], ifaces := true, plainKeys := false, apart := false, laid := [("math/bits.deBruijn32tab", laid_math_bits_deBruijn32tab), ("math/bits.deBruijn64tab", laid_math_bits_deBruijn64tab), ("internal/strconv.uint64pow10", laid_internal_strconv_uint64pow10), ("strconv.ErrRange", laid_strconv_ErrRange), ("strconv.ErrSyntax", laid_strconv_ErrSyntax), ("loop.example/interlinear/impl.errNoLine", laid_loop_example_interlinear_impl_errNoLine)], narrowed := true }
def FnProgWhenUptoSaid : Prop := fnProgWhenUptoRow.holds Tryz.pinned (OpenSpec.upto fnProgWhenSpec)

/-- 'laws.FnProgSame', WHERE WHAT IT READS IS OF BULK AT MOST 1048576: true; the input reads as it did. -/
def fnProgSameUptoRow : OpenClaim := { program := "ytabignplhkbcpaagreatdoor", sum := "66dc939156bda89a94f40d5535cd1be4d52d282f218eff700df2b078fcafbed2", func := "loop.example/interlinear/laws.FnProgSame", spec := "fnProgSame", inPlace := ["internal/bytealg.IndexByteString", "internal/bytealg.IndexString", "internal/abi.NoEscape", "internal/bytealg.MakeNoZero", "internal/reflectlite.TypeOf"], unfollowed := true, recurses := true, named := ["loop.example/interlinear/impl.errNoLine", "strconv.ErrSyntax", "strconv.ErrRange", "internal/strconv.uint64pow10", "math/bits.deBruijn32tab", "math/bits.deBruijn64tab", "internal/bytealg.MaxLen"], ifaces := true, plainKeys := false, apart := false, laid := [("math/bits.deBruijn32tab", laid_math_bits_deBruijn32tab), ("math/bits.deBruijn64tab", laid_math_bits_deBruijn64tab), ("internal/strconv.uint64pow10", laid_internal_strconv_uint64pow10), ("strconv.ErrRange", laid_strconv_ErrRange), ("strconv.ErrSyntax", laid_strconv_ErrSyntax), ("loop.example/interlinear/impl.errNoLine", laid_loop_example_interlinear_impl_errNoLine)], narrowed := true }
def FnProgSameUptoSaid : Prop := fnProgSameUptoRow.holds Tryz.pinned (OpenSpec.upto fnProgSameSpec)

end Rows
end Go.Proofs.YtabignplhkbcpaaGreatDoor
