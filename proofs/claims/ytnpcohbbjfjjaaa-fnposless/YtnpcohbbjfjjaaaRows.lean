/-
  No cell of these rows narrows 'for every input' (looked for: loops, veiled, ifaces, maps, wideKeys, modest, calm, conditions, laid).
  DERIVED. THE GIVEN ROWS OF THIS SEAT. 12 by the template 'for every input the law returns true; each argument reads behind the call as it read before'; 0 by the template 'total and deterministic' (their statements: YtnpcohbbjfjjaaaTotals.lean).
  GIVEN WITH THE SEED: the statements are not yours to turn. If you find one false, say at which input.
  Laid BY PROGRAM, IN A SANDBOX (cutbox-rows.mjs): the forced cells as the released guide's own fill.sh prints them over the translation d2ec7951f6c47405… (all of the seat's roots in one cut). By AI agents, Wed Nov 11 2026. No macro, syntax, notation, axiom, sorry.
-/
import Derived.Test.YtnpcohbbjfjjaaaChecked
import GoSem.Claim
import GoSem.ClaimJoined
import GoSem.ClaimMapViews
import Derived.JoinedTies
import Derived.KernelRfl
namespace Go.Proofs.Ytnpcohbbjfjjaaa
/- THE CELL 'sum', in the pinned program and in every row, IS THE sha256 OF THE DUMP (.gsa) THAT YtnpcohbbjfjjaaaProg.lean LOADS. Nothing in Lean hashes anything: it is a label: what it is worth is what the hold of that sum in a sandbox is worth. -/
noncomputable def Try.pinned : Pinned := { name := "ytnpcohbbjfjjaaa", sum := "d2ec7951f6c4740545c6a8934a8a16c9547e974fe0a5e97092135722efe01924", checked := Try.checked }
namespace Rows
def none {H : Type} : Left H := { results := [], args := [] }

/-- 'laws.FnPos': WHATEVER THE INPUT: true; the input reads as it did. -/
def fnPosSpec : ChangeSpec := { name := "fnPos", fn := fun _ => fun
  | [d] => { results := [.lit (.bool true)], args := [d] }
  | _ => none }
def fnPosRow : OpenClaim := { program := "ytnpcohbbjfjjaaa", sum := "d2ec7951f6c4740545c6a8934a8a16c9547e974fe0a5e97092135722efe01924", func := "loop.example/interlinear/laws.FnPos", spec := "fnPos", unfollowed := true, recurses := true, apart := false }
def FnPosSaid : Prop := fnPosRow.holds Try.pinned (OpenSpec.ofChange fnPosSpec)

/-- ITS FALSE NEIGHBOUR: 'it returns false'. Refute it at one input. -/
def fnPosWrong : ChangeSpec := { name := "fnPos", fn := fun _ => fun
  | [d] => { results := [.lit (.bool false)], args := [d] }
  | _ => none }
def FnPosWrongFalsely : Prop := fnPosRow.holds Try.pinned (OpenSpec.ofChange fnPosWrong)

/-- 'laws.FnPosOff': WHATEVER THE INPUT: true; the input reads as it did. -/
def fnPosOffSpec : ChangeSpec := { name := "fnPosOff", fn := fun _ => fun
  | [d] => { results := [.lit (.bool true)], args := [d] }
  | _ => none }
def fnPosOffRow : OpenClaim := { program := "ytnpcohbbjfjjaaa", sum := "d2ec7951f6c4740545c6a8934a8a16c9547e974fe0a5e97092135722efe01924", func := "loop.example/interlinear/laws.FnPosOff", spec := "fnPosOff", unfollowed := true, recurses := true, apart := false }
def FnPosOffSaid : Prop := fnPosOffRow.holds Try.pinned (OpenSpec.ofChange fnPosOffSpec)

/-- ITS FALSE NEIGHBOUR: 'it returns false'. Refute it at one input. -/
def fnPosOffWrong : ChangeSpec := { name := "fnPosOff", fn := fun _ => fun
  | [d] => { results := [.lit (.bool false)], args := [d] }
  | _ => none }
def FnPosOffWrongFalsely : Prop := fnPosOffRow.holds Try.pinned (OpenSpec.ofChange fnPosOffWrong)

/-- 'laws.FnText': WHATEVER THE INPUT: true; the input reads as it did. -/
def fnTextSpec : ChangeSpec := { name := "fnText", fn := fun _ => fun
  | [d1, d2] => { results := [.lit (.bool true)], args := [d1, d2] }
  | _ => none }
def fnTextRow : OpenClaim := { program := "ytnpcohbbjfjjaaa", sum := "d2ec7951f6c4740545c6a8934a8a16c9547e974fe0a5e97092135722efe01924", func := "loop.example/interlinear/laws.FnText", spec := "fnText", inPlace := ["internal/abi.NoEscape", "internal/bytealg.MakeNoZero"], unfollowed := true, recurses := true, apart := false }
def FnTextSaid : Prop := fnTextRow.holds Try.pinned (OpenSpec.ofChange fnTextSpec)

/-- ITS FALSE NEIGHBOUR: 'it returns false'. Refute it at one input. -/
def fnTextWrong : ChangeSpec := { name := "fnText", fn := fun _ => fun
  | [d1, d2] => { results := [.lit (.bool false)], args := [d1, d2] }
  | _ => none }
def FnTextWrongFalsely : Prop := fnTextRow.holds Try.pinned (OpenSpec.ofChange fnTextWrong)

/-- 'laws.FnPosAll': WHATEVER THE INPUT: true; the input reads as it did. -/
def fnPosAllSpec : ChangeSpec := { name := "fnPosAll", fn := fun _ => fun
  | [d] => { results := [.lit (.bool true)], args := [d] }
  | _ => none }
def fnPosAllRow : OpenClaim := { program := "ytnpcohbbjfjjaaa", sum := "d2ec7951f6c4740545c6a8934a8a16c9547e974fe0a5e97092135722efe01924", func := "loop.example/interlinear/laws.FnPosAll", spec := "fnPosAll", unfollowed := true, recurses := true, apart := false }
def FnPosAllSaid : Prop := fnPosAllRow.holds Try.pinned (OpenSpec.ofChange fnPosAllSpec)

/-- ITS FALSE NEIGHBOUR: 'it returns false'. Refute it at one input. -/
def fnPosAllWrong : ChangeSpec := { name := "fnPosAll", fn := fun _ => fun
  | [d] => { results := [.lit (.bool false)], args := [d] }
  | _ => none }
def FnPosAllWrongFalsely : Prop := fnPosAllRow.holds Try.pinned (OpenSpec.ofChange fnPosAllWrong)

/-- 'laws.FnPosLess': WHATEVER THE INPUT: true; the input reads as it did. -/
def fnPosLessSpec : ChangeSpec := { name := "fnPosLess", fn := fun _ => fun
  | [d1, d2] => { results := [.lit (.bool true)], args := [d1, d2] }
  | _ => none }
def fnPosLessRow : OpenClaim := { program := "ytnpcohbbjfjjaaa", sum := "d2ec7951f6c4740545c6a8934a8a16c9547e974fe0a5e97092135722efe01924", func := "loop.example/interlinear/laws.FnPosLess", spec := "fnPosLess", unfollowed := true, recurses := true, apart := false }
def FnPosLessSaid : Prop := fnPosLessRow.holds Try.pinned (OpenSpec.ofChange fnPosLessSpec)

/-- ITS FALSE NEIGHBOUR: 'it returns false'. Refute it at one input. -/
def fnPosLessWrong : ChangeSpec := { name := "fnPosLess", fn := fun _ => fun
  | [d1, d2] => { results := [.lit (.bool false)], args := [d1, d2] }
  | _ => none }
def FnPosLessWrongFalsely : Prop := fnPosLessRow.holds Try.pinned (OpenSpec.ofChange fnPosLessWrong)

/-- 'laws.FnTextOk': WHATEVER THE INPUT: true; the input reads as it did. -/
def fnTextOkSpec : ChangeSpec := { name := "fnTextOk", fn := fun _ => fun
  | [d1, d2] => { results := [.lit (.bool true)], args := [d1, d2] }
  | _ => none }
def fnTextOkRow : OpenClaim := { program := "ytnpcohbbjfjjaaa", sum := "d2ec7951f6c4740545c6a8934a8a16c9547e974fe0a5e97092135722efe01924", func := "loop.example/interlinear/laws.FnTextOk", spec := "fnTextOk", unfollowed := true, recurses := true, apart := false }
def FnTextOkSaid : Prop := fnTextOkRow.holds Try.pinned (OpenSpec.ofChange fnTextOkSpec)

/-- ITS FALSE NEIGHBOUR: 'it returns false'. Refute it at one input. -/
def fnTextOkWrong : ChangeSpec := { name := "fnTextOk", fn := fun _ => fun
  | [d1, d2] => { results := [.lit (.bool false)], args := [d1, d2] }
  | _ => none }
def FnTextOkWrongFalsely : Prop := fnTextOkRow.holds Try.pinned (OpenSpec.ofChange fnTextOkWrong)

/-- 'laws.FnTextCat': WHATEVER THE INPUT: true; the input reads as it did. -/
def fnTextCatSpec : ChangeSpec := { name := "fnTextCat", fn := fun _ => fun
  | [d1, d2] => { results := [.lit (.bool true)], args := [d1, d2] }
  | _ => none }
def fnTextCatRow : OpenClaim := { program := "ytnpcohbbjfjjaaa", sum := "d2ec7951f6c4740545c6a8934a8a16c9547e974fe0a5e97092135722efe01924", func := "loop.example/interlinear/laws.FnTextCat", spec := "fnTextCat", unfollowed := true, recurses := true, apart := false }
def FnTextCatSaid : Prop := fnTextCatRow.holds Try.pinned (OpenSpec.ofChange fnTextCatSpec)

/-- ITS FALSE NEIGHBOUR: 'it returns false'. Refute it at one input. -/
def fnTextCatWrong : ChangeSpec := { name := "fnTextCat", fn := fun _ => fun
  | [d1, d2] => { results := [.lit (.bool false)], args := [d1, d2] }
  | _ => none }
def FnTextCatWrongFalsely : Prop := fnTextCatRow.holds Try.pinned (OpenSpec.ofChange fnTextCatWrong)

/-- 'laws.FnExactTextOk': WHATEVER THE INPUT: true; the input reads as it did. -/
def fnExactTextOkSpec : ChangeSpec := { name := "fnExactTextOk", fn := fun _ => fun
  | [d] => { results := [.lit (.bool true)], args := [d] }
  | _ => none }
def fnExactTextOkRow : OpenClaim := { program := "ytnpcohbbjfjjaaa", sum := "d2ec7951f6c4740545c6a8934a8a16c9547e974fe0a5e97092135722efe01924", func := "loop.example/interlinear/laws.FnExactTextOk", spec := "fnExactTextOk", unfollowed := true, recurses := true, apart := false }
def FnExactTextOkSaid : Prop := fnExactTextOkRow.holds Try.pinned (OpenSpec.ofChange fnExactTextOkSpec)

/-- ITS FALSE NEIGHBOUR: 'it returns false'. Refute it at one input. -/
def fnExactTextOkWrong : ChangeSpec := { name := "fnExactTextOk", fn := fun _ => fun
  | [d] => { results := [.lit (.bool false)], args := [d] }
  | _ => none }
def FnExactTextOkWrongFalsely : Prop := fnExactTextOkRow.holds Try.pinned (OpenSpec.ofChange fnExactTextOkWrong)

/-- 'laws.FnExactTextLines': WHATEVER THE INPUT: true; the input reads as it did. -/
def fnExactTextLinesSpec : ChangeSpec := { name := "fnExactTextLines", fn := fun _ => fun
  | [d] => { results := [.lit (.bool true)], args := [d] }
  | _ => none }
def fnExactTextLinesRow : OpenClaim := { program := "ytnpcohbbjfjjaaa", sum := "d2ec7951f6c4740545c6a8934a8a16c9547e974fe0a5e97092135722efe01924", func := "loop.example/interlinear/laws.FnExactTextLines", spec := "fnExactTextLines", unfollowed := true, recurses := true, apart := false }
def FnExactTextLinesSaid : Prop := fnExactTextLinesRow.holds Try.pinned (OpenSpec.ofChange fnExactTextLinesSpec)

/-- ITS FALSE NEIGHBOUR: 'it returns false'. Refute it at one input. -/
def fnExactTextLinesWrong : ChangeSpec := { name := "fnExactTextLines", fn := fun _ => fun
  | [d] => { results := [.lit (.bool false)], args := [d] }
  | _ => none }
def FnExactTextLinesWrongFalsely : Prop := fnExactTextLinesRow.holds Try.pinned (OpenSpec.ofChange fnExactTextLinesWrong)

/-- 'laws.FnExactTextJoin': WHATEVER THE INPUT: true; the input reads as it did. -/
def fnExactTextJoinSpec : ChangeSpec := { name := "fnExactTextJoin", fn := fun _ => fun
  | [d] => { results := [.lit (.bool true)], args := [d] }
  | _ => none }
def fnExactTextJoinRow : OpenClaim := { program := "ytnpcohbbjfjjaaa", sum := "d2ec7951f6c4740545c6a8934a8a16c9547e974fe0a5e97092135722efe01924", func := "loop.example/interlinear/laws.FnExactTextJoin", spec := "fnExactTextJoin", inPlace := ["internal/abi.NoEscape", "internal/bytealg.MakeNoZero"], apart := false }
def FnExactTextJoinSaid : Prop := fnExactTextJoinRow.holds Try.pinned (OpenSpec.ofChange fnExactTextJoinSpec)

/-- ITS FALSE NEIGHBOUR: 'it returns false'. Refute it at one input. -/
def fnExactTextJoinWrong : ChangeSpec := { name := "fnExactTextJoin", fn := fun _ => fun
  | [d] => { results := [.lit (.bool false)], args := [d] }
  | _ => none }
def FnExactTextJoinWrongFalsely : Prop := fnExactTextJoinRow.holds Try.pinned (OpenSpec.ofChange fnExactTextJoinWrong)

/-- 'laws.FnExactPosLess': WHATEVER THE INPUT: true; the input reads as it did. -/
def fnExactPosLessSpec : ChangeSpec := { name := "fnExactPosLess", fn := fun _ => fun
  | [d1, d2] => { results := [.lit (.bool true)], args := [d1, d2] }
  | _ => none }
def fnExactPosLessRow : OpenClaim := { program := "ytnpcohbbjfjjaaa", sum := "d2ec7951f6c4740545c6a8934a8a16c9547e974fe0a5e97092135722efe01924", func := "loop.example/interlinear/laws.FnExactPosLess", spec := "fnExactPosLess", apart := false }
def FnExactPosLessSaid : Prop := fnExactPosLessRow.holds Try.pinned (OpenSpec.ofChange fnExactPosLessSpec)

/-- ITS FALSE NEIGHBOUR: 'it returns false'. Refute it at one input. -/
def fnExactPosLessWrong : ChangeSpec := { name := "fnExactPosLess", fn := fun _ => fun
  | [d1, d2] => { results := [.lit (.bool false)], args := [d1, d2] }
  | _ => none }
def FnExactPosLessWrongFalsely : Prop := fnExactPosLessRow.holds Try.pinned (OpenSpec.ofChange fnExactPosLessWrong)

/-- 'laws.FnExactPosOf': WHATEVER THE INPUT: true; the input reads as it did. -/
def fnExactPosOfSpec : ChangeSpec := { name := "fnExactPosOf", fn := fun _ => fun
  | [d1, d2] => { results := [.lit (.bool true)], args := [d1, d2] }
  | _ => none }
def fnExactPosOfRow : OpenClaim := { program := "ytnpcohbbjfjjaaa", sum := "d2ec7951f6c4740545c6a8934a8a16c9547e974fe0a5e97092135722efe01924", func := "loop.example/interlinear/laws.FnExactPosOf", spec := "fnExactPosOf", unfollowed := true, recurses := true, apart := false }
def FnExactPosOfSaid : Prop := fnExactPosOfRow.holds Try.pinned (OpenSpec.ofChange fnExactPosOfSpec)

/-- ITS FALSE NEIGHBOUR: 'it returns false'. Refute it at one input. -/
def fnExactPosOfWrong : ChangeSpec := { name := "fnExactPosOf", fn := fun _ => fun
  | [d1, d2] => { results := [.lit (.bool false)], args := [d1, d2] }
  | _ => none }
def FnExactPosOfWrongFalsely : Prop := fnExactPosOfRow.holds Try.pinned (OpenSpec.ofChange fnExactPosOfWrong)

/- THE SECOND FORM. 'bulk': how many values and letters a reading holds, each counted each time it is reached (what is shared counts as often as it is met; a slice's spare places count too). A statement '..UptoSaid' is the law's where the arguments, and the package variables that the reading takes, are together of bulk at most 1048576: NARROWER than '..Said'. Prove '..Said' where nothing that the law and all that it calls make is longer than what came in: it says more and counts as full. Else prove '..UptoSaid'. A law counts once. -/
mutual
def uptoBulk {H : Type} : DataW H → Nat
  | .lit (.string bytes) => bytes.length + 1
  | .lit _ => 1
  | .nil => 1
  | .ptr d => uptoBulk d + 1
  | .slice elems spare => uptoBulkAll elems + uptoBulkAll spare + 1
  | .agg parts => uptoBulkAll parts + 1
  | .iface _ d => uptoBulk d + 1
  | .map entries => uptoBulkEntries entries + 1
  | .held _ => 1
def uptoBulkAll {H : Type} : List (DataW H) → Nat
  | [] => 0
  | d :: r => uptoBulk d + uptoBulkAll r
def uptoBulkEntries {H : Type} : List (Lit × DataW H) → Nat
  | [] => 0
  | x :: r => uptoBulkEntry x + uptoBulkEntries r
def uptoBulkEntry {H : Type} : Lit × DataW H → Nat
  | (.string bytes, d) => bytes.length + uptoBulk d + 1
  | (_, d) => uptoBulk d + 1
 end
def uptoSmall : (H : Type) → List (DataW H) → Bool := fun _ ds => decide (uptoBulkAll ds ≤ 1048576)
def OpenSpec.upto (s : _root_.Go.ChangeSpec) : _root_.Go.OpenSpec := { _root_.Go.OpenSpec.ofChange s with cond := some uptoSmall }

/-- 'laws.FnPos', WHERE WHAT IT READS IS OF BULK AT MOST 1048576: true; the input reads as it did. -/
def fnPosUptoRow : OpenClaim := { program := "ytnpcohbbjfjjaaa", sum := "d2ec7951f6c4740545c6a8934a8a16c9547e974fe0a5e97092135722efe01924", func := "loop.example/interlinear/laws.FnPos", spec := "fnPos", unfollowed := true, recurses := true, apart := false, narrowed := true }
def FnPosUptoSaid : Prop := fnPosUptoRow.holds Try.pinned (OpenSpec.upto fnPosSpec)

/-- 'laws.FnPosOff', WHERE WHAT IT READS IS OF BULK AT MOST 1048576: true; the input reads as it did. -/
def fnPosOffUptoRow : OpenClaim := { program := "ytnpcohbbjfjjaaa", sum := "d2ec7951f6c4740545c6a8934a8a16c9547e974fe0a5e97092135722efe01924", func := "loop.example/interlinear/laws.FnPosOff", spec := "fnPosOff", unfollowed := true, recurses := true, apart := false, narrowed := true }
def FnPosOffUptoSaid : Prop := fnPosOffUptoRow.holds Try.pinned (OpenSpec.upto fnPosOffSpec)

/-- 'laws.FnText', WHERE WHAT IT READS IS OF BULK AT MOST 1048576: true; the input reads as it did. -/
def fnTextUptoRow : OpenClaim := { program := "ytnpcohbbjfjjaaa", sum := "d2ec7951f6c4740545c6a8934a8a16c9547e974fe0a5e97092135722efe01924", func := "loop.example/interlinear/laws.FnText", spec := "fnText", inPlace := ["internal/abi.NoEscape", "internal/bytealg.MakeNoZero"], unfollowed := true, recurses := true, apart := false, narrowed := true }
def FnTextUptoSaid : Prop := fnTextUptoRow.holds Try.pinned (OpenSpec.upto fnTextSpec)

/-- 'laws.FnPosAll', WHERE WHAT IT READS IS OF BULK AT MOST 1048576: true; the input reads as it did. -/
def fnPosAllUptoRow : OpenClaim := { program := "ytnpcohbbjfjjaaa", sum := "d2ec7951f6c4740545c6a8934a8a16c9547e974fe0a5e97092135722efe01924", func := "loop.example/interlinear/laws.FnPosAll", spec := "fnPosAll", unfollowed := true, recurses := true, apart := false, narrowed := true }
def FnPosAllUptoSaid : Prop := fnPosAllUptoRow.holds Try.pinned (OpenSpec.upto fnPosAllSpec)

/-- 'laws.FnPosLess', WHERE WHAT IT READS IS OF BULK AT MOST 1048576: true; the input reads as it did. -/
def fnPosLessUptoRow : OpenClaim := { program := "ytnpcohbbjfjjaaa", sum := "d2ec7951f6c4740545c6a8934a8a16c9547e974fe0a5e97092135722efe01924", func := "loop.example/interlinear/laws.FnPosLess", spec := "fnPosLess", unfollowed := true, recurses := true, apart := false, narrowed := true }
def FnPosLessUptoSaid : Prop := fnPosLessUptoRow.holds Try.pinned (OpenSpec.upto fnPosLessSpec)

/-- 'laws.FnTextOk', WHERE WHAT IT READS IS OF BULK AT MOST 1048576: true; the input reads as it did. -/
def fnTextOkUptoRow : OpenClaim := { program := "ytnpcohbbjfjjaaa", sum := "d2ec7951f6c4740545c6a8934a8a16c9547e974fe0a5e97092135722efe01924", func := "loop.example/interlinear/laws.FnTextOk", spec := "fnTextOk", unfollowed := true, recurses := true, apart := false, narrowed := true }
def FnTextOkUptoSaid : Prop := fnTextOkUptoRow.holds Try.pinned (OpenSpec.upto fnTextOkSpec)

/-- 'laws.FnTextCat', WHERE WHAT IT READS IS OF BULK AT MOST 1048576: true; the input reads as it did. -/
def fnTextCatUptoRow : OpenClaim := { program := "ytnpcohbbjfjjaaa", sum := "d2ec7951f6c4740545c6a8934a8a16c9547e974fe0a5e97092135722efe01924", func := "loop.example/interlinear/laws.FnTextCat", spec := "fnTextCat", unfollowed := true, recurses := true, apart := false, narrowed := true }
def FnTextCatUptoSaid : Prop := fnTextCatUptoRow.holds Try.pinned (OpenSpec.upto fnTextCatSpec)

/-- 'laws.FnExactTextOk', WHERE WHAT IT READS IS OF BULK AT MOST 1048576: true; the input reads as it did. -/
def fnExactTextOkUptoRow : OpenClaim := { program := "ytnpcohbbjfjjaaa", sum := "d2ec7951f6c4740545c6a8934a8a16c9547e974fe0a5e97092135722efe01924", func := "loop.example/interlinear/laws.FnExactTextOk", spec := "fnExactTextOk", unfollowed := true, recurses := true, apart := false, narrowed := true }
def FnExactTextOkUptoSaid : Prop := fnExactTextOkUptoRow.holds Try.pinned (OpenSpec.upto fnExactTextOkSpec)

/-- 'laws.FnExactTextLines', WHERE WHAT IT READS IS OF BULK AT MOST 1048576: true; the input reads as it did. -/
def fnExactTextLinesUptoRow : OpenClaim := { program := "ytnpcohbbjfjjaaa", sum := "d2ec7951f6c4740545c6a8934a8a16c9547e974fe0a5e97092135722efe01924", func := "loop.example/interlinear/laws.FnExactTextLines", spec := "fnExactTextLines", unfollowed := true, recurses := true, apart := false, narrowed := true }
def FnExactTextLinesUptoSaid : Prop := fnExactTextLinesUptoRow.holds Try.pinned (OpenSpec.upto fnExactTextLinesSpec)

/-- 'laws.FnExactTextJoin', WHERE WHAT IT READS IS OF BULK AT MOST 1048576: true; the input reads as it did. -/
def fnExactTextJoinUptoRow : OpenClaim := { program := "ytnpcohbbjfjjaaa", sum := "d2ec7951f6c4740545c6a8934a8a16c9547e974fe0a5e97092135722efe01924", func := "loop.example/interlinear/laws.FnExactTextJoin", spec := "fnExactTextJoin", inPlace := ["internal/abi.NoEscape", "internal/bytealg.MakeNoZero"], apart := false, narrowed := true }
def FnExactTextJoinUptoSaid : Prop := fnExactTextJoinUptoRow.holds Try.pinned (OpenSpec.upto fnExactTextJoinSpec)

/-- 'laws.FnExactPosLess', WHERE WHAT IT READS IS OF BULK AT MOST 1048576: true; the input reads as it did. -/
def fnExactPosLessUptoRow : OpenClaim := { program := "ytnpcohbbjfjjaaa", sum := "d2ec7951f6c4740545c6a8934a8a16c9547e974fe0a5e97092135722efe01924", func := "loop.example/interlinear/laws.FnExactPosLess", spec := "fnExactPosLess", apart := false, narrowed := true }
def FnExactPosLessUptoSaid : Prop := fnExactPosLessUptoRow.holds Try.pinned (OpenSpec.upto fnExactPosLessSpec)

/-- 'laws.FnExactPosOf', WHERE WHAT IT READS IS OF BULK AT MOST 1048576: true; the input reads as it did. -/
def fnExactPosOfUptoRow : OpenClaim := { program := "ytnpcohbbjfjjaaa", sum := "d2ec7951f6c4740545c6a8934a8a16c9547e974fe0a5e97092135722efe01924", func := "loop.example/interlinear/laws.FnExactPosOf", spec := "fnExactPosOf", unfollowed := true, recurses := true, apart := false, narrowed := true }
def FnExactPosOfUptoSaid : Prop := fnExactPosOfUptoRow.holds Try.pinned (OpenSpec.upto fnExactPosOfSpec)

end Rows
end Go.Proofs.Ytnpcohbbjfjjaaa
