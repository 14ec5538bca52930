/-
  No cell of these rows narrows 'for every input' (looked for: loops, veiled, ifaces, maps, wideKeys, modest, calm, conditions, laid).
  DERIVED. THE GIVEN ROWS OF THIS SEAT. 6 by the template 'for every input the law returns true; each argument reads behind the call as it read before'; 0 by the template 'total and deterministic' (their statements: YtpeecjoadgefjaaTotals.lean).
  GIVEN WITH THE SEED: the statements are not yours to turn. If you find one false, say at which input.
  Laid BY PROGRAM, IN A SANDBOX (cutbox-rows.mjs): the forced cells as the released guide's own fill.sh prints them over the translation 00a4463b159036ab… (all of the seat's roots in one cut). By AI agents, Wed Nov 11 2026. No macro, syntax, notation, axiom, sorry.
-/
import Derived.Test.YtpeecjoadgefjaaChecked
import GoSem.Claim
import GoSem.ClaimJoined
import GoSem.ClaimMapViews
import Derived.JoinedTies
import Derived.KernelRfl
namespace Go.Proofs.Ytpeecjoadgefjaa
/- THE CELL 'sum', in the pinned program and in every row, IS THE sha256 OF THE DUMP (.gsa) THAT YtpeecjoadgefjaaProg.lean LOADS. Nothing in Lean hashes anything: it is a label: what it is worth is what the hold of that sum in a sandbox is worth. -/
noncomputable def Try.pinned : Pinned := { name := "ytpeecjoadgefjaa", sum := "00a4463b159036ab92f6d51993b3343151eae1c24188eb11f9e287fbdaa44cc0", checked := Try.checked }
namespace Rows
def none {H : Type} : Left H := { results := [], args := [] }

/-- 'laws.FnExactSpanAdd': WHATEVER THE INPUT: true; the input reads as it did. -/
def fnExactSpanAddSpec : ChangeSpec := { name := "fnExactSpanAdd", fn := fun _ => fun
  | [d1, d2] => { results := [.lit (.bool true)], args := [d1, d2] }
  | _ => none }
def fnExactSpanAddRow : OpenClaim := { program := "ytpeecjoadgefjaa", sum := "00a4463b159036ab92f6d51993b3343151eae1c24188eb11f9e287fbdaa44cc0", func := "loop.example/s03010/laws.FnExactSpanAdd", spec := "fnExactSpanAdd", unfollowed := true, recurses := true, apart := false }
def FnExactSpanAddSaid : Prop := fnExactSpanAddRow.holds Try.pinned (OpenSpec.ofChange fnExactSpanAddSpec)

/-- ITS FALSE NEIGHBOUR: 'it returns false'. Refute it at one input. -/
def fnExactSpanAddWrong : ChangeSpec := { name := "fnExactSpanAdd", fn := fun _ => fun
  | [d1, d2] => { results := [.lit (.bool false)], args := [d1, d2] }
  | _ => none }
def FnExactSpanAddWrongFalsely : Prop := fnExactSpanAddRow.holds Try.pinned (OpenSpec.ofChange fnExactSpanAddWrong)

/-- 'laws.FnExactSpanCut': WHATEVER THE INPUT: true; the input reads as it did. -/
def fnExactSpanCutSpec : ChangeSpec := { name := "fnExactSpanCut", fn := fun _ => fun
  | [d1, d2] => { results := [.lit (.bool true)], args := [d1, d2] }
  | _ => none }
def fnExactSpanCutRow : OpenClaim := { program := "ytpeecjoadgefjaa", sum := "00a4463b159036ab92f6d51993b3343151eae1c24188eb11f9e287fbdaa44cc0", func := "loop.example/s03010/laws.FnExactSpanCut", spec := "fnExactSpanCut", unfollowed := true, recurses := true, apart := false }
def FnExactSpanCutSaid : Prop := fnExactSpanCutRow.holds Try.pinned (OpenSpec.ofChange fnExactSpanCutSpec)

/-- ITS FALSE NEIGHBOUR: 'it returns false'. Refute it at one input. -/
def fnExactSpanCutWrong : ChangeSpec := { name := "fnExactSpanCut", fn := fun _ => fun
  | [d1, d2] => { results := [.lit (.bool false)], args := [d1, d2] }
  | _ => none }
def FnExactSpanCutWrongFalsely : Prop := fnExactSpanCutRow.holds Try.pinned (OpenSpec.ofChange fnExactSpanCutWrong)

/-- 'laws.FnExactSpanGaps': WHATEVER THE INPUT: true; the input reads as it did. -/
def fnExactSpanGapsSpec : ChangeSpec := { name := "fnExactSpanGaps", fn := fun _ => fun
  | [d1, d2] => { results := [.lit (.bool true)], args := [d1, d2] }
  | _ => none }
def fnExactSpanGapsRow : OpenClaim := { program := "ytpeecjoadgefjaa", sum := "00a4463b159036ab92f6d51993b3343151eae1c24188eb11f9e287fbdaa44cc0", func := "loop.example/s03010/laws.FnExactSpanGaps", spec := "fnExactSpanGaps", unfollowed := true, recurses := true, apart := false }
def FnExactSpanGapsSaid : Prop := fnExactSpanGapsRow.holds Try.pinned (OpenSpec.ofChange fnExactSpanGapsSpec)

/-- ITS FALSE NEIGHBOUR: 'it returns false'. Refute it at one input. -/
def fnExactSpanGapsWrong : ChangeSpec := { name := "fnExactSpanGaps", fn := fun _ => fun
  | [d1, d2] => { results := [.lit (.bool false)], args := [d1, d2] }
  | _ => none }
def FnExactSpanGapsWrongFalsely : Prop := fnExactSpanGapsRow.holds Try.pinned (OpenSpec.ofChange fnExactSpanGapsWrong)

/-- 'laws.FnReorder': WHATEVER THE INPUT: true; the input reads as it did. -/
def fnReorderSpec : ChangeSpec := { name := "fnReorder", fn := fun _ => fun
  | [d] => { results := [.lit (.bool true)], args := [d] }
  | _ => none }
def fnReorderRow : OpenClaim := { program := "ytpeecjoadgefjaa", sum := "00a4463b159036ab92f6d51993b3343151eae1c24188eb11f9e287fbdaa44cc0", func := "loop.example/s03010/laws.FnReorder", spec := "fnReorder", unfollowed := true, recurses := true, apart := false }
def FnReorderSaid : Prop := fnReorderRow.holds Try.pinned (OpenSpec.ofChange fnReorderSpec)

/-- ITS FALSE NEIGHBOUR: 'it returns false'. Refute it at one input. -/
def fnReorderWrong : ChangeSpec := { name := "fnReorder", fn := fun _ => fun
  | [d] => { results := [.lit (.bool false)], args := [d] }
  | _ => none }
def FnReorderWrongFalsely : Prop := fnReorderRow.holds Try.pinned (OpenSpec.ofChange fnReorderWrong)

/-- 'laws.FnExactReorderRun': WHATEVER THE INPUT: true; the input reads as it did. -/
def fnExactReorderRunSpec : ChangeSpec := { name := "fnExactReorderRun", fn := fun _ => fun
  | [d1, d2, d3] => { results := [.lit (.bool true)], args := [d1, d2, d3] }
  | _ => none }
def fnExactReorderRunRow : OpenClaim := { program := "ytpeecjoadgefjaa", sum := "00a4463b159036ab92f6d51993b3343151eae1c24188eb11f9e287fbdaa44cc0", func := "loop.example/s03010/laws.FnExactReorderRun", spec := "fnExactReorderRun", unfollowed := true, recurses := true, apart := false }
def FnExactReorderRunSaid : Prop := fnExactReorderRunRow.holds Try.pinned (OpenSpec.ofChange fnExactReorderRunSpec)

/-- ITS FALSE NEIGHBOUR: 'it returns false'. Refute it at one input. -/
def fnExactReorderRunWrong : ChangeSpec := { name := "fnExactReorderRun", fn := fun _ => fun
  | [d1, d2, d3] => { results := [.lit (.bool false)], args := [d1, d2, d3] }
  | _ => none }
def FnExactReorderRunWrongFalsely : Prop := fnExactReorderRunRow.holds Try.pinned (OpenSpec.ofChange fnExactReorderRunWrong)

/-- 'laws.FnExactReorderState': WHATEVER THE INPUT: true; the input reads as it did. -/
def fnExactReorderStateSpec : ChangeSpec := { name := "fnExactReorderState", fn := fun _ => fun
  | [d1, d2, d3] => { results := [.lit (.bool true)], args := [d1, d2, d3] }
  | _ => none }
def fnExactReorderStateRow : OpenClaim := { program := "ytpeecjoadgefjaa", sum := "00a4463b159036ab92f6d51993b3343151eae1c24188eb11f9e287fbdaa44cc0", func := "loop.example/s03010/laws.FnExactReorderState", spec := "fnExactReorderState", unfollowed := true, recurses := true, apart := false }
def FnExactReorderStateSaid : Prop := fnExactReorderStateRow.holds Try.pinned (OpenSpec.ofChange fnExactReorderStateSpec)

/-- ITS FALSE NEIGHBOUR: 'it returns false'. Refute it at one input. -/
def fnExactReorderStateWrong : ChangeSpec := { name := "fnExactReorderState", fn := fun _ => fun
  | [d1, d2, d3] => { results := [.lit (.bool false)], args := [d1, d2, d3] }
  | _ => none }
def FnExactReorderStateWrongFalsely : Prop := fnExactReorderStateRow.holds Try.pinned (OpenSpec.ofChange fnExactReorderStateWrong)

/- THE SECOND FORM. 'bulk': how many values and letters a reading holds, each counted each time it is reached (what is shared counts as often as it is met; a slice's spare places count too). A statement '..UptoSaid' is the law's where the arguments, and the package variables that the reading takes, are together of bulk at most 1048576: NARROWER than '..Said'. Prove '..Said' where nothing that the law and all that it calls make is longer than what came in: it says more and counts as full. Else prove '..UptoSaid'. A law counts once. -/
mutual
def uptoBulk {H : Type} : DataW H → Nat
  | .lit (.string bytes) => bytes.length + 1
  | .lit _ => 1
  | .nil => 1
  | .ptr d => uptoBulk d + 1
  | .slice elems spare => uptoBulkAll elems + uptoBulkAll spare + 1
  | .agg parts => uptoBulkAll parts + 1
  | .iface _ d => uptoBulk d + 1
  | .map entries => uptoBulkEntries entries + 1
  | .held _ => 1
def uptoBulkAll {H : Type} : List (DataW H) → Nat
  | [] => 0
  | d :: r => uptoBulk d + uptoBulkAll r
def uptoBulkEntries {H : Type} : List (Lit × DataW H) → Nat
  | [] => 0
  | x :: r => uptoBulkEntry x + uptoBulkEntries r
def uptoBulkEntry {H : Type} : Lit × DataW H → Nat
  | (.string bytes, d) => bytes.length + uptoBulk d + 1
  | (_, d) => uptoBulk d + 1
 end
def uptoSmall : (H : Type) → List (DataW H) → Bool := fun _ ds => decide (uptoBulkAll ds ≤ 1048576)
def OpenSpec.upto (s : _root_.Go.ChangeSpec) : _root_.Go.OpenSpec := { _root_.Go.OpenSpec.ofChange s with cond := some uptoSmall }

/-- 'laws.FnExactSpanAdd', WHERE WHAT IT READS IS OF BULK AT MOST 1048576: true; the input reads as it did. -/
def fnExactSpanAddUptoRow : OpenClaim := { program := "ytpeecjoadgefjaa", sum := "00a4463b159036ab92f6d51993b3343151eae1c24188eb11f9e287fbdaa44cc0", func := "loop.example/s03010/laws.FnExactSpanAdd", spec := "fnExactSpanAdd", unfollowed := true, recurses := true, apart := false, narrowed := true }
def FnExactSpanAddUptoSaid : Prop := fnExactSpanAddUptoRow.holds Try.pinned (OpenSpec.upto fnExactSpanAddSpec)

/-- 'laws.FnExactSpanCut', WHERE WHAT IT READS IS OF BULK AT MOST 1048576: true; the input reads as it did. -/
def fnExactSpanCutUptoRow : OpenClaim := { program := "ytpeecjoadgefjaa", sum := "00a4463b159036ab92f6d51993b3343151eae1c24188eb11f9e287fbdaa44cc0", func := "loop.example/s03010/laws.FnExactSpanCut", spec := "fnExactSpanCut", unfollowed := true, recurses := true, apart := false, narrowed := true }
def FnExactSpanCutUptoSaid : Prop := fnExactSpanCutUptoRow.holds Try.pinned (OpenSpec.upto fnExactSpanCutSpec)

/-- 'laws.FnExactSpanGaps', WHERE WHAT IT READS IS OF BULK AT MOST 1048576: true; the input reads as it did. -/
def fnExactSpanGapsUptoRow : OpenClaim := { program := "ytpeecjoadgefjaa", sum := "00a4463b159036ab92f6d51993b3343151eae1c24188eb11f9e287fbdaa44cc0", func := "loop.example/s03010/laws.FnExactSpanGaps", spec := "fnExactSpanGaps", unfollowed := true, recurses := true, apart := false, narrowed := true }
def FnExactSpanGapsUptoSaid : Prop := fnExactSpanGapsUptoRow.holds Try.pinned (OpenSpec.upto fnExactSpanGapsSpec)

/-- 'laws.FnReorder', WHERE WHAT IT READS IS OF BULK AT MOST 1048576: true; the input reads as it did. -/
def fnReorderUptoRow : OpenClaim := { program := "ytpeecjoadgefjaa", sum := "00a4463b159036ab92f6d51993b3343151eae1c24188eb11f9e287fbdaa44cc0", func := "loop.example/s03010/laws.FnReorder", spec := "fnReorder", unfollowed := true, recurses := true, apart := false, narrowed := true }
def FnReorderUptoSaid : Prop := fnReorderUptoRow.holds Try.pinned (OpenSpec.upto fnReorderSpec)

/-- 'laws.FnExactReorderRun', WHERE WHAT IT READS IS OF BULK AT MOST 1048576: true; the input reads as it did. -/
def fnExactReorderRunUptoRow : OpenClaim := { program := "ytpeecjoadgefjaa", sum := "00a4463b159036ab92f6d51993b3343151eae1c24188eb11f9e287fbdaa44cc0", func := "loop.example/s03010/laws.FnExactReorderRun", spec := "fnExactReorderRun", unfollowed := true, recurses := true, apart := false, narrowed := true }
def FnExactReorderRunUptoSaid : Prop := fnExactReorderRunUptoRow.holds Try.pinned (OpenSpec.upto fnExactReorderRunSpec)

/-- 'laws.FnExactReorderState', WHERE WHAT IT READS IS OF BULK AT MOST 1048576: true; the input reads as it did. -/
def fnExactReorderStateUptoRow : OpenClaim := { program := "ytpeecjoadgefjaa", sum := "00a4463b159036ab92f6d51993b3343151eae1c24188eb11f9e287fbdaa44cc0", func := "loop.example/s03010/laws.FnExactReorderState", spec := "fnExactReorderState", unfollowed := true, recurses := true, apart := false, narrowed := true }
def FnExactReorderStateUptoSaid : Prop := fnExactReorderStateUptoRow.holds Try.pinned (OpenSpec.upto fnExactReorderStateSpec)

end Rows
end Go.Proofs.Ytpeecjoadgefjaa
