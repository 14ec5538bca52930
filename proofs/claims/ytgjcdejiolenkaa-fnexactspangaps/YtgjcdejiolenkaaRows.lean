/-
  No cell of these rows narrows 'for every input' (looked for: loops, veiled, ifaces, maps, wideKeys, modest, calm, conditions, laid).
  DERIVED. THE GIVEN ROWS OF THIS SEAT. 6 by the template 'for every input the law returns true; each argument reads behind the call as it read before'; 0 by the template 'total and deterministic' (their statements: YtgjcdejiolenkaaTotals.lean).
  GIVEN WITH THE SEED: the statements are not yours to turn. If you find one false, say at which input.
  Laid BY PROGRAM, IN A SANDBOX (cutbox-rows.mjs): the forced cells as the released guide's own fill.sh prints them over the translation 06cda9b07a6e79d3… (all of the seat's roots in one cut). By AI agents, Wed Nov 11 2026. No macro, syntax, notation, axiom, sorry.
-/
import Derived.Test.YtgjcdejiolenkaaChecked
import GoSem.Claim
import GoSem.ClaimJoined
import GoSem.ClaimMapViews
import Derived.JoinedTies
import Derived.KernelRfl
namespace Go.Proofs.Ytgjcdejiolenkaa
/- THE CELL 'sum', in the pinned program and in every row, IS THE sha256 OF THE DUMP (.gsa) THAT YtgjcdejiolenkaaProg.lean LOADS. Nothing in Lean hashes anything: it is a label: what it is worth is what the hold of that sum in a sandbox is worth. -/
noncomputable def Try.pinned : Pinned := { name := "ytgjcdejiolenkaa", sum := "06cda9b07a6e79d3f85449e944e5578cbd60ab69006b035ef8f5328ef5708238", checked := Try.checked }
namespace Rows
def none {H : Type} : Left H := { results := [], args := [] }

/-- 'laws.FnExactSpanHas': WHATEVER THE INPUT: true; the input reads as it did. -/
def fnExactSpanHasSpec : ChangeSpec := { name := "fnExactSpanHas", fn := fun _ => fun
  | [d1, d2] => { results := [.lit (.bool true)], args := [d1, d2] }
  | _ => none }
def fnExactSpanHasRow : OpenClaim := { program := "ytgjcdejiolenkaa", sum := "06cda9b07a6e79d3f85449e944e5578cbd60ab69006b035ef8f5328ef5708238", func := "loop.example/s03010/laws.FnExactSpanHas", spec := "fnExactSpanHas", unfollowed := true, recurses := true, apart := false }
def FnExactSpanHasSaid : Prop := fnExactSpanHasRow.holds Try.pinned (OpenSpec.ofChange fnExactSpanHasSpec)

/-- ITS FALSE NEIGHBOUR: 'it returns false'. Refute it at one input. -/
def fnExactSpanHasWrong : ChangeSpec := { name := "fnExactSpanHas", fn := fun _ => fun
  | [d1, d2] => { results := [.lit (.bool false)], args := [d1, d2] }
  | _ => none }
def FnExactSpanHasWrongFalsely : Prop := fnExactSpanHasRow.holds Try.pinned (OpenSpec.ofChange fnExactSpanHasWrong)

/-- 'laws.FnExactSpanSize': WHATEVER THE INPUT: true; the input reads as it did. -/
def fnExactSpanSizeSpec : ChangeSpec := { name := "fnExactSpanSize", fn := fun _ => fun
  | [d1, d2] => { results := [.lit (.bool true)], args := [d1, d2] }
  | _ => none }
def fnExactSpanSizeRow : OpenClaim := { program := "ytgjcdejiolenkaa", sum := "06cda9b07a6e79d3f85449e944e5578cbd60ab69006b035ef8f5328ef5708238", func := "loop.example/s03010/laws.FnExactSpanSize", spec := "fnExactSpanSize", unfollowed := true, recurses := true, apart := false }
def FnExactSpanSizeSaid : Prop := fnExactSpanSizeRow.holds Try.pinned (OpenSpec.ofChange fnExactSpanSizeSpec)

/-- ITS FALSE NEIGHBOUR: 'it returns false'. Refute it at one input. -/
def fnExactSpanSizeWrong : ChangeSpec := { name := "fnExactSpanSize", fn := fun _ => fun
  | [d1, d2] => { results := [.lit (.bool false)], args := [d1, d2] }
  | _ => none }
def FnExactSpanSizeWrongFalsely : Prop := fnExactSpanSizeRow.holds Try.pinned (OpenSpec.ofChange fnExactSpanSizeWrong)

/-- 'laws.FnExactSpanAdd': WHATEVER THE INPUT: true; the input reads as it did. -/
def fnExactSpanAddSpec : ChangeSpec := { name := "fnExactSpanAdd", fn := fun _ => fun
  | [d1, d2] => { results := [.lit (.bool true)], args := [d1, d2] }
  | _ => none }
def fnExactSpanAddRow : OpenClaim := { program := "ytgjcdejiolenkaa", sum := "06cda9b07a6e79d3f85449e944e5578cbd60ab69006b035ef8f5328ef5708238", func := "loop.example/s03010/laws.FnExactSpanAdd", spec := "fnExactSpanAdd", unfollowed := true, recurses := true, apart := false }
def FnExactSpanAddSaid : Prop := fnExactSpanAddRow.holds Try.pinned (OpenSpec.ofChange fnExactSpanAddSpec)

/-- ITS FALSE NEIGHBOUR: 'it returns false'. Refute it at one input. -/
def fnExactSpanAddWrong : ChangeSpec := { name := "fnExactSpanAdd", fn := fun _ => fun
  | [d1, d2] => { results := [.lit (.bool false)], args := [d1, d2] }
  | _ => none }
def FnExactSpanAddWrongFalsely : Prop := fnExactSpanAddRow.holds Try.pinned (OpenSpec.ofChange fnExactSpanAddWrong)

/-- 'laws.FnExactSpanCut': WHATEVER THE INPUT: true; the input reads as it did. -/
def fnExactSpanCutSpec : ChangeSpec := { name := "fnExactSpanCut", fn := fun _ => fun
  | [d1, d2] => { results := [.lit (.bool true)], args := [d1, d2] }
  | _ => none }
def fnExactSpanCutRow : OpenClaim := { program := "ytgjcdejiolenkaa", sum := "06cda9b07a6e79d3f85449e944e5578cbd60ab69006b035ef8f5328ef5708238", func := "loop.example/s03010/laws.FnExactSpanCut", spec := "fnExactSpanCut", unfollowed := true, recurses := true, apart := false }
def FnExactSpanCutSaid : Prop := fnExactSpanCutRow.holds Try.pinned (OpenSpec.ofChange fnExactSpanCutSpec)

/-- ITS FALSE NEIGHBOUR: 'it returns false'. Refute it at one input. -/
def fnExactSpanCutWrong : ChangeSpec := { name := "fnExactSpanCut", fn := fun _ => fun
  | [d1, d2] => { results := [.lit (.bool false)], args := [d1, d2] }
  | _ => none }
def FnExactSpanCutWrongFalsely : Prop := fnExactSpanCutRow.holds Try.pinned (OpenSpec.ofChange fnExactSpanCutWrong)

/-- 'laws.FnExactSpanGaps': WHATEVER THE INPUT: true; the input reads as it did. -/
def fnExactSpanGapsSpec : ChangeSpec := { name := "fnExactSpanGaps", fn := fun _ => fun
  | [d1, d2] => { results := [.lit (.bool true)], args := [d1, d2] }
  | _ => none }
def fnExactSpanGapsRow : OpenClaim := { program := "ytgjcdejiolenkaa", sum := "06cda9b07a6e79d3f85449e944e5578cbd60ab69006b035ef8f5328ef5708238", func := "loop.example/s03010/laws.FnExactSpanGaps", spec := "fnExactSpanGaps", unfollowed := true, recurses := true, apart := false }
def FnExactSpanGapsSaid : Prop := fnExactSpanGapsRow.holds Try.pinned (OpenSpec.ofChange fnExactSpanGapsSpec)

/-- ITS FALSE NEIGHBOUR: 'it returns false'. Refute it at one input. -/
def fnExactSpanGapsWrong : ChangeSpec := { name := "fnExactSpanGaps", fn := fun _ => fun
  | [d1, d2] => { results := [.lit (.bool false)], args := [d1, d2] }
  | _ => none }
def FnExactSpanGapsWrongFalsely : Prop := fnExactSpanGapsRow.holds Try.pinned (OpenSpec.ofChange fnExactSpanGapsWrong)

/-- 'laws.FnSpans': WHATEVER THE INPUT: true; the input reads as it did. -/
def fnSpansSpec : ChangeSpec := { name := "fnSpans", fn := fun _ => fun
  | [d] => { results := [.lit (.bool true)], args := [d] }
  | _ => none }
def fnSpansRow : OpenClaim := { program := "ytgjcdejiolenkaa", sum := "06cda9b07a6e79d3f85449e944e5578cbd60ab69006b035ef8f5328ef5708238", func := "loop.example/s03010/laws.FnSpans", spec := "fnSpans", unfollowed := true, recurses := true, apart := false }
def FnSpansSaid : Prop := fnSpansRow.holds Try.pinned (OpenSpec.ofChange fnSpansSpec)

/-- ITS FALSE NEIGHBOUR: 'it returns false'. Refute it at one input. -/
def fnSpansWrong : ChangeSpec := { name := "fnSpans", fn := fun _ => fun
  | [d] => { results := [.lit (.bool false)], args := [d] }
  | _ => none }
def FnSpansWrongFalsely : Prop := fnSpansRow.holds Try.pinned (OpenSpec.ofChange fnSpansWrong)

/- THE SECOND FORM. 'bulk': how many values and letters a reading holds, each counted each time it is reached (what is shared counts as often as it is met; a slice's spare places count too). A statement '..UptoSaid' is the law's where the arguments, and the package variables that the reading takes, are together of bulk at most 1048576: NARROWER than '..Said'. Prove '..Said' where nothing that the law and all that it calls make is longer than what came in: it says more and counts as full. Else prove '..UptoSaid'. A law counts once. -/
mutual
def uptoBulk {H : Type} : DataW H → Nat
  | .lit (.string bytes) => bytes.length + 1
  | .lit _ => 1
  | .nil => 1
  | .ptr d => uptoBulk d + 1
  | .slice elems spare => uptoBulkAll elems + uptoBulkAll spare + 1
  | .agg parts => uptoBulkAll parts + 1
  | .iface _ d => uptoBulk d + 1
  | .map entries => uptoBulkEntries entries + 1
  | .held _ => 1
def uptoBulkAll {H : Type} : List (DataW H) → Nat
  | [] => 0
  | d :: r => uptoBulk d + uptoBulkAll r
def uptoBulkEntries {H : Type} : List (Lit × DataW H) → Nat
  | [] => 0
  | x :: r => uptoBulkEntry x + uptoBulkEntries r
def uptoBulkEntry {H : Type} : Lit × DataW H → Nat
  | (.string bytes, d) => bytes.length + uptoBulk d + 1
  | (_, d) => uptoBulk d + 1
 end
def uptoSmall : (H : Type) → List (DataW H) → Bool := fun _ ds => decide (uptoBulkAll ds ≤ 1048576)
def OpenSpec.upto (s : _root_.Go.ChangeSpec) : _root_.Go.OpenSpec := { _root_.Go.OpenSpec.ofChange s with cond := some uptoSmall }

/-- 'laws.FnExactSpanHas', WHERE WHAT IT READS IS OF BULK AT MOST 1048576: true; the input reads as it did. -/
def fnExactSpanHasUptoRow : OpenClaim := { program := "ytgjcdejiolenkaa", sum := "06cda9b07a6e79d3f85449e944e5578cbd60ab69006b035ef8f5328ef5708238", func := "loop.example/s03010/laws.FnExactSpanHas", spec := "fnExactSpanHas", unfollowed := true, recurses := true, apart := false, narrowed := true }
def FnExactSpanHasUptoSaid : Prop := fnExactSpanHasUptoRow.holds Try.pinned (OpenSpec.upto fnExactSpanHasSpec)

/-- 'laws.FnExactSpanSize', WHERE WHAT IT READS IS OF BULK AT MOST 1048576: true; the input reads as it did. -/
def fnExactSpanSizeUptoRow : OpenClaim := { program := "ytgjcdejiolenkaa", sum := "06cda9b07a6e79d3f85449e944e5578cbd60ab69006b035ef8f5328ef5708238", func := "loop.example/s03010/laws.FnExactSpanSize", spec := "fnExactSpanSize", unfollowed := true, recurses := true, apart := false, narrowed := true }
def FnExactSpanSizeUptoSaid : Prop := fnExactSpanSizeUptoRow.holds Try.pinned (OpenSpec.upto fnExactSpanSizeSpec)

/-- 'laws.FnExactSpanAdd', WHERE WHAT IT READS IS OF BULK AT MOST 1048576: true; the input reads as it did. -/
def fnExactSpanAddUptoRow : OpenClaim := { program := "ytgjcdejiolenkaa", sum := "06cda9b07a6e79d3f85449e944e5578cbd60ab69006b035ef8f5328ef5708238", func := "loop.example/s03010/laws.FnExactSpanAdd", spec := "fnExactSpanAdd", unfollowed := true, recurses := true, apart := false, narrowed := true }
def FnExactSpanAddUptoSaid : Prop := fnExactSpanAddUptoRow.holds Try.pinned (OpenSpec.upto fnExactSpanAddSpec)

/-- 'laws.FnExactSpanCut', WHERE WHAT IT READS IS OF BULK AT MOST 1048576: true; the input reads as it did. -/
def fnExactSpanCutUptoRow : OpenClaim := { program := "ytgjcdejiolenkaa", sum := "06cda9b07a6e79d3f85449e944e5578cbd60ab69006b035ef8f5328ef5708238", func := "loop.example/s03010/laws.FnExactSpanCut", spec := "fnExactSpanCut", unfollowed := true, recurses := true, apart := false, narrowed := true }
def FnExactSpanCutUptoSaid : Prop := fnExactSpanCutUptoRow.holds Try.pinned (OpenSpec.upto fnExactSpanCutSpec)

/-- 'laws.FnExactSpanGaps', WHERE WHAT IT READS IS OF BULK AT MOST 1048576: true; the input reads as it did. -/
def fnExactSpanGapsUptoRow : OpenClaim := { program := "ytgjcdejiolenkaa", sum := "06cda9b07a6e79d3f85449e944e5578cbd60ab69006b035ef8f5328ef5708238", func := "loop.example/s03010/laws.FnExactSpanGaps", spec := "fnExactSpanGaps", unfollowed := true, recurses := true, apart := false, narrowed := true }
def FnExactSpanGapsUptoSaid : Prop := fnExactSpanGapsUptoRow.holds Try.pinned (OpenSpec.upto fnExactSpanGapsSpec)

/-- 'laws.FnSpans', WHERE WHAT IT READS IS OF BULK AT MOST 1048576: true; the input reads as it did. -/
def fnSpansUptoRow : OpenClaim := { program := "ytgjcdejiolenkaa", sum := "06cda9b07a6e79d3f85449e944e5578cbd60ab69006b035ef8f5328ef5708238", func := "loop.example/s03010/laws.FnSpans", spec := "fnSpans", unfollowed := true, recurses := true, apart := false, narrowed := true }
def FnSpansUptoSaid : Prop := fnSpansUptoRow.holds Try.pinned (OpenSpec.upto fnSpansSpec)

end Rows
end Go.Proofs.Ytgjcdejiolenkaa
