/-
  No cell of these rows narrows 'for every input' (looked for: loops, veiled, ifaces, maps, wideKeys, modest, calm, conditions, laid).
  DERIVED. THE GIVEN ROWS OF THIS SEAT. 5 by the template 'for every input the law returns true; each argument reads behind the call as it read before'; 0 by the template 'total and deterministic' (their statements: YtincfdhfoaimbaaTotals.lean).
  GIVEN WITH THE SEED: the statements are not yours to turn. If you find one false, say at which input.
  Laid BY PROGRAM, IN A SANDBOX (cutbox-rows.mjs): the forced cells as the released guide's own fill.sh prints them over the translation 6e884032db023b2a… (all of the seat's roots in one cut). By AI agents, Wed Nov 11 2026. No macro, syntax, notation, axiom, sorry.
-/
import Derived.Test.YtincfdhfoaimbaaChecked
import GoSem.Claim
import GoSem.ClaimJoined
import GoSem.ClaimMapViews
import Derived.JoinedTies
import Derived.KernelRfl
namespace Go.Proofs.Ytincfdhfoaimbaa
/- THE CELL 'sum', in the pinned program and in every row, IS THE sha256 OF THE DUMP (.gsa) THAT YtincfdhfoaimbaaProg.lean LOADS. Nothing in Lean hashes anything: it is a label: what it is worth is what the hold of that sum in a sandbox is worth. -/
noncomputable def Try.pinned : Pinned := { name := "ytincfdhfoaimbaa", sum := "6e884032db023b2aad0c24c07fb509ba55c71f36deadfcd19a9fa20270ef8ff4", checked := Try.checked }
namespace Rows
def none {H : Type} : Left H := { results := [], args := [] }

/-- 'laws.FnExactRecvRun': WHATEVER THE INPUT: true; the input reads as it did. -/
def fnExactRecvRunSpec : ChangeSpec := { name := "fnExactRecvRun", fn := fun _ => fun
  | [d1, d2] => { results := [.lit (.bool true)], args := [d1, d2] }
  | _ => none }
def fnExactRecvRunRow : OpenClaim := { program := "ytincfdhfoaimbaa", sum := "6e884032db023b2aad0c24c07fb509ba55c71f36deadfcd19a9fa20270ef8ff4", func := "loop.example/s03010/laws.FnExactRecvRun", spec := "fnExactRecvRun", unfollowed := true, recurses := true, apart := false }
def FnExactRecvRunSaid : Prop := fnExactRecvRunRow.holds Try.pinned (OpenSpec.ofChange fnExactRecvRunSpec)

/-- ITS FALSE NEIGHBOUR: 'it returns false'. Refute it at one input. -/
def fnExactRecvRunWrong : ChangeSpec := { name := "fnExactRecvRun", fn := fun _ => fun
  | [d1, d2] => { results := [.lit (.bool false)], args := [d1, d2] }
  | _ => none }
def FnExactRecvRunWrongFalsely : Prop := fnExactRecvRunRow.holds Try.pinned (OpenSpec.ofChange fnExactRecvRunWrong)

/-- 'laws.FnDeath': WHATEVER THE INPUT: true; the input reads as it did. -/
def fnDeathSpec : ChangeSpec := { name := "fnDeath", fn := fun _ => fun
  | [d] => { results := [.lit (.bool true)], args := [d] }
  | _ => none }
def fnDeathRow : OpenClaim := { program := "ytincfdhfoaimbaa", sum := "6e884032db023b2aad0c24c07fb509ba55c71f36deadfcd19a9fa20270ef8ff4", func := "loop.example/s03010/laws.FnDeath", spec := "fnDeath", unfollowed := true, recurses := true, apart := false }
def FnDeathSaid : Prop := fnDeathRow.holds Try.pinned (OpenSpec.ofChange fnDeathSpec)

/-- ITS FALSE NEIGHBOUR: 'it returns false'. Refute it at one input. -/
def fnDeathWrong : ChangeSpec := { name := "fnDeath", fn := fun _ => fun
  | [d] => { results := [.lit (.bool false)], args := [d] }
  | _ => none }
def FnDeathWrongFalsely : Prop := fnDeathRow.holds Try.pinned (OpenSpec.ofChange fnDeathWrong)

/-- 'laws.FnSubRecv': WHATEVER THE INPUT: true; the input reads as it did. -/
def fnSubRecvSpec : ChangeSpec := { name := "fnSubRecv", fn := fun _ => fun
  | [d1, d2] => { results := [.lit (.bool true)], args := [d1, d2] }
  | _ => none }
def fnSubRecvRow : OpenClaim := { program := "ytincfdhfoaimbaa", sum := "6e884032db023b2aad0c24c07fb509ba55c71f36deadfcd19a9fa20270ef8ff4", func := "loop.example/s03010/laws.FnSubRecv", spec := "fnSubRecv", unfollowed := true, recurses := true, apart := false }
def FnSubRecvSaid : Prop := fnSubRecvRow.holds Try.pinned (OpenSpec.ofChange fnSubRecvSpec)

/-- ITS FALSE NEIGHBOUR: 'it returns false'. Refute it at one input. -/
def fnSubRecvWrong : ChangeSpec := { name := "fnSubRecv", fn := fun _ => fun
  | [d1, d2] => { results := [.lit (.bool false)], args := [d1, d2] }
  | _ => none }
def FnSubRecvWrongFalsely : Prop := fnSubRecvRow.holds Try.pinned (OpenSpec.ofChange fnSubRecvWrong)

/-- 'laws.FnExactSubState': WHATEVER THE INPUT: true; the input reads as it did. -/
def fnExactSubStateSpec : ChangeSpec := { name := "fnExactSubState", fn := fun _ => fun
  | [d1, d2] => { results := [.lit (.bool true)], args := [d1, d2] }
  | _ => none }
def fnExactSubStateRow : OpenClaim := { program := "ytincfdhfoaimbaa", sum := "6e884032db023b2aad0c24c07fb509ba55c71f36deadfcd19a9fa20270ef8ff4", func := "loop.example/s03010/laws.FnExactSubState", spec := "fnExactSubState", unfollowed := true, recurses := true, apart := false }
def FnExactSubStateSaid : Prop := fnExactSubStateRow.holds Try.pinned (OpenSpec.ofChange fnExactSubStateSpec)

/-- ITS FALSE NEIGHBOUR: 'it returns false'. Refute it at one input. -/
def fnExactSubStateWrong : ChangeSpec := { name := "fnExactSubState", fn := fun _ => fun
  | [d1, d2] => { results := [.lit (.bool false)], args := [d1, d2] }
  | _ => none }
def FnExactSubStateWrongFalsely : Prop := fnExactSubStateRow.holds Try.pinned (OpenSpec.ofChange fnExactSubStateWrong)

/-- 'laws.FnExactSubRun': WHATEVER THE INPUT: true; the input reads as it did. -/
def fnExactSubRunSpec : ChangeSpec := { name := "fnExactSubRun", fn := fun _ => fun
  | [d1, d2] => { results := [.lit (.bool true)], args := [d1, d2] }
  | _ => none }
def fnExactSubRunRow : OpenClaim := { program := "ytincfdhfoaimbaa", sum := "6e884032db023b2aad0c24c07fb509ba55c71f36deadfcd19a9fa20270ef8ff4", func := "loop.example/s03010/laws.FnExactSubRun", spec := "fnExactSubRun", unfollowed := true, recurses := true, apart := false }
def FnExactSubRunSaid : Prop := fnExactSubRunRow.holds Try.pinned (OpenSpec.ofChange fnExactSubRunSpec)

/-- ITS FALSE NEIGHBOUR: 'it returns false'. Refute it at one input. -/
def fnExactSubRunWrong : ChangeSpec := { name := "fnExactSubRun", fn := fun _ => fun
  | [d1, d2] => { results := [.lit (.bool false)], args := [d1, d2] }
  | _ => none }
def FnExactSubRunWrongFalsely : Prop := fnExactSubRunRow.holds Try.pinned (OpenSpec.ofChange fnExactSubRunWrong)

/- THE SECOND FORM. 'bulk': how many values and letters a reading holds, each counted each time it is reached (what is shared counts as often as it is met; a slice's spare places count too). A statement '..UptoSaid' is the law's where the arguments, and the package variables that the reading takes, are together of bulk at most 1048576: NARROWER than '..Said'. Prove '..Said' where nothing that the law and all that it calls make is longer than what came in: it says more and counts as full. Else prove '..UptoSaid'. A law counts once. -/
mutual
def uptoBulk {H : Type} : DataW H → Nat
  | .lit (.string bytes) => bytes.length + 1
  | .lit _ => 1
  | .nil => 1
  | .ptr d => uptoBulk d + 1
  | .slice elems spare => uptoBulkAll elems + uptoBulkAll spare + 1
  | .agg parts => uptoBulkAll parts + 1
  | .iface _ d => uptoBulk d + 1
  | .map entries => uptoBulkEntries entries + 1
  | .held _ => 1
def uptoBulkAll {H : Type} : List (DataW H) → Nat
  | [] => 0
  | d :: r => uptoBulk d + uptoBulkAll r
def uptoBulkEntries {H : Type} : List (Lit × DataW H) → Nat
  | [] => 0
  | x :: r => uptoBulkEntry x + uptoBulkEntries r
def uptoBulkEntry {H : Type} : Lit × DataW H → Nat
  | (.string bytes, d) => bytes.length + uptoBulk d + 1
  | (_, d) => uptoBulk d + 1
 end
def uptoSmall : (H : Type) → List (DataW H) → Bool := fun _ ds => decide (uptoBulkAll ds ≤ 1048576)
def OpenSpec.upto (s : _root_.Go.ChangeSpec) : _root_.Go.OpenSpec := { _root_.Go.OpenSpec.ofChange s with cond := some uptoSmall }

/-- 'laws.FnExactRecvRun', WHERE WHAT IT READS IS OF BULK AT MOST 1048576: true; the input reads as it did. -/
def fnExactRecvRunUptoRow : OpenClaim := { program := "ytincfdhfoaimbaa", sum := "6e884032db023b2aad0c24c07fb509ba55c71f36deadfcd19a9fa20270ef8ff4", func := "loop.example/s03010/laws.FnExactRecvRun", spec := "fnExactRecvRun", unfollowed := true, recurses := true, apart := false, narrowed := true }
def FnExactRecvRunUptoSaid : Prop := fnExactRecvRunUptoRow.holds Try.pinned (OpenSpec.upto fnExactRecvRunSpec)

/-- 'laws.FnDeath', WHERE WHAT IT READS IS OF BULK AT MOST 1048576: true; the input reads as it did. -/
def fnDeathUptoRow : OpenClaim := { program := "ytincfdhfoaimbaa", sum := "6e884032db023b2aad0c24c07fb509ba55c71f36deadfcd19a9fa20270ef8ff4", func := "loop.example/s03010/laws.FnDeath", spec := "fnDeath", unfollowed := true, recurses := true, apart := false, narrowed := true }
def FnDeathUptoSaid : Prop := fnDeathUptoRow.holds Try.pinned (OpenSpec.upto fnDeathSpec)

/-- 'laws.FnSubRecv', WHERE WHAT IT READS IS OF BULK AT MOST 1048576: true; the input reads as it did. -/
def fnSubRecvUptoRow : OpenClaim := { program := "ytincfdhfoaimbaa", sum := "6e884032db023b2aad0c24c07fb509ba55c71f36deadfcd19a9fa20270ef8ff4", func := "loop.example/s03010/laws.FnSubRecv", spec := "fnSubRecv", unfollowed := true, recurses := true, apart := false, narrowed := true }
def FnSubRecvUptoSaid : Prop := fnSubRecvUptoRow.holds Try.pinned (OpenSpec.upto fnSubRecvSpec)

/-- 'laws.FnExactSubState', WHERE WHAT IT READS IS OF BULK AT MOST 1048576: true; the input reads as it did. -/
def fnExactSubStateUptoRow : OpenClaim := { program := "ytincfdhfoaimbaa", sum := "6e884032db023b2aad0c24c07fb509ba55c71f36deadfcd19a9fa20270ef8ff4", func := "loop.example/s03010/laws.FnExactSubState", spec := "fnExactSubState", unfollowed := true, recurses := true, apart := false, narrowed := true }
def FnExactSubStateUptoSaid : Prop := fnExactSubStateUptoRow.holds Try.pinned (OpenSpec.upto fnExactSubStateSpec)

/-- 'laws.FnExactSubRun', WHERE WHAT IT READS IS OF BULK AT MOST 1048576: true; the input reads as it did. -/
def fnExactSubRunUptoRow : OpenClaim := { program := "ytincfdhfoaimbaa", sum := "6e884032db023b2aad0c24c07fb509ba55c71f36deadfcd19a9fa20270ef8ff4", func := "loop.example/s03010/laws.FnExactSubRun", spec := "fnExactSubRun", unfollowed := true, recurses := true, apart := false, narrowed := true }
def FnExactSubRunUptoSaid : Prop := fnExactSubRunUptoRow.holds Try.pinned (OpenSpec.upto fnExactSubRunSpec)

end Rows
end Go.Proofs.Ytincfdhfoaimbaa
