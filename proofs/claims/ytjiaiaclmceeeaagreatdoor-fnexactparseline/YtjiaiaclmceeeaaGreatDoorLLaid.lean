import Derived.Test.YtjiaiaclmceeeaaGreatDoorTie
import Derived.LaidLaws
import Derived.LaidHandle
import Derived.Lay
namespace Go.Proofs.YtjiaiaclmceeeaaGreatDoor
open Go.ChangeShapes Go.WideShapes
set_option linter.unusedVariables false
set_option maxRecDepth 100000

theorem own : ownKnob Tryz.prog.godebug = none := by kernel_rfl
theorem laidOut : laidOutB Tryz.prog = true := by kernel_rfl
/-- The listed variables, and those of them that hold data. -/
def laidVars {H : Type} : List (String × DataW H) := [("math/bits.deBruijn32tab", Rows.laid_math_bits_deBruijn32tab), ("math/bits.deBruijn64tab", Rows.laid_math_bits_deBruijn64tab), ("internal/strconv.uint64pow10", Rows.laid_internal_strconv_uint64pow10), ("errors.errorType", Rows.laid_errors_errorType)]
def laidData {H : Type} : List (String × DataW H) := [("math/bits.deBruijn32tab", Rows.laid_math_bits_deBruijn32tab), ("math/bits.deBruijn64tab", Rows.laid_math_bits_deBruijn64tab), ("internal/strconv.uint64pow10", Rows.laid_internal_strconv_uint64pow10)]
theorem laidEt : Tryz.prog.globalNamed "errors.errorType" = some 4 := by kernel_rfl
/-- What the listed handle's block becomes; with it the world meets the condition. -/
def laidEtIn (n : Nat) : Obj → Obj
  | .cells _ t frozen => .cells #[.iface 293 (.agg #[.pointer (some ⟨n, 116, none⟩)])] t frozen
  | o => o
theorem laidWorld_met (os : Os) (args : Array Value) : laidMetH Tryz.prog laidVars (({ World.laidAll Tryz.prog os laidData with heap := (World.laidAll Tryz.prog os laidData).heap.modify 4 (laidEtIn Tryz.prog.globals.size) } : World).forCall (fun _ _ => 0) ⟨#[], args, []⟩).memory :=
  laidMetH_of_parts (laidMet_of_run' 8 (by kernel_rfl) (by kernel_rfl)) (by kernel_rfl)
end Go.Proofs.YtjiaiaclmceeeaaGreatDoor
