/-
  DERIVED. GIVEN WITH THE SEED: THE CARDS: each row of YthgggmkljnghmaaDoorRows.lean that lists a variable, with what it lists TIED to the program's text (the seventh form; the later family's looks); each row that meets fmt, with fmt's text TOLD by the authors' own Lean function (tested against real Go, not proved from fmt's source: count such statements apart). THE CARD IS WHAT COUNTS. Prove the row's statement (the work); the ties are given (YthgggmkljnghmaaDoorTie.lean); close each card by the builder's one call (the guide's Derived/Test/ToyasCard.lean, 'card_holds'). Laid BY PROGRAM, IN A SANDBOX (cutbox-door.mjs). By AI agents, Wed Nov 11 2026. No macro, syntax, notation, axiom, sorry.
-/
import Derived.Test.YthgggmkljnghmaaDoorRows
import GoSem.ClaimSeven
namespace Go.Proofs.YthgggmkljnghmaaDoor
namespace Rows

/-- THE TIED CARD OF 'laws.FnExactEncodeFrame'. -/
def fnExactEncodeFrameCard : Claim7 := { stood := { row := fnExactEncodeFrameRow, standIns := [], harness := (true, "d7679b138b44e165d6f32d0f3759adbec9ca7cd2addc137d370d340e522b7b29"), looks := true }, kinds := [], alts := [], laidByText := true, laidKinds := [.handle], laidTests := true, laidLooks := .later }
def FnExactEncodeFrameCardSaid : Prop := Claim7.holds Tryd.pinned (.plain (OpenSpec.ofChange fnExactEncodeFrameSpec)) fnExactEncodeFrameCard

/-- THE TIED CARD OF 'laws.FnExactDecodeFrame'. -/
def fnExactDecodeFrameCard : Claim7 := { stood := { row := fnExactDecodeFrameRow, standIns := [], harness := (true, "d7679b138b44e165d6f32d0f3759adbec9ca7cd2addc137d370d340e522b7b29"), looks := true }, kinds := [], alts := [], laidByText := true, laidKinds := [.handle], laidTests := true, laidLooks := .later }
def FnExactDecodeFrameCardSaid : Prop := Claim7.holds Tryd.pinned (.plain (OpenSpec.ofChange fnExactDecodeFrameSpec)) fnExactDecodeFrameCard

/-- THE TIED CARD OF 'laws.FnSplit'. -/
def fnSplitCard : Claim7 := { stood := { row := fnSplitRow, standIns := [], harness := (true, "d7679b138b44e165d6f32d0f3759adbec9ca7cd2addc137d370d340e522b7b29"), looks := true }, kinds := [], alts := [], laidByText := true, laidKinds := [.handle], laidTests := true, laidLooks := .later }
def FnSplitCardSaid : Prop := Claim7.holds Tryd.pinned (.plain (OpenSpec.ofChange fnSplitSpec)) fnSplitCard

/-- THE TIED CARD OF 'laws.FnFrames'. -/
def fnFramesCard : Claim7 := { stood := { row := fnFramesRow, standIns := [], harness := (true, "d7679b138b44e165d6f32d0f3759adbec9ca7cd2addc137d370d340e522b7b29"), looks := true }, kinds := [], alts := [], laidByText := true, laidKinds := [.handle], laidTests := true, laidLooks := .later }
def FnFramesCardSaid : Prop := Claim7.holds Tryd.pinned (.plain (OpenSpec.ofChange fnFramesSpec)) fnFramesCard

/-- THE SECOND FORM's CARD OF 'laws.FnExactEncodeFrame'. -/
def fnExactEncodeFrameUptoCard : Claim7 := { stood := { row := fnExactEncodeFrameUptoRow, standIns := [], harness := (true, "d7679b138b44e165d6f32d0f3759adbec9ca7cd2addc137d370d340e522b7b29"), looks := true }, kinds := [], alts := [], laidByText := true, laidKinds := [.handle], laidTests := true, laidLooks := .later }
def FnExactEncodeFrameUptoCardSaid : Prop := Claim7.holds Tryd.pinned (.plain (OpenSpec.upto fnExactEncodeFrameSpec)) fnExactEncodeFrameUptoCard

/-- THE SECOND FORM's CARD OF 'laws.FnExactDecodeFrame'. -/
def fnExactDecodeFrameUptoCard : Claim7 := { stood := { row := fnExactDecodeFrameUptoRow, standIns := [], harness := (true, "d7679b138b44e165d6f32d0f3759adbec9ca7cd2addc137d370d340e522b7b29"), looks := true }, kinds := [], alts := [], laidByText := true, laidKinds := [.handle], laidTests := true, laidLooks := .later }
def FnExactDecodeFrameUptoCardSaid : Prop := Claim7.holds Tryd.pinned (.plain (OpenSpec.upto fnExactDecodeFrameSpec)) fnExactDecodeFrameUptoCard

/-- THE SECOND FORM's CARD OF 'laws.FnSplit'. -/
def fnSplitUptoCard : Claim7 := { stood := { row := fnSplitUptoRow, standIns := [], harness := (true, "d7679b138b44e165d6f32d0f3759adbec9ca7cd2addc137d370d340e522b7b29"), looks := true }, kinds := [], alts := [], laidByText := true, laidKinds := [.handle], laidTests := true, laidLooks := .later }
def FnSplitUptoCardSaid : Prop := Claim7.holds Tryd.pinned (.plain (OpenSpec.upto fnSplitSpec)) fnSplitUptoCard

/-- THE SECOND FORM's CARD OF 'laws.FnFrames'. -/
def fnFramesUptoCard : Claim7 := { stood := { row := fnFramesUptoRow, standIns := [], harness := (true, "d7679b138b44e165d6f32d0f3759adbec9ca7cd2addc137d370d340e522b7b29"), looks := true }, kinds := [], alts := [], laidByText := true, laidKinds := [.handle], laidTests := true, laidLooks := .later }
def FnFramesUptoCardSaid : Prop := Claim7.holds Tryd.pinned (.plain (OpenSpec.upto fnFramesSpec)) fnFramesUptoCard
end Rows
end Go.Proofs.YthgggmkljnghmaaDoor
