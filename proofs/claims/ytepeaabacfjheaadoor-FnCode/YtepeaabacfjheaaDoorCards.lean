/-
  DERIVED. GIVEN WITH THE SEED: THE CARDS: each row of YtepeaabacfjheaaDoorRows.lean that lists a variable, with what it lists TIED to the program's text (the seventh form; the later family's looks); each row that meets fmt, with fmt's text TOLD by the authors' own Lean function (tested against real Go, not proved from fmt's source: count such statements apart). THE CARD IS WHAT COUNTS. Prove the row's statement (the work); the ties are given (YtepeaabacfjheaaDoorTie.lean); close each card by the builder's one call (the guide's Derived/Test/ToyasCard.lean, 'card_holds'). Laid BY PROGRAM, IN A SANDBOX (cutbox-door.mjs). By AI agents, Wed Nov 11 2026. No macro, syntax, notation, axiom, sorry.
-/
import Derived.Test.YtepeaabacfjheaaDoorRows
import GoSem.ClaimSeven
namespace Go.Proofs.YtepeaabacfjheaaDoor
namespace Rows

/-- THE TIED CARD OF 'laws.FnExactCodeOK'. -/
def fnExactCodeOKCard : Claim7 := { stood := { row := fnExactCodeOKRow, standIns := [], harness := (true, "68adb0741af0b1d28264e57ae85ed6eb46a05e888e2e8b47a4554b89c9168750"), looks := true }, kinds := [], alts := [], laidByText := true, laidKinds := [.data], laidTests := true, laidLooks := .later }
def FnExactCodeOKCardSaid : Prop := Claim7.holds Tryd.pinned (.plain (OpenSpec.ofChange fnExactCodeOKSpec)) fnExactCodeOKCard

/-- THE TIED CARD OF 'laws.FnExactRunCode'. -/
def fnExactRunCodeCard : Claim7 := { stood := { row := fnExactRunCodeRow, standIns := [], harness := (true, "68adb0741af0b1d28264e57ae85ed6eb46a05e888e2e8b47a4554b89c9168750"), looks := true }, kinds := [], alts := [], laidByText := true, laidKinds := [.data], laidTests := true, laidLooks := .later }
def FnExactRunCodeCardSaid : Prop := Claim7.holds Tryd.pinned (.plain (OpenSpec.ofChange fnExactRunCodeSpec)) fnExactRunCodeCard

/-- THE TIED CARD OF 'laws.FnExactCodeDepth'. -/
def fnExactCodeDepthCard : Claim7 := { stood := { row := fnExactCodeDepthRow, standIns := [], harness := (true, "68adb0741af0b1d28264e57ae85ed6eb46a05e888e2e8b47a4554b89c9168750"), looks := true }, kinds := [], alts := [], laidByText := true, laidKinds := [.data], laidTests := true, laidLooks := .later }
def FnExactCodeDepthCardSaid : Prop := Claim7.holds Tryd.pinned (.plain (OpenSpec.ofChange fnExactCodeDepthSpec)) fnExactCodeDepthCard

/-- THE TIED CARD OF 'laws.FnCode'. -/
def fnCodeCard : Claim7 := { stood := { row := fnCodeRow, standIns := [], harness := (true, "68adb0741af0b1d28264e57ae85ed6eb46a05e888e2e8b47a4554b89c9168750"), looks := true }, kinds := [], alts := [], laidByText := true, laidKinds := [.data], laidTests := true, laidLooks := .later }
def FnCodeCardSaid : Prop := Claim7.holds Tryd.pinned (.plain (OpenSpec.ofChange fnCodeSpec)) fnCodeCard

/-- THE SECOND FORM's CARD OF 'laws.FnExactCodeOK'. -/
def fnExactCodeOKUptoCard : Claim7 := { stood := { row := fnExactCodeOKUptoRow, standIns := [], harness := (true, "68adb0741af0b1d28264e57ae85ed6eb46a05e888e2e8b47a4554b89c9168750"), looks := true }, kinds := [], alts := [], laidByText := true, laidKinds := [.data], laidTests := true, laidLooks := .later }
def FnExactCodeOKUptoCardSaid : Prop := Claim7.holds Tryd.pinned (.plain (OpenSpec.upto fnExactCodeOKSpec)) fnExactCodeOKUptoCard

/-- THE SECOND FORM's CARD OF 'laws.FnExactRunCode'. -/
def fnExactRunCodeUptoCard : Claim7 := { stood := { row := fnExactRunCodeUptoRow, standIns := [], harness := (true, "68adb0741af0b1d28264e57ae85ed6eb46a05e888e2e8b47a4554b89c9168750"), looks := true }, kinds := [], alts := [], laidByText := true, laidKinds := [.data], laidTests := true, laidLooks := .later }
def FnExactRunCodeUptoCardSaid : Prop := Claim7.holds Tryd.pinned (.plain (OpenSpec.upto fnExactRunCodeSpec)) fnExactRunCodeUptoCard

/-- THE SECOND FORM's CARD OF 'laws.FnExactCodeDepth'. -/
def fnExactCodeDepthUptoCard : Claim7 := { stood := { row := fnExactCodeDepthUptoRow, standIns := [], harness := (true, "68adb0741af0b1d28264e57ae85ed6eb46a05e888e2e8b47a4554b89c9168750"), looks := true }, kinds := [], alts := [], laidByText := true, laidKinds := [.data], laidTests := true, laidLooks := .later }
def FnExactCodeDepthUptoCardSaid : Prop := Claim7.holds Tryd.pinned (.plain (OpenSpec.upto fnExactCodeDepthSpec)) fnExactCodeDepthUptoCard

/-- THE SECOND FORM's CARD OF 'laws.FnCode'. -/
def fnCodeUptoCard : Claim7 := { stood := { row := fnCodeUptoRow, standIns := [], harness := (true, "68adb0741af0b1d28264e57ae85ed6eb46a05e888e2e8b47a4554b89c9168750"), looks := true }, kinds := [], alts := [], laidByText := true, laidKinds := [.data], laidTests := true, laidLooks := .later }
def FnCodeUptoCardSaid : Prop := Claim7.holds Tryd.pinned (.plain (OpenSpec.upto fnCodeSpec)) fnCodeUptoCard
end Rows
end Go.Proofs.YtepeaabacfjheaaDoor
