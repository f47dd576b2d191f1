/-
  DERIVED. GIVEN WITH THE SEED: THE CARDS: each row of YtggnfkdeakkpaaaDoorRows.lean that lists a variable, with what it lists TIED to the program's text (the seventh form; the later family's looks); each row that meets fmt, with fmt's text TOLD by the authors' own Lean function (tested against real Go, not proved from fmt's source: count such statements apart). THE CARD IS WHAT COUNTS. Prove the row's statement (the work); the ties are given (YtggnfkdeakkpaaaDoorTie.lean); close each card by the builder's one call (the guide's Derived/Test/ToyasCard.lean, 'card_holds'). Laid BY PROGRAM, IN A SANDBOX (cutbox-door.mjs). By AI agents, Wed Nov 11 2026. No macro, syntax, notation, axiom, sorry.
-/
import Derived.Test.YtggnfkdeakkpaaaDoorRows
import GoSem.ClaimSeven
namespace Go.Proofs.YtggnfkdeakkpaaaDoor
namespace Rows

/-- THE TIED CARD OF 'laws.FnPage'. -/
def fnPageCard : Claim7 := { stood := { row := fnPageRow, standIns := [], harness := (true, "4dae17f411a01d29459042ef7cfa58c234996d4ddd420e48c1cf94fc9a77882b"), looks := false }, kinds := [], alts := [], laidByText := true, laidKinds := [.data], laidTests := true, laidLooks := .later }
def FnPageCardSaid : Prop := Claim7.holds Tryd.pinned (.plain (OpenSpec.ofChange fnPageSpec)) fnPageCard

/-- THE TIED CARD OF 'laws.FnExactPageBytes'. -/
def fnExactPageBytesCard : Claim7 := { stood := { row := fnExactPageBytesRow, standIns := [], harness := (true, "4dae17f411a01d29459042ef7cfa58c234996d4ddd420e48c1cf94fc9a77882b"), looks := false }, kinds := [], alts := [], laidByText := true, laidKinds := [.data], laidTests := true, laidLooks := .later }
def FnExactPageBytesCardSaid : Prop := Claim7.holds Tryd.pinned (.plain (OpenSpec.ofChange fnExactPageBytesSpec)) fnExactPageBytesCard

/-- THE TIED CARD OF 'laws.FnExactReadPage'. -/
def fnExactReadPageCard : Claim7 := { stood := { row := fnExactReadPageRow, standIns := [], harness := (true, "4dae17f411a01d29459042ef7cfa58c234996d4ddd420e48c1cf94fc9a77882b"), looks := false }, kinds := [], alts := [], laidByText := true, laidKinds := [.data], laidTests := true, laidLooks := .later }
def FnExactReadPageCardSaid : Prop := Claim7.holds Tryd.pinned (.plain (OpenSpec.ofChange fnExactReadPageSpec)) fnExactReadPageCard

/-- THE SECOND FORM's CARD OF 'laws.FnPage'. -/
def fnPageUptoCard : Claim7 := { stood := { row := fnPageUptoRow, standIns := [], harness := (true, "4dae17f411a01d29459042ef7cfa58c234996d4ddd420e48c1cf94fc9a77882b"), looks := false }, kinds := [], alts := [], laidByText := true, laidKinds := [.data], laidTests := true, laidLooks := .later }
def FnPageUptoCardSaid : Prop := Claim7.holds Tryd.pinned (.plain (OpenSpec.upto fnPageSpec)) fnPageUptoCard

/-- THE SECOND FORM's CARD OF 'laws.FnExactPageBytes'. -/
def fnExactPageBytesUptoCard : Claim7 := { stood := { row := fnExactPageBytesUptoRow, standIns := [], harness := (true, "4dae17f411a01d29459042ef7cfa58c234996d4ddd420e48c1cf94fc9a77882b"), looks := false }, kinds := [], alts := [], laidByText := true, laidKinds := [.data], laidTests := true, laidLooks := .later }
def FnExactPageBytesUptoCardSaid : Prop := Claim7.holds Tryd.pinned (.plain (OpenSpec.upto fnExactPageBytesSpec)) fnExactPageBytesUptoCard

/-- THE SECOND FORM's CARD OF 'laws.FnExactReadPage'. -/
def fnExactReadPageUptoCard : Claim7 := { stood := { row := fnExactReadPageUptoRow, standIns := [], harness := (true, "4dae17f411a01d29459042ef7cfa58c234996d4ddd420e48c1cf94fc9a77882b"), looks := false }, kinds := [], alts := [], laidByText := true, laidKinds := [.data], laidTests := true, laidLooks := .later }
def FnExactReadPageUptoCardSaid : Prop := Claim7.holds Tryd.pinned (.plain (OpenSpec.upto fnExactReadPageSpec)) fnExactReadPageUptoCard
end Rows
end Go.Proofs.YtggnfkdeakkpaaaDoor
