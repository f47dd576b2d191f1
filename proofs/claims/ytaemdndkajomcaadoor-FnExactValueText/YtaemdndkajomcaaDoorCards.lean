/-
  DERIVED. GIVEN WITH THE SEED: THE CARDS: each row of YtaemdndkajomcaaDoorRows.lean that lists a variable, with what it lists TIED to the program's text (the seventh form; the later family's looks); each row that meets fmt, with fmt's text TOLD by the authors' own Lean function (tested against real Go, not proved from fmt's source: count such statements apart). THE CARD IS WHAT COUNTS. Prove the row's statement (the work); the ties are given (YtaemdndkajomcaaDoorTie.lean); close each card by the builder's one call (the guide's Derived/Test/ToyasCard.lean, 'card_holds'). Laid BY PROGRAM, IN A SANDBOX (cutbox-door.mjs). By AI agents, Wed Nov 11 2026. No macro, syntax, notation, axiom, sorry.
-/
import Derived.Test.YtaemdndkajomcaaDoorRows
import GoSem.ClaimSeven
namespace Go.Proofs.YtaemdndkajomcaaDoor
namespace Rows

/-- THE TIED CARD OF 'laws.FnKeys'. -/
def fnKeysCard : Claim7 := { stood := { row := fnKeysRow, standIns := [], harness := (true, "d8bb42358e882704c828899c53f480f5bf7cc696d6248a4e0b5f92ad38500088"), looks := false }, kinds := [], alts := [], laidByText := true, laidKinds := [.data, .data, .data], laidTests := true, laidLooks := .later }
def FnKeysCardSaid : Prop := Claim7.holds Tryd.pinned (.plain (OpenSpec.ofChange fnKeysSpec)) fnKeysCard

/-- THE TIED CARD OF 'laws.FnPage'. -/
def fnPageCard : Claim7 := { stood := { row := fnPageRow, standIns := [], harness := (true, "d8bb42358e882704c828899c53f480f5bf7cc696d6248a4e0b5f92ad38500088"), looks := false }, kinds := [], alts := [], laidByText := true, laidKinds := [.data], laidTests := true, laidLooks := .later }
def FnPageCardSaid : Prop := Claim7.holds Tryd.pinned (.plain (OpenSpec.ofChange fnPageSpec)) fnPageCard

/-- THE TIED CARD OF 'laws.FnExactValueText'. -/
def fnExactValueTextCard : Claim7 := { stood := { row := fnExactValueTextRow, standIns := [], harness := (true, "d8bb42358e882704c828899c53f480f5bf7cc696d6248a4e0b5f92ad38500088"), looks := false }, kinds := [], alts := [], laidByText := true, laidKinds := [.data, .data, .data], laidTests := true, laidLooks := .later }
def FnExactValueTextCardSaid : Prop := Claim7.holds Tryd.pinned (.plain (OpenSpec.ofChange fnExactValueTextSpec)) fnExactValueTextCard

/-- THE TIED CARD OF 'laws.FnExactPageBytes'. -/
def fnExactPageBytesCard : Claim7 := { stood := { row := fnExactPageBytesRow, standIns := [], harness := (true, "d8bb42358e882704c828899c53f480f5bf7cc696d6248a4e0b5f92ad38500088"), looks := false }, kinds := [], alts := [], laidByText := true, laidKinds := [.data], laidTests := true, laidLooks := .later }
def FnExactPageBytesCardSaid : Prop := Claim7.holds Tryd.pinned (.plain (OpenSpec.ofChange fnExactPageBytesSpec)) fnExactPageBytesCard

/-- THE TIED CARD OF 'laws.FnExactReadPage'. -/
def fnExactReadPageCard : Claim7 := { stood := { row := fnExactReadPageRow, standIns := [], harness := (true, "d8bb42358e882704c828899c53f480f5bf7cc696d6248a4e0b5f92ad38500088"), looks := false }, kinds := [], alts := [], laidByText := true, laidKinds := [.data], laidTests := true, laidLooks := .later }
def FnExactReadPageCardSaid : Prop := Claim7.holds Tryd.pinned (.plain (OpenSpec.ofChange fnExactReadPageSpec)) fnExactReadPageCard

/-- THE SECOND FORM's CARD OF 'laws.FnKeys'. -/
def fnKeysUptoCard : Claim7 := { stood := { row := fnKeysUptoRow, standIns := [], harness := (true, "d8bb42358e882704c828899c53f480f5bf7cc696d6248a4e0b5f92ad38500088"), looks := false }, kinds := [], alts := [], laidByText := true, laidKinds := [.data, .data, .data], laidTests := true, laidLooks := .later }
def FnKeysUptoCardSaid : Prop := Claim7.holds Tryd.pinned (.plain (OpenSpec.upto fnKeysSpec)) fnKeysUptoCard

/-- THE SECOND FORM's CARD OF 'laws.FnPage'. -/
def fnPageUptoCard : Claim7 := { stood := { row := fnPageUptoRow, standIns := [], harness := (true, "d8bb42358e882704c828899c53f480f5bf7cc696d6248a4e0b5f92ad38500088"), looks := false }, kinds := [], alts := [], laidByText := true, laidKinds := [.data], laidTests := true, laidLooks := .later }
def FnPageUptoCardSaid : Prop := Claim7.holds Tryd.pinned (.plain (OpenSpec.upto fnPageSpec)) fnPageUptoCard

/-- THE SECOND FORM's CARD OF 'laws.FnExactValueText'. -/
def fnExactValueTextUptoCard : Claim7 := { stood := { row := fnExactValueTextUptoRow, standIns := [], harness := (true, "d8bb42358e882704c828899c53f480f5bf7cc696d6248a4e0b5f92ad38500088"), looks := false }, kinds := [], alts := [], laidByText := true, laidKinds := [.data, .data, .data], laidTests := true, laidLooks := .later }
def FnExactValueTextUptoCardSaid : Prop := Claim7.holds Tryd.pinned (.plain (OpenSpec.upto fnExactValueTextSpec)) fnExactValueTextUptoCard

/-- THE SECOND FORM's CARD OF 'laws.FnExactPageBytes'. -/
def fnExactPageBytesUptoCard : Claim7 := { stood := { row := fnExactPageBytesUptoRow, standIns := [], harness := (true, "d8bb42358e882704c828899c53f480f5bf7cc696d6248a4e0b5f92ad38500088"), looks := false }, kinds := [], alts := [], laidByText := true, laidKinds := [.data], laidTests := true, laidLooks := .later }
def FnExactPageBytesUptoCardSaid : Prop := Claim7.holds Tryd.pinned (.plain (OpenSpec.upto fnExactPageBytesSpec)) fnExactPageBytesUptoCard

/-- THE SECOND FORM's CARD OF 'laws.FnExactReadPage'. -/
def fnExactReadPageUptoCard : Claim7 := { stood := { row := fnExactReadPageUptoRow, standIns := [], harness := (true, "d8bb42358e882704c828899c53f480f5bf7cc696d6248a4e0b5f92ad38500088"), looks := false }, kinds := [], alts := [], laidByText := true, laidKinds := [.data], laidTests := true, laidLooks := .later }
def FnExactReadPageUptoCardSaid : Prop := Claim7.holds Tryd.pinned (.plain (OpenSpec.upto fnExactReadPageSpec)) fnExactReadPageUptoCard
end Rows
end Go.Proofs.YtaemdndkajomcaaDoor
