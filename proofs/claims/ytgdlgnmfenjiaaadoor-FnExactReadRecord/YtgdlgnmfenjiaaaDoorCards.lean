/-
  DERIVED. GIVEN WITH THE SEED: THE CARDS: each row of YtgdlgnmfenjiaaaDoorRows.lean that lists a variable, with what it lists TIED to the program's text (the seventh form; the later family's looks); each row that meets fmt, with fmt's text TOLD by the authors' own Lean function (tested against real Go, not proved from fmt's source: count such statements apart). THE CARD IS WHAT COUNTS. Prove the row's statement (the work); the ties are given (YtgdlgnmfenjiaaaDoorTie.lean); close each card by the builder's one call (the guide's Derived/Test/ToyasCard.lean, 'card_holds'). Laid BY PROGRAM, IN A SANDBOX (cutbox-door.mjs). By AI agents, Wed Nov 11 2026. No macro, syntax, notation, axiom, sorry.
-/
import Derived.Test.YtgdlgnmfenjiaaaDoorRows
import GoSem.ClaimSeven
namespace Go.Proofs.YtgdlgnmfenjiaaaDoor
namespace Rows

/-- THE TIED CARD OF 'laws.FnRecord'. -/
def fnRecordCard : Claim7 := { stood := { row := fnRecordRow, standIns := [], harness := (true, "769a8dd77a8a399a6f8112ee68750ff49dc33cc33e67d594c385c0bee769e47b"), looks := false }, kinds := [], alts := [], laidByText := true, laidKinds := [.data], laidTests := true, laidLooks := .later }
def FnRecordCardSaid : Prop := Claim7.holds Tryd.pinned (.plain (OpenSpec.ofChange fnRecordSpec)) fnRecordCard

/-- THE TIED CARD OF 'laws.FnExactRecordBytes'. -/
def fnExactRecordBytesCard : Claim7 := { stood := { row := fnExactRecordBytesRow, standIns := [], harness := (true, "769a8dd77a8a399a6f8112ee68750ff49dc33cc33e67d594c385c0bee769e47b"), looks := false }, kinds := [], alts := [], laidByText := true, laidKinds := [.data], laidTests := true, laidLooks := .later }
def FnExactRecordBytesCardSaid : Prop := Claim7.holds Tryd.pinned (.plain (OpenSpec.ofChange fnExactRecordBytesSpec)) fnExactRecordBytesCard

/-- THE TIED CARD OF 'laws.FnExactReadRecord'. -/
def fnExactReadRecordCard : Claim7 := { stood := { row := fnExactReadRecordRow, standIns := [], harness := (true, "769a8dd77a8a399a6f8112ee68750ff49dc33cc33e67d594c385c0bee769e47b"), looks := false }, kinds := [], alts := [], laidByText := true, laidKinds := [.data], laidTests := true, laidLooks := .later }
def FnExactReadRecordCardSaid : Prop := Claim7.holds Tryd.pinned (.plain (OpenSpec.ofChange fnExactReadRecordSpec)) fnExactReadRecordCard

/-- THE TIED CARD OF 'laws.FnExactReadLog'. -/
def fnExactReadLogCard : Claim7 := { stood := { row := fnExactReadLogRow, standIns := [], harness := (true, "769a8dd77a8a399a6f8112ee68750ff49dc33cc33e67d594c385c0bee769e47b"), looks := false }, kinds := [], alts := [], laidByText := true, laidKinds := [.data], laidTests := true, laidLooks := .later }
def FnExactReadLogCardSaid : Prop := Claim7.holds Tryd.pinned (.plain (OpenSpec.ofChange fnExactReadLogSpec)) fnExactReadLogCard

/-- THE TIED CARD OF 'laws.FnExactHeaderBytes'. -/
def fnExactHeaderBytesCard : Claim7 := { stood := { row := fnExactHeaderBytesRow, standIns := [], harness := (true, "769a8dd77a8a399a6f8112ee68750ff49dc33cc33e67d594c385c0bee769e47b"), looks := false }, kinds := [], alts := [], laidByText := true, laidKinds := [.data], laidTests := true, laidLooks := .later }
def FnExactHeaderBytesCardSaid : Prop := Claim7.holds Tryd.pinned (.plain (OpenSpec.ofChange fnExactHeaderBytesSpec)) fnExactHeaderBytesCard

/-- THE TIED CARD OF 'laws.FnExactReadHeader'. -/
def fnExactReadHeaderCard : Claim7 := { stood := { row := fnExactReadHeaderRow, standIns := [], harness := (true, "769a8dd77a8a399a6f8112ee68750ff49dc33cc33e67d594c385c0bee769e47b"), looks := false }, kinds := [], alts := [], laidByText := true, laidKinds := [.data], laidTests := true, laidLooks := .later }
def FnExactReadHeaderCardSaid : Prop := Claim7.holds Tryd.pinned (.plain (OpenSpec.ofChange fnExactReadHeaderSpec)) fnExactReadHeaderCard

/-- THE TIED CARD OF 'laws.FnKeys'. -/
def fnKeysCard : Claim7 := { stood := { row := fnKeysRow, standIns := [], harness := (true, "769a8dd77a8a399a6f8112ee68750ff49dc33cc33e67d594c385c0bee769e47b"), looks := false }, kinds := [], alts := [], laidByText := true, laidKinds := [.data, .data, .data], laidTests := true, laidLooks := .later }
def FnKeysCardSaid : Prop := Claim7.holds Tryd.pinned (.plain (OpenSpec.ofChange fnKeysSpec)) fnKeysCard

/-- THE TIED CARD OF 'laws.FnPage'. -/
def fnPageCard : Claim7 := { stood := { row := fnPageRow, standIns := [], harness := (true, "769a8dd77a8a399a6f8112ee68750ff49dc33cc33e67d594c385c0bee769e47b"), looks := false }, kinds := [], alts := [], laidByText := true, laidKinds := [.data], laidTests := true, laidLooks := .later }
def FnPageCardSaid : Prop := Claim7.holds Tryd.pinned (.plain (OpenSpec.ofChange fnPageSpec)) fnPageCard

/-- THE SECOND FORM's CARD OF 'laws.FnRecord'. -/
def fnRecordUptoCard : Claim7 := { stood := { row := fnRecordUptoRow, standIns := [], harness := (true, "769a8dd77a8a399a6f8112ee68750ff49dc33cc33e67d594c385c0bee769e47b"), looks := false }, kinds := [], alts := [], laidByText := true, laidKinds := [.data], laidTests := true, laidLooks := .later }
def FnRecordUptoCardSaid : Prop := Claim7.holds Tryd.pinned (.plain (OpenSpec.upto fnRecordSpec)) fnRecordUptoCard

/-- THE SECOND FORM's CARD OF 'laws.FnExactRecordBytes'. -/
def fnExactRecordBytesUptoCard : Claim7 := { stood := { row := fnExactRecordBytesUptoRow, standIns := [], harness := (true, "769a8dd77a8a399a6f8112ee68750ff49dc33cc33e67d594c385c0bee769e47b"), looks := false }, kinds := [], alts := [], laidByText := true, laidKinds := [.data], laidTests := true, laidLooks := .later }
def FnExactRecordBytesUptoCardSaid : Prop := Claim7.holds Tryd.pinned (.plain (OpenSpec.upto fnExactRecordBytesSpec)) fnExactRecordBytesUptoCard

/-- THE SECOND FORM's CARD OF 'laws.FnExactReadRecord'. -/
def fnExactReadRecordUptoCard : Claim7 := { stood := { row := fnExactReadRecordUptoRow, standIns := [], harness := (true, "769a8dd77a8a399a6f8112ee68750ff49dc33cc33e67d594c385c0bee769e47b"), looks := false }, kinds := [], alts := [], laidByText := true, laidKinds := [.data], laidTests := true, laidLooks := .later }
def FnExactReadRecordUptoCardSaid : Prop := Claim7.holds Tryd.pinned (.plain (OpenSpec.upto fnExactReadRecordSpec)) fnExactReadRecordUptoCard

/-- THE SECOND FORM's CARD OF 'laws.FnExactReadLog'. -/
def fnExactReadLogUptoCard : Claim7 := { stood := { row := fnExactReadLogUptoRow, standIns := [], harness := (true, "769a8dd77a8a399a6f8112ee68750ff49dc33cc33e67d594c385c0bee769e47b"), looks := false }, kinds := [], alts := [], laidByText := true, laidKinds := [.data], laidTests := true, laidLooks := .later }
def FnExactReadLogUptoCardSaid : Prop := Claim7.holds Tryd.pinned (.plain (OpenSpec.upto fnExactReadLogSpec)) fnExactReadLogUptoCard

/-- THE SECOND FORM's CARD OF 'laws.FnExactHeaderBytes'. -/
def fnExactHeaderBytesUptoCard : Claim7 := { stood := { row := fnExactHeaderBytesUptoRow, standIns := [], harness := (true, "769a8dd77a8a399a6f8112ee68750ff49dc33cc33e67d594c385c0bee769e47b"), looks := false }, kinds := [], alts := [], laidByText := true, laidKinds := [.data], laidTests := true, laidLooks := .later }
def FnExactHeaderBytesUptoCardSaid : Prop := Claim7.holds Tryd.pinned (.plain (OpenSpec.upto fnExactHeaderBytesSpec)) fnExactHeaderBytesUptoCard

/-- THE SECOND FORM's CARD OF 'laws.FnExactReadHeader'. -/
def fnExactReadHeaderUptoCard : Claim7 := { stood := { row := fnExactReadHeaderUptoRow, standIns := [], harness := (true, "769a8dd77a8a399a6f8112ee68750ff49dc33cc33e67d594c385c0bee769e47b"), looks := false }, kinds := [], alts := [], laidByText := true, laidKinds := [.data], laidTests := true, laidLooks := .later }
def FnExactReadHeaderUptoCardSaid : Prop := Claim7.holds Tryd.pinned (.plain (OpenSpec.upto fnExactReadHeaderSpec)) fnExactReadHeaderUptoCard

/-- THE SECOND FORM's CARD OF 'laws.FnKeys'. -/
def fnKeysUptoCard : Claim7 := { stood := { row := fnKeysUptoRow, standIns := [], harness := (true, "769a8dd77a8a399a6f8112ee68750ff49dc33cc33e67d594c385c0bee769e47b"), looks := false }, kinds := [], alts := [], laidByText := true, laidKinds := [.data, .data, .data], laidTests := true, laidLooks := .later }
def FnKeysUptoCardSaid : Prop := Claim7.holds Tryd.pinned (.plain (OpenSpec.upto fnKeysSpec)) fnKeysUptoCard

/-- THE SECOND FORM's CARD OF 'laws.FnPage'. -/
def fnPageUptoCard : Claim7 := { stood := { row := fnPageUptoRow, standIns := [], harness := (true, "769a8dd77a8a399a6f8112ee68750ff49dc33cc33e67d594c385c0bee769e47b"), looks := false }, kinds := [], alts := [], laidByText := true, laidKinds := [.data], laidTests := true, laidLooks := .later }
def FnPageUptoCardSaid : Prop := Claim7.holds Tryd.pinned (.plain (OpenSpec.upto fnPageSpec)) fnPageUptoCard
end Rows
end Go.Proofs.YtgdlgnmfenjiaaaDoor
