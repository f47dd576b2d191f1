/-
  DERIVED. GIVEN WITH THE SEED: THE CARDS: each row of YtpomedfofnceeaaDoorRows.lean that lists a variable, with what it lists TIED to the program's text (the seventh form; the later family's looks); each row that meets fmt, with fmt's text TOLD by the authors' own Lean function (tested against real Go, not proved from fmt's source: count such statements apart). THE CARD IS WHAT COUNTS. Prove the row's statement (the work); the ties are given (YtpomedfofnceeaaDoorTie.lean); close each card by the builder's one call (the guide's Derived/Test/ToyasCard.lean, 'card_holds'). Laid BY PROGRAM, IN A SANDBOX (cutbox-door.mjs). By AI agents, Wed Nov 11 2026. No macro, syntax, notation, axiom, sorry.
-/
import Derived.Test.YtpomedfofnceeaaDoorRows
import GoSem.ClaimSeven
namespace Go.Proofs.YtpomedfofnceeaaDoor
namespace Rows

/-- THE TIED CARD OF 'laws.FnExactNewEngine'. -/
def fnExactNewEngineCard : Claim7 := { stood := { row := fnExactNewEngineRow, standIns := [], harness := (true, "46247930f76e6b008e3d6f8e8f364a6756f45778617c2ed0d2f699f0f852c724"), looks := false }, kinds := [], alts := [], laidByText := true, laidKinds := [.data], laidTests := true, laidLooks := .later }
def FnExactNewEngineCardSaid : Prop := Claim7.holds Tryd.pinned (.plain (OpenSpec.ofChange fnExactNewEngineSpec)) fnExactNewEngineCard

/-- THE TIED CARD OF 'laws.FnExactNewStore'. -/
def fnExactNewStoreCard : Claim7 := { stood := { row := fnExactNewStoreRow, standIns := [], harness := (true, "46247930f76e6b008e3d6f8e8f364a6756f45778617c2ed0d2f699f0f852c724"), looks := false }, kinds := [], alts := [], laidByText := true, laidKinds := [.data], laidTests := true, laidLooks := .later }
def FnExactNewStoreCardSaid : Prop := Claim7.holds Tryd.pinned (.plain (OpenSpec.ofChange fnExactNewStoreSpec)) fnExactNewStoreCard

/-- THE TIED CARD OF 'laws.FnExactStoreOK'. -/
def fnExactStoreOKCard : Claim7 := { stood := { row := fnExactStoreOKRow, standIns := [], harness := (true, "46247930f76e6b008e3d6f8e8f364a6756f45778617c2ed0d2f699f0f852c724"), looks := false }, kinds := [], alts := [], laidByText := true, laidKinds := [.data], laidTests := true, laidLooks := .later }
def FnExactStoreOKCardSaid : Prop := Claim7.holds Tryd.pinned (.plain (OpenSpec.ofChange fnExactStoreOKSpec)) fnExactStoreOKCard

/-- THE TIED CARD OF 'laws.FnExactReadLog'. -/
def fnExactReadLogCard : Claim7 := { stood := { row := fnExactReadLogRow, standIns := [], harness := (true, "46247930f76e6b008e3d6f8e8f364a6756f45778617c2ed0d2f699f0f852c724"), looks := false }, kinds := [], alts := [], laidByText := true, laidKinds := [.data], laidTests := true, laidLooks := .later }
def FnExactReadLogCardSaid : Prop := Claim7.holds Tryd.pinned (.plain (OpenSpec.ofChange fnExactReadLogSpec)) fnExactReadLogCard

/-- THE TIED CARD OF 'laws.FnExactHeaderBytes'. -/
def fnExactHeaderBytesCard : Claim7 := { stood := { row := fnExactHeaderBytesRow, standIns := [], harness := (true, "46247930f76e6b008e3d6f8e8f364a6756f45778617c2ed0d2f699f0f852c724"), looks := false }, kinds := [], alts := [], laidByText := true, laidKinds := [.data], laidTests := true, laidLooks := .later }
def FnExactHeaderBytesCardSaid : Prop := Claim7.holds Tryd.pinned (.plain (OpenSpec.ofChange fnExactHeaderBytesSpec)) fnExactHeaderBytesCard

/-- THE TIED CARD OF 'laws.FnExactRecordBytes'. -/
def fnExactRecordBytesCard : Claim7 := { stood := { row := fnExactRecordBytesRow, standIns := [], harness := (true, "46247930f76e6b008e3d6f8e8f364a6756f45778617c2ed0d2f699f0f852c724"), looks := false }, kinds := [], alts := [], laidByText := true, laidKinds := [.data], laidTests := true, laidLooks := .later }
def FnExactRecordBytesCardSaid : Prop := Claim7.holds Tryd.pinned (.plain (OpenSpec.ofChange fnExactRecordBytesSpec)) fnExactRecordBytesCard

/-- THE TIED CARD OF 'laws.FnExactReadRecord'. -/
def fnExactReadRecordCard : Claim7 := { stood := { row := fnExactReadRecordRow, standIns := [], harness := (true, "46247930f76e6b008e3d6f8e8f364a6756f45778617c2ed0d2f699f0f852c724"), looks := false }, kinds := [], alts := [], laidByText := true, laidKinds := [.data], laidTests := true, laidLooks := .later }
def FnExactReadRecordCardSaid : Prop := Claim7.holds Tryd.pinned (.plain (OpenSpec.ofChange fnExactReadRecordSpec)) fnExactReadRecordCard

/-- THE TIED CARD OF 'laws.FnExactPageBytes'. -/
def fnExactPageBytesCard : Claim7 := { stood := { row := fnExactPageBytesRow, standIns := [], harness := (true, "46247930f76e6b008e3d6f8e8f364a6756f45778617c2ed0d2f699f0f852c724"), looks := false }, kinds := [], alts := [], laidByText := true, laidKinds := [.data], laidTests := true, laidLooks := .later }
def FnExactPageBytesCardSaid : Prop := Claim7.holds Tryd.pinned (.plain (OpenSpec.ofChange fnExactPageBytesSpec)) fnExactPageBytesCard

/-- THE TIED CARD OF 'laws.FnExactReadPage'. -/
def fnExactReadPageCard : Claim7 := { stood := { row := fnExactReadPageRow, standIns := [], harness := (true, "46247930f76e6b008e3d6f8e8f364a6756f45778617c2ed0d2f699f0f852c724"), looks := false }, kinds := [], alts := [], laidByText := true, laidKinds := [.data], laidTests := true, laidLooks := .later }
def FnExactReadPageCardSaid : Prop := Claim7.holds Tryd.pinned (.plain (OpenSpec.ofChange fnExactReadPageSpec)) fnExactReadPageCard

/-- THE SECOND FORM's CARD OF 'laws.FnExactNewEngine'. -/
def fnExactNewEngineUptoCard : Claim7 := { stood := { row := fnExactNewEngineUptoRow, standIns := [], harness := (true, "46247930f76e6b008e3d6f8e8f364a6756f45778617c2ed0d2f699f0f852c724"), looks := false }, kinds := [], alts := [], laidByText := true, laidKinds := [.data], laidTests := true, laidLooks := .later }
def FnExactNewEngineUptoCardSaid : Prop := Claim7.holds Tryd.pinned (.plain (OpenSpec.upto fnExactNewEngineSpec)) fnExactNewEngineUptoCard

/-- THE SECOND FORM's CARD OF 'laws.FnExactNewStore'. -/
def fnExactNewStoreUptoCard : Claim7 := { stood := { row := fnExactNewStoreUptoRow, standIns := [], harness := (true, "46247930f76e6b008e3d6f8e8f364a6756f45778617c2ed0d2f699f0f852c724"), looks := false }, kinds := [], alts := [], laidByText := true, laidKinds := [.data], laidTests := true, laidLooks := .later }
def FnExactNewStoreUptoCardSaid : Prop := Claim7.holds Tryd.pinned (.plain (OpenSpec.upto fnExactNewStoreSpec)) fnExactNewStoreUptoCard

/-- THE SECOND FORM's CARD OF 'laws.FnExactStoreOK'. -/
def fnExactStoreOKUptoCard : Claim7 := { stood := { row := fnExactStoreOKUptoRow, standIns := [], harness := (true, "46247930f76e6b008e3d6f8e8f364a6756f45778617c2ed0d2f699f0f852c724"), looks := false }, kinds := [], alts := [], laidByText := true, laidKinds := [.data], laidTests := true, laidLooks := .later }
def FnExactStoreOKUptoCardSaid : Prop := Claim7.holds Tryd.pinned (.plain (OpenSpec.upto fnExactStoreOKSpec)) fnExactStoreOKUptoCard

/-- THE SECOND FORM's CARD OF 'laws.FnExactReadLog'. -/
def fnExactReadLogUptoCard : Claim7 := { stood := { row := fnExactReadLogUptoRow, standIns := [], harness := (true, "46247930f76e6b008e3d6f8e8f364a6756f45778617c2ed0d2f699f0f852c724"), looks := false }, kinds := [], alts := [], laidByText := true, laidKinds := [.data], laidTests := true, laidLooks := .later }
def FnExactReadLogUptoCardSaid : Prop := Claim7.holds Tryd.pinned (.plain (OpenSpec.upto fnExactReadLogSpec)) fnExactReadLogUptoCard

/-- THE SECOND FORM's CARD OF 'laws.FnExactHeaderBytes'. -/
def fnExactHeaderBytesUptoCard : Claim7 := { stood := { row := fnExactHeaderBytesUptoRow, standIns := [], harness := (true, "46247930f76e6b008e3d6f8e8f364a6756f45778617c2ed0d2f699f0f852c724"), looks := false }, kinds := [], alts := [], laidByText := true, laidKinds := [.data], laidTests := true, laidLooks := .later }
def FnExactHeaderBytesUptoCardSaid : Prop := Claim7.holds Tryd.pinned (.plain (OpenSpec.upto fnExactHeaderBytesSpec)) fnExactHeaderBytesUptoCard

/-- THE SECOND FORM's CARD OF 'laws.FnExactRecordBytes'. -/
def fnExactRecordBytesUptoCard : Claim7 := { stood := { row := fnExactRecordBytesUptoRow, standIns := [], harness := (true, "46247930f76e6b008e3d6f8e8f364a6756f45778617c2ed0d2f699f0f852c724"), looks := false }, kinds := [], alts := [], laidByText := true, laidKinds := [.data], laidTests := true, laidLooks := .later }
def FnExactRecordBytesUptoCardSaid : Prop := Claim7.holds Tryd.pinned (.plain (OpenSpec.upto fnExactRecordBytesSpec)) fnExactRecordBytesUptoCard

/-- THE SECOND FORM's CARD OF 'laws.FnExactReadRecord'. -/
def fnExactReadRecordUptoCard : Claim7 := { stood := { row := fnExactReadRecordUptoRow, standIns := [], harness := (true, "46247930f76e6b008e3d6f8e8f364a6756f45778617c2ed0d2f699f0f852c724"), looks := false }, kinds := [], alts := [], laidByText := true, laidKinds := [.data], laidTests := true, laidLooks := .later }
def FnExactReadRecordUptoCardSaid : Prop := Claim7.holds Tryd.pinned (.plain (OpenSpec.upto fnExactReadRecordSpec)) fnExactReadRecordUptoCard

/-- THE SECOND FORM's CARD OF 'laws.FnExactPageBytes'. -/
def fnExactPageBytesUptoCard : Claim7 := { stood := { row := fnExactPageBytesUptoRow, standIns := [], harness := (true, "46247930f76e6b008e3d6f8e8f364a6756f45778617c2ed0d2f699f0f852c724"), looks := false }, kinds := [], alts := [], laidByText := true, laidKinds := [.data], laidTests := true, laidLooks := .later }
def FnExactPageBytesUptoCardSaid : Prop := Claim7.holds Tryd.pinned (.plain (OpenSpec.upto fnExactPageBytesSpec)) fnExactPageBytesUptoCard

/-- THE SECOND FORM's CARD OF 'laws.FnExactReadPage'. -/
def fnExactReadPageUptoCard : Claim7 := { stood := { row := fnExactReadPageUptoRow, standIns := [], harness := (true, "46247930f76e6b008e3d6f8e8f364a6756f45778617c2ed0d2f699f0f852c724"), looks := false }, kinds := [], alts := [], laidByText := true, laidKinds := [.data], laidTests := true, laidLooks := .later }
def FnExactReadPageUptoCardSaid : Prop := Claim7.holds Tryd.pinned (.plain (OpenSpec.upto fnExactReadPageSpec)) fnExactReadPageUptoCard
end Rows
end Go.Proofs.YtpomedfofnceeaaDoor
