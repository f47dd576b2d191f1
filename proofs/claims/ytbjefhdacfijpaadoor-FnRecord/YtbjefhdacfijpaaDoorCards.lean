/-
  DERIVED. GIVEN WITH THE SEED: THE CARDS: each row of YtbjefhdacfijpaaDoorRows.lean that lists a variable, with what it lists TIED to the program's text (the seventh form; the later family's looks); each row that meets fmt, with fmt's text TOLD by the authors' own Lean function (tested against real Go, not proved from fmt's source: count such statements apart). THE CARD IS WHAT COUNTS. Prove the row's statement (the work); the ties are given (YtbjefhdacfijpaaDoorTie.lean); close each card by the builder's one call (the guide's Derived/Test/ToyasCard.lean, 'card_holds'). Laid BY PROGRAM, IN A SANDBOX (cutbox-door.mjs). By AI agents, Wed Nov 11 2026. No macro, syntax, notation, axiom, sorry.
-/
import Derived.Test.YtbjefhdacfijpaaDoorRows
import GoSem.ClaimSeven
namespace Go.Proofs.YtbjefhdacfijpaaDoor
namespace Rows

/-- THE TIED CARD OF 'laws.FnExactRecordBytes'. -/
def fnExactRecordBytesCard : Claim7 := { stood := { row := fnExactRecordBytesRow, standIns := [], harness := (true, "e88d29334c0f557ad90670fdbc51ee7aec9ccc29afbe8f1846d1797032c33f80"), looks := false }, kinds := [], alts := [], laidByText := true, laidKinds := [.data], laidTests := true, laidLooks := .later }
def FnExactRecordBytesCardSaid : Prop := Claim7.holds Tryd.pinned (.plain (OpenSpec.ofChange fnExactRecordBytesSpec)) fnExactRecordBytesCard

/-- THE TIED CARD OF 'laws.FnExactReadRecord'. -/
def fnExactReadRecordCard : Claim7 := { stood := { row := fnExactReadRecordRow, standIns := [], harness := (true, "e88d29334c0f557ad90670fdbc51ee7aec9ccc29afbe8f1846d1797032c33f80"), looks := false }, kinds := [], alts := [], laidByText := true, laidKinds := [.data], laidTests := true, laidLooks := .later }
def FnExactReadRecordCardSaid : Prop := Claim7.holds Tryd.pinned (.plain (OpenSpec.ofChange fnExactReadRecordSpec)) fnExactReadRecordCard

/-- THE TIED CARD OF 'laws.FnExactReadLog'. -/
def fnExactReadLogCard : Claim7 := { stood := { row := fnExactReadLogRow, standIns := [], harness := (true, "e88d29334c0f557ad90670fdbc51ee7aec9ccc29afbe8f1846d1797032c33f80"), looks := false }, kinds := [], alts := [], laidByText := true, laidKinds := [.data], laidTests := true, laidLooks := .later }
def FnExactReadLogCardSaid : Prop := Claim7.holds Tryd.pinned (.plain (OpenSpec.ofChange fnExactReadLogSpec)) fnExactReadLogCard

/-- THE TIED CARD OF 'laws.FnRecord'. -/
def fnRecordCard : Claim7 := { stood := { row := fnRecordRow, standIns := [], harness := (true, "e88d29334c0f557ad90670fdbc51ee7aec9ccc29afbe8f1846d1797032c33f80"), looks := false }, kinds := [], alts := [], laidByText := true, laidKinds := [.data], laidTests := true, laidLooks := .later }
def FnRecordCardSaid : Prop := Claim7.holds Tryd.pinned (.plain (OpenSpec.ofChange fnRecordSpec)) fnRecordCard

/-- THE TIED CARD OF 'laws.FnExactNewStore'. -/
def fnExactNewStoreCard : Claim7 := { stood := { row := fnExactNewStoreRow, standIns := [], harness := (true, "e88d29334c0f557ad90670fdbc51ee7aec9ccc29afbe8f1846d1797032c33f80"), looks := false }, kinds := [], alts := [], laidByText := true, laidKinds := [.data], laidTests := true, laidLooks := .later }
def FnExactNewStoreCardSaid : Prop := Claim7.holds Tryd.pinned (.plain (OpenSpec.ofChange fnExactNewStoreSpec)) fnExactNewStoreCard

/-- THE TIED CARD OF 'laws.FnExactStoreOK'. -/
def fnExactStoreOKCard : Claim7 := { stood := { row := fnExactStoreOKRow, standIns := [], harness := (true, "e88d29334c0f557ad90670fdbc51ee7aec9ccc29afbe8f1846d1797032c33f80"), looks := false }, kinds := [], alts := [], laidByText := true, laidKinds := [.data], laidTests := true, laidLooks := .later }
def FnExactStoreOKCardSaid : Prop := Claim7.holds Tryd.pinned (.plain (OpenSpec.ofChange fnExactStoreOKSpec)) fnExactStoreOKCard

/-- THE TIED CARD OF 'laws.FnKeys'. -/
def fnKeysCard : Claim7 := { stood := { row := fnKeysRow, standIns := [], harness := (true, "e88d29334c0f557ad90670fdbc51ee7aec9ccc29afbe8f1846d1797032c33f80"), looks := false }, kinds := [], alts := [], laidByText := true, laidKinds := [.data, .data, .data], laidTests := true, laidLooks := .later }
def FnKeysCardSaid : Prop := Claim7.holds Tryd.pinned (.plain (OpenSpec.ofChange fnKeysSpec)) fnKeysCard

/-- THE TIED CARD OF 'laws.FnPage'. -/
def fnPageCard : Claim7 := { stood := { row := fnPageRow, standIns := [], harness := (true, "e88d29334c0f557ad90670fdbc51ee7aec9ccc29afbe8f1846d1797032c33f80"), looks := false }, kinds := [], alts := [], laidByText := true, laidKinds := [.data], laidTests := true, laidLooks := .later }
def FnPageCardSaid : Prop := Claim7.holds Tryd.pinned (.plain (OpenSpec.ofChange fnPageSpec)) fnPageCard

/-- THE SECOND FORM's CARD OF 'laws.FnExactRecordBytes'. -/
def fnExactRecordBytesUptoCard : Claim7 := { stood := { row := fnExactRecordBytesUptoRow, standIns := [], harness := (true, "e88d29334c0f557ad90670fdbc51ee7aec9ccc29afbe8f1846d1797032c33f80"), looks := false }, kinds := [], alts := [], laidByText := true, laidKinds := [.data], laidTests := true, laidLooks := .later }
def FnExactRecordBytesUptoCardSaid : Prop := Claim7.holds Tryd.pinned (.plain (OpenSpec.upto fnExactRecordBytesSpec)) fnExactRecordBytesUptoCard

/-- THE SECOND FORM's CARD OF 'laws.FnExactReadRecord'. -/
def fnExactReadRecordUptoCard : Claim7 := { stood := { row := fnExactReadRecordUptoRow, standIns := [], harness := (true, "e88d29334c0f557ad90670fdbc51ee7aec9ccc29afbe8f1846d1797032c33f80"), looks := false }, kinds := [], alts := [], laidByText := true, laidKinds := [.data], laidTests := true, laidLooks := .later }
def FnExactReadRecordUptoCardSaid : Prop := Claim7.holds Tryd.pinned (.plain (OpenSpec.upto fnExactReadRecordSpec)) fnExactReadRecordUptoCard

/-- THE SECOND FORM's CARD OF 'laws.FnExactReadLog'. -/
def fnExactReadLogUptoCard : Claim7 := { stood := { row := fnExactReadLogUptoRow, standIns := [], harness := (true, "e88d29334c0f557ad90670fdbc51ee7aec9ccc29afbe8f1846d1797032c33f80"), looks := false }, kinds := [], alts := [], laidByText := true, laidKinds := [.data], laidTests := true, laidLooks := .later }
def FnExactReadLogUptoCardSaid : Prop := Claim7.holds Tryd.pinned (.plain (OpenSpec.upto fnExactReadLogSpec)) fnExactReadLogUptoCard

/-- THE SECOND FORM's CARD OF 'laws.FnRecord'. -/
def fnRecordUptoCard : Claim7 := { stood := { row := fnRecordUptoRow, standIns := [], harness := (true, "e88d29334c0f557ad90670fdbc51ee7aec9ccc29afbe8f1846d1797032c33f80"), looks := false }, kinds := [], alts := [], laidByText := true, laidKinds := [.data], laidTests := true, laidLooks := .later }
def FnRecordUptoCardSaid : Prop := Claim7.holds Tryd.pinned (.plain (OpenSpec.upto fnRecordSpec)) fnRecordUptoCard

/-- THE SECOND FORM's CARD OF 'laws.FnExactNewStore'. -/
def fnExactNewStoreUptoCard : Claim7 := { stood := { row := fnExactNewStoreUptoRow, standIns := [], harness := (true, "e88d29334c0f557ad90670fdbc51ee7aec9ccc29afbe8f1846d1797032c33f80"), looks := false }, kinds := [], alts := [], laidByText := true, laidKinds := [.data], laidTests := true, laidLooks := .later }
def FnExactNewStoreUptoCardSaid : Prop := Claim7.holds Tryd.pinned (.plain (OpenSpec.upto fnExactNewStoreSpec)) fnExactNewStoreUptoCard

/-- THE SECOND FORM's CARD OF 'laws.FnExactStoreOK'. -/
def fnExactStoreOKUptoCard : Claim7 := { stood := { row := fnExactStoreOKUptoRow, standIns := [], harness := (true, "e88d29334c0f557ad90670fdbc51ee7aec9ccc29afbe8f1846d1797032c33f80"), looks := false }, kinds := [], alts := [], laidByText := true, laidKinds := [.data], laidTests := true, laidLooks := .later }
def FnExactStoreOKUptoCardSaid : Prop := Claim7.holds Tryd.pinned (.plain (OpenSpec.upto fnExactStoreOKSpec)) fnExactStoreOKUptoCard

/-- THE SECOND FORM's CARD OF 'laws.FnKeys'. -/
def fnKeysUptoCard : Claim7 := { stood := { row := fnKeysUptoRow, standIns := [], harness := (true, "e88d29334c0f557ad90670fdbc51ee7aec9ccc29afbe8f1846d1797032c33f80"), looks := false }, kinds := [], alts := [], laidByText := true, laidKinds := [.data, .data, .data], laidTests := true, laidLooks := .later }
def FnKeysUptoCardSaid : Prop := Claim7.holds Tryd.pinned (.plain (OpenSpec.upto fnKeysSpec)) fnKeysUptoCard

/-- THE SECOND FORM's CARD OF 'laws.FnPage'. -/
def fnPageUptoCard : Claim7 := { stood := { row := fnPageUptoRow, standIns := [], harness := (true, "e88d29334c0f557ad90670fdbc51ee7aec9ccc29afbe8f1846d1797032c33f80"), looks := false }, kinds := [], alts := [], laidByText := true, laidKinds := [.data], laidTests := true, laidLooks := .later }
def FnPageUptoCardSaid : Prop := Claim7.holds Tryd.pinned (.plain (OpenSpec.upto fnPageSpec)) fnPageUptoCard
end Rows
end Go.Proofs.YtbjefhdacfijpaaDoor
