/-
  DERIVED. GIVEN WITH THE SEED: THE CARDS: each row of YtkpopingbbaomaaGreatDoorRows.lean that lists a variable, with what it lists TIED to the program's text (the seventh form; the later family's looks); each row that meets fmt, with fmt's text TOLD by the authors' own Lean function (tested against real Go, not proved from fmt's source: count such statements apart). THE CARD IS WHAT COUNTS. Prove the row's statement (the work); the ties are given (YtkpopingbbaomaaGreatDoorTie.lean); close each card by the builder's one call (the guide's Derived/Test/ToyasCard.lean, 'card_holds'). Laid BY PROGRAM, IN A SANDBOX (cutbox-door.mjs). By AI agents, Wed Nov 11 2026. No macro, syntax, notation, axiom, sorry.
-/
import Derived.Test.YtkpopingbbaomaaGreatDoorRows
import GoSem.ClaimSeven
namespace Go.Proofs.YtkpopingbbaomaaGreatDoor
namespace Rows

/-- THE TIED CARD OF 'laws.FnExactEngineOK'. -/
def fnExactEngineOKCard : Claim7 := { stood := { row := fnExactEngineOKRow, standIns := [], harness := (true, "8f9433b5036375631c9ab0cdf5ea39c5567e458be3bde433d9faa5ee6884ce84"), looks := true }, kinds := [], alts := [], laidByText := true, laidKinds := [.data, .data], laidTests := true, laidLooks := .later }
def FnExactEngineOKCardSaid : Prop := Claim7.holds Tryz.pinned (.plain (OpenSpec.ofChange fnExactEngineOKSpec)) fnExactEngineOKCard

/-- THE TIED CARD OF 'laws.FnExactBeginTx'. -/
def fnExactBeginTxCard : Claim7 := { stood := { row := fnExactBeginTxRow, standIns := [], harness := (true, "8f9433b5036375631c9ab0cdf5ea39c5567e458be3bde433d9faa5ee6884ce84"), looks := true }, kinds := [], alts := [], laidByText := true, laidKinds := [.data, .data], laidTests := true, laidLooks := .later }
def FnExactBeginTxCardSaid : Prop := Claim7.holds Tryz.pinned (.plain (OpenSpec.ofChange fnExactBeginTxSpec)) fnExactBeginTxCard

/-- THE TIED CARD OF 'laws.FnExactCommitTx'. -/
def fnExactCommitTxCard : Claim7 := { stood := { row := fnExactCommitTxRow, standIns := [], harness := (true, "8f9433b5036375631c9ab0cdf5ea39c5567e458be3bde433d9faa5ee6884ce84"), looks := true }, kinds := [], alts := [], laidByText := true, laidKinds := [.data, .data, .sentinel, .sentinel, .sentinel, .sentinel, .sentinel, .sentinel], laidTests := true, laidLooks := .later }
def FnExactCommitTxCardSaid : Prop := Claim7.holds Tryz.pinned (.plain (OpenSpec.ofChange fnExactCommitTxSpec)) fnExactCommitTxCard

/-- THE TIED CARD OF 'laws.FnExactCrashEngine'. -/
def fnExactCrashEngineCard : Claim7 := { stood := { row := fnExactCrashEngineRow, standIns := [], harness := (true, "8f9433b5036375631c9ab0cdf5ea39c5567e458be3bde433d9faa5ee6884ce84"), looks := true }, kinds := [], alts := [], laidByText := true, laidKinds := [.data, .data], laidTests := true, laidLooks := .later }
def FnExactCrashEngineCardSaid : Prop := Claim7.holds Tryz.pinned (.plain (OpenSpec.ofChange fnExactCrashEngineSpec)) fnExactCrashEngineCard

/-- THE TIED CARD OF 'laws.FnExactArmEngine'. -/
def fnExactArmEngineCard : Claim7 := { stood := { row := fnExactArmEngineRow, standIns := [], harness := (true, "8f9433b5036375631c9ab0cdf5ea39c5567e458be3bde433d9faa5ee6884ce84"), looks := true }, kinds := [], alts := [], laidByText := true, laidKinds := [.data, .data], laidTests := true, laidLooks := .later }
def FnExactArmEngineCardSaid : Prop := Claim7.holds Tryz.pinned (.plain (OpenSpec.ofChange fnExactArmEngineSpec)) fnExactArmEngineCard

/-- THE TIED CARD OF 'laws.FnExactUndoNeeds'. -/
def fnExactUndoNeedsCard : Claim7 := { stood := { row := fnExactUndoNeedsRow, standIns := [], harness := (true, "8f9433b5036375631c9ab0cdf5ea39c5567e458be3bde433d9faa5ee6884ce84"), looks := true }, kinds := [], alts := [], laidByText := true, laidKinds := [.data, .data], laidTests := true, laidLooks := .later }
def FnExactUndoNeedsCardSaid : Prop := Claim7.holds Tryz.pinned (.plain (OpenSpec.ofChange fnExactUndoNeedsSpec)) fnExactUndoNeedsCard

/-- THE TIED CARD OF 'laws.FnExactTakeCheck'. -/
def fnExactTakeCheckCard : Claim7 := { stood := { row := fnExactTakeCheckRow, standIns := [], harness := (true, "8f9433b5036375631c9ab0cdf5ea39c5567e458be3bde433d9faa5ee6884ce84"), looks := true }, kinds := [], alts := [], laidByText := true, laidKinds := [.data, .data, .sentinel, .sentinel, .sentinel, .sentinel, .sentinel, .sentinel], laidTests := true, laidLooks := .later }
def FnExactTakeCheckCardSaid : Prop := Claim7.holds Tryz.pinned (.plain (OpenSpec.ofChange fnExactTakeCheckSpec)) fnExactTakeCheckCard

/-- THE TIED CARD OF 'laws.FnExactAppendLog'. -/
def fnExactAppendLogCard : Claim7 := { stood := { row := fnExactAppendLogRow, standIns := [], harness := (true, "8f9433b5036375631c9ab0cdf5ea39c5567e458be3bde433d9faa5ee6884ce84"), looks := true }, kinds := [], alts := [], laidByText := true, laidKinds := [.data], laidTests := true, laidLooks := .later }
def FnExactAppendLogCardSaid : Prop := Claim7.holds Tryz.pinned (.plain (OpenSpec.ofChange fnExactAppendLogSpec)) fnExactAppendLogCard

/-- THE TIED CARD OF 'laws.FnExactDirtyPages'. -/
def fnExactDirtyPagesCard : Claim7 := { stood := { row := fnExactDirtyPagesRow, standIns := [], harness := (true, "8f9433b5036375631c9ab0cdf5ea39c5567e458be3bde433d9faa5ee6884ce84"), looks := true }, kinds := [], alts := [], laidByText := true, laidKinds := [.data], laidTests := true, laidLooks := .later }
def FnExactDirtyPagesCardSaid : Prop := Claim7.holds Tryz.pinned (.plain (OpenSpec.ofChange fnExactDirtyPagesSpec)) fnExactDirtyPagesCard

/-- THE TIED CARD OF 'laws.FnExactFlushLog'. -/
def fnExactFlushLogCard : Claim7 := { stood := { row := fnExactFlushLogRow, standIns := [], harness := (true, "8f9433b5036375631c9ab0cdf5ea39c5567e458be3bde433d9faa5ee6884ce84"), looks := true }, kinds := [], alts := [], laidByText := true, laidKinds := [.data], laidTests := true, laidLooks := .later }
def FnExactFlushLogCardSaid : Prop := Claim7.holds Tryz.pinned (.plain (OpenSpec.ofChange fnExactFlushLogSpec)) fnExactFlushLogCard

/-- THE SECOND FORM's CARD OF 'laws.FnExactEngineOK'. -/
def fnExactEngineOKUptoCard : Claim7 := { stood := { row := fnExactEngineOKUptoRow, standIns := [], harness := (true, "8f9433b5036375631c9ab0cdf5ea39c5567e458be3bde433d9faa5ee6884ce84"), looks := true }, kinds := [], alts := [], laidByText := true, laidKinds := [.data, .data], laidTests := true, laidLooks := .later }
def FnExactEngineOKUptoCardSaid : Prop := Claim7.holds Tryz.pinned (.plain (OpenSpec.upto fnExactEngineOKSpec)) fnExactEngineOKUptoCard

/-- THE SECOND FORM's CARD OF 'laws.FnExactBeginTx'. -/
def fnExactBeginTxUptoCard : Claim7 := { stood := { row := fnExactBeginTxUptoRow, standIns := [], harness := (true, "8f9433b5036375631c9ab0cdf5ea39c5567e458be3bde433d9faa5ee6884ce84"), looks := true }, kinds := [], alts := [], laidByText := true, laidKinds := [.data, .data], laidTests := true, laidLooks := .later }
def FnExactBeginTxUptoCardSaid : Prop := Claim7.holds Tryz.pinned (.plain (OpenSpec.upto fnExactBeginTxSpec)) fnExactBeginTxUptoCard

/-- THE SECOND FORM's CARD OF 'laws.FnExactCommitTx'. -/
def fnExactCommitTxUptoCard : Claim7 := { stood := { row := fnExactCommitTxUptoRow, standIns := [], harness := (true, "8f9433b5036375631c9ab0cdf5ea39c5567e458be3bde433d9faa5ee6884ce84"), looks := true }, kinds := [], alts := [], laidByText := true, laidKinds := [.data, .data, .sentinel, .sentinel, .sentinel, .sentinel, .sentinel, .sentinel], laidTests := true, laidLooks := .later }
def FnExactCommitTxUptoCardSaid : Prop := Claim7.holds Tryz.pinned (.plain (OpenSpec.upto fnExactCommitTxSpec)) fnExactCommitTxUptoCard

/-- THE SECOND FORM's CARD OF 'laws.FnExactCrashEngine'. -/
def fnExactCrashEngineUptoCard : Claim7 := { stood := { row := fnExactCrashEngineUptoRow, standIns := [], harness := (true, "8f9433b5036375631c9ab0cdf5ea39c5567e458be3bde433d9faa5ee6884ce84"), looks := true }, kinds := [], alts := [], laidByText := true, laidKinds := [.data, .data], laidTests := true, laidLooks := .later }
def FnExactCrashEngineUptoCardSaid : Prop := Claim7.holds Tryz.pinned (.plain (OpenSpec.upto fnExactCrashEngineSpec)) fnExactCrashEngineUptoCard

/-- THE SECOND FORM's CARD OF 'laws.FnExactArmEngine'. -/
def fnExactArmEngineUptoCard : Claim7 := { stood := { row := fnExactArmEngineUptoRow, standIns := [], harness := (true, "8f9433b5036375631c9ab0cdf5ea39c5567e458be3bde433d9faa5ee6884ce84"), looks := true }, kinds := [], alts := [], laidByText := true, laidKinds := [.data, .data], laidTests := true, laidLooks := .later }
def FnExactArmEngineUptoCardSaid : Prop := Claim7.holds Tryz.pinned (.plain (OpenSpec.upto fnExactArmEngineSpec)) fnExactArmEngineUptoCard

/-- THE SECOND FORM's CARD OF 'laws.FnExactUndoNeeds'. -/
def fnExactUndoNeedsUptoCard : Claim7 := { stood := { row := fnExactUndoNeedsUptoRow, standIns := [], harness := (true, "8f9433b5036375631c9ab0cdf5ea39c5567e458be3bde433d9faa5ee6884ce84"), looks := true }, kinds := [], alts := [], laidByText := true, laidKinds := [.data, .data], laidTests := true, laidLooks := .later }
def FnExactUndoNeedsUptoCardSaid : Prop := Claim7.holds Tryz.pinned (.plain (OpenSpec.upto fnExactUndoNeedsSpec)) fnExactUndoNeedsUptoCard

/-- THE SECOND FORM's CARD OF 'laws.FnExactTakeCheck'. -/
def fnExactTakeCheckUptoCard : Claim7 := { stood := { row := fnExactTakeCheckUptoRow, standIns := [], harness := (true, "8f9433b5036375631c9ab0cdf5ea39c5567e458be3bde433d9faa5ee6884ce84"), looks := true }, kinds := [], alts := [], laidByText := true, laidKinds := [.data, .data, .sentinel, .sentinel, .sentinel, .sentinel, .sentinel, .sentinel], laidTests := true, laidLooks := .later }
def FnExactTakeCheckUptoCardSaid : Prop := Claim7.holds Tryz.pinned (.plain (OpenSpec.upto fnExactTakeCheckSpec)) fnExactTakeCheckUptoCard

/-- THE SECOND FORM's CARD OF 'laws.FnExactAppendLog'. -/
def fnExactAppendLogUptoCard : Claim7 := { stood := { row := fnExactAppendLogUptoRow, standIns := [], harness := (true, "8f9433b5036375631c9ab0cdf5ea39c5567e458be3bde433d9faa5ee6884ce84"), looks := true }, kinds := [], alts := [], laidByText := true, laidKinds := [.data], laidTests := true, laidLooks := .later }
def FnExactAppendLogUptoCardSaid : Prop := Claim7.holds Tryz.pinned (.plain (OpenSpec.upto fnExactAppendLogSpec)) fnExactAppendLogUptoCard

/-- THE SECOND FORM's CARD OF 'laws.FnExactDirtyPages'. -/
def fnExactDirtyPagesUptoCard : Claim7 := { stood := { row := fnExactDirtyPagesUptoRow, standIns := [], harness := (true, "8f9433b5036375631c9ab0cdf5ea39c5567e458be3bde433d9faa5ee6884ce84"), looks := true }, kinds := [], alts := [], laidByText := true, laidKinds := [.data], laidTests := true, laidLooks := .later }
def FnExactDirtyPagesUptoCardSaid : Prop := Claim7.holds Tryz.pinned (.plain (OpenSpec.upto fnExactDirtyPagesSpec)) fnExactDirtyPagesUptoCard

/-- THE SECOND FORM's CARD OF 'laws.FnExactFlushLog'. -/
def fnExactFlushLogUptoCard : Claim7 := { stood := { row := fnExactFlushLogUptoRow, standIns := [], harness := (true, "8f9433b5036375631c9ab0cdf5ea39c5567e458be3bde433d9faa5ee6884ce84"), looks := true }, kinds := [], alts := [], laidByText := true, laidKinds := [.data], laidTests := true, laidLooks := .later }
def FnExactFlushLogUptoCardSaid : Prop := Claim7.holds Tryz.pinned (.plain (OpenSpec.upto fnExactFlushLogSpec)) fnExactFlushLogUptoCard
end Rows
end Go.Proofs.YtkpopingbbaomaaGreatDoor
