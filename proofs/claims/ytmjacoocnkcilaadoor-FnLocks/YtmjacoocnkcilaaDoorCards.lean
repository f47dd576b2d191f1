/-
  DERIVED. GIVEN WITH THE SEED: THE CARDS: each row of YtmjacoocnkcilaaDoorRows.lean that lists a variable, with what it lists TIED to the program's text (the seventh form; the later family's looks); each row that meets fmt, with fmt's text TOLD by the authors' own Lean function (tested against real Go, not proved from fmt's source: count such statements apart). THE CARD IS WHAT COUNTS. Prove the row's statement (the work); the ties are given (YtmjacoocnkcilaaDoorTie.lean); close each card by the builder's one call (the guide's Derived/Test/ToyasCard.lean, 'card_holds'). Laid BY PROGRAM, IN A SANDBOX (cutbox-door.mjs). By AI agents, Wed Nov 11 2026. No macro, syntax, notation, axiom, sorry.
-/
import Derived.Test.YtmjacoocnkcilaaDoorRows
import GoSem.ClaimSeven
namespace Go.Proofs.YtmjacoocnkcilaaDoor
namespace Rows

/-- THE TIED CARD OF 'laws.FnExactModesFit'. -/
def fnExactModesFitCard : Claim7 := { stood := { row := fnExactModesFitRow, standIns := [], harness := (true, "1828507a13d6d8ef29423757764128facdb88c28d5a25e1151c974eac1a2d533"), looks := false }, kinds := [], alts := [], laidByText := true, laidKinds := [.data], laidTests := true, laidLooks := .later }
def FnExactModesFitCardSaid : Prop := Claim7.holds Tryd.pinned (.plain (OpenSpec.ofChange fnExactModesFitSpec)) fnExactModesFitCard

/-- THE TIED CARD OF 'laws.FnExactLocksOK'. -/
def fnExactLocksOKCard : Claim7 := { stood := { row := fnExactLocksOKRow, standIns := [], harness := (true, "1828507a13d6d8ef29423757764128facdb88c28d5a25e1151c974eac1a2d533"), looks := false }, kinds := [], alts := [], laidByText := true, laidKinds := [.data], laidTests := true, laidLooks := .later }
def FnExactLocksOKCardSaid : Prop := Claim7.holds Tryd.pinned (.plain (OpenSpec.ofChange fnExactLocksOKSpec)) fnExactLocksOKCard

/-- THE TIED CARD OF 'laws.FnExactHoldsLock'. -/
def fnExactHoldsLockCard : Claim7 := { stood := { row := fnExactHoldsLockRow, standIns := [], harness := (true, "1828507a13d6d8ef29423757764128facdb88c28d5a25e1151c974eac1a2d533"), looks := false }, kinds := [], alts := [], laidByText := true, laidKinds := [.data], laidTests := true, laidLooks := .later }
def FnExactHoldsLockCardSaid : Prop := Claim7.holds Tryd.pinned (.plain (OpenSpec.ofChange fnExactHoldsLockSpec)) fnExactHoldsLockCard

/-- THE TIED CARD OF 'laws.FnExactLocksOfTx'. -/
def fnExactLocksOfTxCard : Claim7 := { stood := { row := fnExactLocksOfTxRow, standIns := [], harness := (true, "1828507a13d6d8ef29423757764128facdb88c28d5a25e1151c974eac1a2d533"), looks := false }, kinds := [], alts := [], laidByText := true, laidKinds := [.data], laidTests := true, laidLooks := .later }
def FnExactLocksOfTxCardSaid : Prop := Claim7.holds Tryd.pinned (.plain (OpenSpec.ofChange fnExactLocksOfTxSpec)) fnExactLocksOfTxCard

/-- THE TIED CARD OF 'laws.FnExactFreeLocks'. -/
def fnExactFreeLocksCard : Claim7 := { stood := { row := fnExactFreeLocksRow, standIns := [], harness := (true, "1828507a13d6d8ef29423757764128facdb88c28d5a25e1151c974eac1a2d533"), looks := false }, kinds := [], alts := [], laidByText := true, laidKinds := [.data], laidTests := true, laidLooks := .later }
def FnExactFreeLocksCardSaid : Prop := Claim7.holds Tryd.pinned (.plain (OpenSpec.ofChange fnExactFreeLocksSpec)) fnExactFreeLocksCard

/-- THE TIED CARD OF 'laws.FnExactWaitsRound'. -/
def fnExactWaitsRoundCard : Claim7 := { stood := { row := fnExactWaitsRoundRow, standIns := [], harness := (true, "1828507a13d6d8ef29423757764128facdb88c28d5a25e1151c974eac1a2d533"), looks := false }, kinds := [], alts := [], laidByText := true, laidKinds := [.data, .data], laidTests := true, laidLooks := .later }
def FnExactWaitsRoundCardSaid : Prop := Claim7.holds Tryd.pinned (.plain (OpenSpec.ofChange fnExactWaitsRoundSpec)) fnExactWaitsRoundCard

/-- THE TIED CARD OF 'laws.FnExactTakeLock'. -/
def fnExactTakeLockCard : Claim7 := { stood := { row := fnExactTakeLockRow, standIns := [], harness := (true, "1828507a13d6d8ef29423757764128facdb88c28d5a25e1151c974eac1a2d533"), looks := false }, kinds := [], alts := [], laidByText := true, laidKinds := [.data, .data], laidTests := true, laidLooks := .later }
def FnExactTakeLockCardSaid : Prop := Claim7.holds Tryd.pinned (.plain (OpenSpec.ofChange fnExactTakeLockSpec)) fnExactTakeLockCard

/-- THE TIED CARD OF 'laws.FnLocks'. -/
def fnLocksCard : Claim7 := { stood := { row := fnLocksRow, standIns := [], harness := (true, "1828507a13d6d8ef29423757764128facdb88c28d5a25e1151c974eac1a2d533"), looks := false }, kinds := [], alts := [], laidByText := true, laidKinds := [.data, .data], laidTests := true, laidLooks := .later }
def FnLocksCardSaid : Prop := Claim7.holds Tryd.pinned (.plain (OpenSpec.ofChange fnLocksSpec)) fnLocksCard

/-- THE TIED CARD OF 'laws.FnFree'. -/
def fnFreeCard : Claim7 := { stood := { row := fnFreeRow, standIns := [], harness := (true, "1828507a13d6d8ef29423757764128facdb88c28d5a25e1151c974eac1a2d533"), looks := false }, kinds := [], alts := [], laidByText := true, laidKinds := [.data], laidTests := true, laidLooks := .later }
def FnFreeCardSaid : Prop := Claim7.holds Tryd.pinned (.plain (OpenSpec.ofChange fnFreeSpec)) fnFreeCard

/-- THE TIED CARD OF 'laws.FnDeadlock'. -/
def fnDeadlockCard : Claim7 := { stood := { row := fnDeadlockRow, standIns := [], harness := (true, "1828507a13d6d8ef29423757764128facdb88c28d5a25e1151c974eac1a2d533"), looks := false }, kinds := [], alts := [], laidByText := true, laidKinds := [.data, .data], laidTests := true, laidLooks := .later }
def FnDeadlockCardSaid : Prop := Claim7.holds Tryd.pinned (.plain (OpenSpec.ofChange fnDeadlockSpec)) fnDeadlockCard

/-- THE SECOND FORM's CARD OF 'laws.FnExactModesFit'. -/
def fnExactModesFitUptoCard : Claim7 := { stood := { row := fnExactModesFitUptoRow, standIns := [], harness := (true, "1828507a13d6d8ef29423757764128facdb88c28d5a25e1151c974eac1a2d533"), looks := false }, kinds := [], alts := [], laidByText := true, laidKinds := [.data], laidTests := true, laidLooks := .later }
def FnExactModesFitUptoCardSaid : Prop := Claim7.holds Tryd.pinned (.plain (OpenSpec.upto fnExactModesFitSpec)) fnExactModesFitUptoCard

/-- THE SECOND FORM's CARD OF 'laws.FnExactLocksOK'. -/
def fnExactLocksOKUptoCard : Claim7 := { stood := { row := fnExactLocksOKUptoRow, standIns := [], harness := (true, "1828507a13d6d8ef29423757764128facdb88c28d5a25e1151c974eac1a2d533"), looks := false }, kinds := [], alts := [], laidByText := true, laidKinds := [.data], laidTests := true, laidLooks := .later }
def FnExactLocksOKUptoCardSaid : Prop := Claim7.holds Tryd.pinned (.plain (OpenSpec.upto fnExactLocksOKSpec)) fnExactLocksOKUptoCard

/-- THE SECOND FORM's CARD OF 'laws.FnExactHoldsLock'. -/
def fnExactHoldsLockUptoCard : Claim7 := { stood := { row := fnExactHoldsLockUptoRow, standIns := [], harness := (true, "1828507a13d6d8ef29423757764128facdb88c28d5a25e1151c974eac1a2d533"), looks := false }, kinds := [], alts := [], laidByText := true, laidKinds := [.data], laidTests := true, laidLooks := .later }
def FnExactHoldsLockUptoCardSaid : Prop := Claim7.holds Tryd.pinned (.plain (OpenSpec.upto fnExactHoldsLockSpec)) fnExactHoldsLockUptoCard

/-- THE SECOND FORM's CARD OF 'laws.FnExactLocksOfTx'. -/
def fnExactLocksOfTxUptoCard : Claim7 := { stood := { row := fnExactLocksOfTxUptoRow, standIns := [], harness := (true, "1828507a13d6d8ef29423757764128facdb88c28d5a25e1151c974eac1a2d533"), looks := false }, kinds := [], alts := [], laidByText := true, laidKinds := [.data], laidTests := true, laidLooks := .later }
def FnExactLocksOfTxUptoCardSaid : Prop := Claim7.holds Tryd.pinned (.plain (OpenSpec.upto fnExactLocksOfTxSpec)) fnExactLocksOfTxUptoCard

/-- THE SECOND FORM's CARD OF 'laws.FnExactFreeLocks'. -/
def fnExactFreeLocksUptoCard : Claim7 := { stood := { row := fnExactFreeLocksUptoRow, standIns := [], harness := (true, "1828507a13d6d8ef29423757764128facdb88c28d5a25e1151c974eac1a2d533"), looks := false }, kinds := [], alts := [], laidByText := true, laidKinds := [.data], laidTests := true, laidLooks := .later }
def FnExactFreeLocksUptoCardSaid : Prop := Claim7.holds Tryd.pinned (.plain (OpenSpec.upto fnExactFreeLocksSpec)) fnExactFreeLocksUptoCard

/-- THE SECOND FORM's CARD OF 'laws.FnExactWaitsRound'. -/
def fnExactWaitsRoundUptoCard : Claim7 := { stood := { row := fnExactWaitsRoundUptoRow, standIns := [], harness := (true, "1828507a13d6d8ef29423757764128facdb88c28d5a25e1151c974eac1a2d533"), looks := false }, kinds := [], alts := [], laidByText := true, laidKinds := [.data, .data], laidTests := true, laidLooks := .later }
def FnExactWaitsRoundUptoCardSaid : Prop := Claim7.holds Tryd.pinned (.plain (OpenSpec.upto fnExactWaitsRoundSpec)) fnExactWaitsRoundUptoCard

/-- THE SECOND FORM's CARD OF 'laws.FnExactTakeLock'. -/
def fnExactTakeLockUptoCard : Claim7 := { stood := { row := fnExactTakeLockUptoRow, standIns := [], harness := (true, "1828507a13d6d8ef29423757764128facdb88c28d5a25e1151c974eac1a2d533"), looks := false }, kinds := [], alts := [], laidByText := true, laidKinds := [.data, .data], laidTests := true, laidLooks := .later }
def FnExactTakeLockUptoCardSaid : Prop := Claim7.holds Tryd.pinned (.plain (OpenSpec.upto fnExactTakeLockSpec)) fnExactTakeLockUptoCard

/-- THE SECOND FORM's CARD OF 'laws.FnLocks'. -/
def fnLocksUptoCard : Claim7 := { stood := { row := fnLocksUptoRow, standIns := [], harness := (true, "1828507a13d6d8ef29423757764128facdb88c28d5a25e1151c974eac1a2d533"), looks := false }, kinds := [], alts := [], laidByText := true, laidKinds := [.data, .data], laidTests := true, laidLooks := .later }
def FnLocksUptoCardSaid : Prop := Claim7.holds Tryd.pinned (.plain (OpenSpec.upto fnLocksSpec)) fnLocksUptoCard

/-- THE SECOND FORM's CARD OF 'laws.FnFree'. -/
def fnFreeUptoCard : Claim7 := { stood := { row := fnFreeUptoRow, standIns := [], harness := (true, "1828507a13d6d8ef29423757764128facdb88c28d5a25e1151c974eac1a2d533"), looks := false }, kinds := [], alts := [], laidByText := true, laidKinds := [.data], laidTests := true, laidLooks := .later }
def FnFreeUptoCardSaid : Prop := Claim7.holds Tryd.pinned (.plain (OpenSpec.upto fnFreeSpec)) fnFreeUptoCard

/-- THE SECOND FORM's CARD OF 'laws.FnDeadlock'. -/
def fnDeadlockUptoCard : Claim7 := { stood := { row := fnDeadlockUptoRow, standIns := [], harness := (true, "1828507a13d6d8ef29423757764128facdb88c28d5a25e1151c974eac1a2d533"), looks := false }, kinds := [], alts := [], laidByText := true, laidKinds := [.data, .data], laidTests := true, laidLooks := .later }
def FnDeadlockUptoCardSaid : Prop := Claim7.holds Tryd.pinned (.plain (OpenSpec.upto fnDeadlockSpec)) fnDeadlockUptoCard
end Rows
end Go.Proofs.YtmjacoocnkcilaaDoor
