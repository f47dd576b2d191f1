/-
  DERIVED. GIVEN WITH THE SEED: THE PROGRAM's TIES (one call each: nine closed facts by the kernel) AND EACH ROW's TIE, after the 31st guide's Derived/Test/Toyas{Tie, Card}.lean. No idea stands in it: it is a product of the set-up. Laid BY PROGRAM, IN A SANDBOX (cutbox-door.mjs). By AI agents, Wed Nov 11 2026. No macro, syntax, notation, axiom, sorry.
-/
import Derived.Test.YtkpopingbbaomaaGreatDoorRows
import Derived.LaidByTextLater
import Derived.SevenTiedAt
import Derived.LaidSub
import Derived.LaidOnce
namespace Go.Proofs.YtkpopingbbaomaaGreatDoor
open Go
set_option maxRecDepth 100000
theorem seatTie1 : Tryz.prog.laidByTextLater [("loop.example/g00332/impl.halfByteSums", Rows.laid_loop_example_g00332_impl_halfByteSums), ("loop.example/g00332/impl.fitting", Rows.laid_loop_example_g00332_impl_fitting), ("loop.example/g00332/impl.errNone", Rows.laid_loop_example_g00332_impl_errNone), ("loop.example/g00332/impl.errOver", Rows.laid_loop_example_g00332_impl_errOver), ("loop.example/g00332/impl.errFull", Rows.laid_loop_example_g00332_impl_errFull), ("loop.example/g00332/impl.errWait", Rows.laid_loop_example_g00332_impl_errWait), ("loop.example/g00332/impl.errDeadlock", Rows.laid_loop_example_g00332_impl_errDeadlock), ("loop.example/g00332/impl.errDown", Rows.laid_loop_example_g00332_impl_errDown)] [.data, .data, .sentinel, .sentinel, .sentinel, .sentinel, .sentinel, .sentinel] true :=
  Program.laidByTextLater_by_one 133 8 17 (by kernel_rfl) (by kernel_rfl) (by kernel_rfl) (by kernel_rfl) (by kernel_rfl) (by kernel_rfl) (fun _ _ => by kernel_rfl)
theorem noOwnUnsafe : Tryz.pinned.checked.prog.headLifts.contains "ownunsafe" = false := by kernel_rfl
theorem tie : Tryz.prog.laidByTextLater [("loop.example/g00332/impl.halfByteSums", Rows.laid_loop_example_g00332_impl_halfByteSums), ("loop.example/g00332/impl.fitting", Rows.laid_loop_example_g00332_impl_fitting)] [.data, .data] true :=
  Program.laidByTextLater.sub seatTie1 ["loop.example/g00332/impl.halfByteSums", "loop.example/g00332/impl.fitting"] (by kernel_rfl) (by kernel_rfl)
theorem fnExactEngineOK_row_tie : Rows.fnExactEngineOKRow.laidByTextAt .later Tryz.pinned [.data, .data] true :=
  OpenClaim.laidByTextAt_later rfl rfl tie noOwnUnsafe
theorem fnExactBeginTx_row_tie : Rows.fnExactBeginTxRow.laidByTextAt .later Tryz.pinned [.data, .data] true :=
  OpenClaim.laidByTextAt_later rfl rfl tie noOwnUnsafe
theorem fnExactCrashEngine_row_tie : Rows.fnExactCrashEngineRow.laidByTextAt .later Tryz.pinned [.data, .data] true :=
  OpenClaim.laidByTextAt_later rfl rfl tie noOwnUnsafe
theorem fnExactArmEngine_row_tie : Rows.fnExactArmEngineRow.laidByTextAt .later Tryz.pinned [.data, .data] true :=
  OpenClaim.laidByTextAt_later rfl rfl tie noOwnUnsafe
theorem fnExactUndoNeeds_row_tie : Rows.fnExactUndoNeedsRow.laidByTextAt .later Tryz.pinned [.data, .data] true :=
  OpenClaim.laidByTextAt_later rfl rfl tie noOwnUnsafe
theorem tie2 : Tryz.prog.laidByTextLater [("loop.example/g00332/impl.halfByteSums", Rows.laid_loop_example_g00332_impl_halfByteSums), ("loop.example/g00332/impl.fitting", Rows.laid_loop_example_g00332_impl_fitting), ("loop.example/g00332/impl.errNone", Rows.laid_loop_example_g00332_impl_errNone), ("loop.example/g00332/impl.errOver", Rows.laid_loop_example_g00332_impl_errOver), ("loop.example/g00332/impl.errFull", Rows.laid_loop_example_g00332_impl_errFull), ("loop.example/g00332/impl.errWait", Rows.laid_loop_example_g00332_impl_errWait), ("loop.example/g00332/impl.errDeadlock", Rows.laid_loop_example_g00332_impl_errDeadlock), ("loop.example/g00332/impl.errDown", Rows.laid_loop_example_g00332_impl_errDown)] [.data, .data, .sentinel, .sentinel, .sentinel, .sentinel, .sentinel, .sentinel] true :=
  Program.laidByTextLater.sub seatTie1 ["loop.example/g00332/impl.halfByteSums", "loop.example/g00332/impl.fitting", "loop.example/g00332/impl.errNone", "loop.example/g00332/impl.errOver", "loop.example/g00332/impl.errFull", "loop.example/g00332/impl.errWait", "loop.example/g00332/impl.errDeadlock", "loop.example/g00332/impl.errDown"] (by kernel_rfl) (by kernel_rfl)
theorem fnExactCommitTx_row_tie : Rows.fnExactCommitTxRow.laidByTextAt .later Tryz.pinned [.data, .data, .sentinel, .sentinel, .sentinel, .sentinel, .sentinel, .sentinel] true :=
  OpenClaim.laidByTextAt_later rfl rfl tie2 noOwnUnsafe
theorem fnExactTakeCheck_row_tie : Rows.fnExactTakeCheckRow.laidByTextAt .later Tryz.pinned [.data, .data, .sentinel, .sentinel, .sentinel, .sentinel, .sentinel, .sentinel] true :=
  OpenClaim.laidByTextAt_later rfl rfl tie2 noOwnUnsafe
theorem tie3 : Tryz.prog.laidByTextLater [("loop.example/g00332/impl.halfByteSums", Rows.laid_loop_example_g00332_impl_halfByteSums)] [.data] true :=
  Program.laidByTextLater.sub seatTie1 ["loop.example/g00332/impl.halfByteSums"] (by kernel_rfl) (by kernel_rfl)
theorem fnExactAppendLog_row_tie : Rows.fnExactAppendLogRow.laidByTextAt .later Tryz.pinned [.data] true :=
  OpenClaim.laidByTextAt_later rfl rfl tie3 noOwnUnsafe
theorem fnExactDirtyPages_row_tie : Rows.fnExactDirtyPagesRow.laidByTextAt .later Tryz.pinned [.data] true :=
  OpenClaim.laidByTextAt_later rfl rfl tie3 noOwnUnsafe
theorem fnExactFlushLog_row_tie : Rows.fnExactFlushLogRow.laidByTextAt .later Tryz.pinned [.data] true :=
  OpenClaim.laidByTextAt_later rfl rfl tie3 noOwnUnsafe
theorem fnExactEngineOKUpto_row_tie : Rows.fnExactEngineOKUptoRow.laidByTextAt .later Tryz.pinned [.data, .data] true :=
  OpenClaim.laidByTextAt_later rfl rfl tie noOwnUnsafe
theorem fnExactBeginTxUpto_row_tie : Rows.fnExactBeginTxUptoRow.laidByTextAt .later Tryz.pinned [.data, .data] true :=
  OpenClaim.laidByTextAt_later rfl rfl tie noOwnUnsafe
theorem fnExactCommitTxUpto_row_tie : Rows.fnExactCommitTxUptoRow.laidByTextAt .later Tryz.pinned [.data, .data, .sentinel, .sentinel, .sentinel, .sentinel, .sentinel, .sentinel] true :=
  OpenClaim.laidByTextAt_later rfl rfl tie2 noOwnUnsafe
theorem fnExactCrashEngineUpto_row_tie : Rows.fnExactCrashEngineUptoRow.laidByTextAt .later Tryz.pinned [.data, .data] true :=
  OpenClaim.laidByTextAt_later rfl rfl tie noOwnUnsafe
theorem fnExactArmEngineUpto_row_tie : Rows.fnExactArmEngineUptoRow.laidByTextAt .later Tryz.pinned [.data, .data] true :=
  OpenClaim.laidByTextAt_later rfl rfl tie noOwnUnsafe
theorem fnExactUndoNeedsUpto_row_tie : Rows.fnExactUndoNeedsUptoRow.laidByTextAt .later Tryz.pinned [.data, .data] true :=
  OpenClaim.laidByTextAt_later rfl rfl tie noOwnUnsafe
theorem fnExactTakeCheckUpto_row_tie : Rows.fnExactTakeCheckUptoRow.laidByTextAt .later Tryz.pinned [.data, .data, .sentinel, .sentinel, .sentinel, .sentinel, .sentinel, .sentinel] true :=
  OpenClaim.laidByTextAt_later rfl rfl tie2 noOwnUnsafe
theorem fnExactAppendLogUpto_row_tie : Rows.fnExactAppendLogUptoRow.laidByTextAt .later Tryz.pinned [.data] true :=
  OpenClaim.laidByTextAt_later rfl rfl tie3 noOwnUnsafe
theorem fnExactDirtyPagesUpto_row_tie : Rows.fnExactDirtyPagesUptoRow.laidByTextAt .later Tryz.pinned [.data] true :=
  OpenClaim.laidByTextAt_later rfl rfl tie3 noOwnUnsafe
theorem fnExactFlushLogUpto_row_tie : Rows.fnExactFlushLogUptoRow.laidByTextAt .later Tryz.pinned [.data] true :=
  OpenClaim.laidByTextAt_later rfl rfl tie3 noOwnUnsafe
end Go.Proofs.YtkpopingbbaomaaGreatDoor
