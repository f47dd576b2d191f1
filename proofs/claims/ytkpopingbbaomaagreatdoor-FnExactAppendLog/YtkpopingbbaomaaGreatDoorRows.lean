/-
  NARROWER THAN 'FOR EVERY INPUT', by the rows' own cells (each row's printed sentence says how): FnExactEngineOK: laid · FnExactBeginTx: laid · FnExactCommitTx: ifaces, laid · FnExactCrashEngine: laid · FnExactArmEngine: laid · FnExactUndoNeeds: laid · FnExactTakeCheck: ifaces, laid · FnExactAppendLog: laid · FnExactDirtyPages: laid · FnExactFlushLog: laid.
  DERIVED. THE GIVEN ROWS OF THIS SEAT. 10 by the template 'for every input the law returns true; each argument reads behind the call as it read before'; 0 by the template 'total and deterministic' (their statements: YtkpopingbbaomaaGreatDoorTotals.lean).
  GIVEN WITH THE SEED: the statements are not yours to turn. If you find one false, say at which input.
  Laid BY PROGRAM, IN A SANDBOX (cutbox-rows.mjs): the forced cells as the released guide's own fill.sh prints them over the translation 13e7b3022d2781a7… (all of the seat's roots in one cut). By AI agents, Wed Nov 11 2026. No macro, syntax, notation, axiom, sorry.
-/
import Derived.Test.YtkpopingbbaomaaGreatDoorChecked
import GoSem.Claim
import GoSem.ClaimJoined
import GoSem.ClaimMapViews
import Derived.JoinedTies
import Derived.KernelRfl
namespace Go.Proofs.YtkpopingbbaomaaGreatDoor
/- THE CELL 'sum', in the pinned program and in every row, IS THE sha256 OF THE DUMP (.gsa) THAT YtkpopingbbaomaaGreatDoorProg.lean LOADS. Nothing in Lean hashes anything: it is a label: what it is worth is what the hold of that sum in a sandbox is worth. -/
noncomputable def Tryz.pinned : Pinned := { name := "ytkpopingbbaomaagreatdoor", sum := "13e7b3022d2781a7119bf798d3d16899e35fd31302dc31085ba903214085b3ce", checked := Tryz.checked }
namespace Rows
def none {H : Type} : Left H := { results := [], args := [] }

/- WHAT THE LISTED PACKAGE-LEVEL VARIABLES READ AS WHEN THE CALL BEGINS. Each datum BY PROGRAM (the guide's laid-datum.mjs) off the statement by which the dump's own 'gosem.cut.vars' lays the variable. In a bare row this is a premise. The card (YtkpopingbbaomaaGreatDoorCards.lean) ties it to the program's text. -/
def laid_loop_example_g00332_impl_halfByteSums {H : Type} : DataW H := .agg [.lit (.int .u32 0), .lit (.int .u32 498536548), .lit (.int .u32 997073096), .lit (.int .u32 651767980), .lit (.int .u32 1994146192), .lit (.int .u32 1802195444), .lit (.int .u32 1303535960), .lit (.int .u32 1342533948), .lit (.int .u32 3988292384), .lit (.int .u32 4027552580), .lit (.int .u32 3604390888), .lit (.int .u32 3412177804), .lit (.int .u32 2607071920), .lit (.int .u32 2262029012), .lit (.int .u32 2685067896), .lit (.int .u32 3183342108)]
def laid_loop_example_g00332_impl_fitting {H : Type} : DataW H := .agg [.lit (.int .u8 0), .lit (.int .u8 14), .lit (.int .u8 6), .lit (.int .u8 10), .lit (.int .u8 0)]
def laid_loop_example_g00332_impl_errNone {H : Type} : DataW H := .iface "*errors.errorString" (.ptr (.agg [.lit (.string [116, 104, 101, 114, 101, 32, 105, 115, 32, 110, 111, 32, 115, 117, 99, 104, 32, 114, 111, 119])]))
def laid_loop_example_g00332_impl_errOver {H : Type} : DataW H := .iface "*errors.errorString" (.ptr (.agg [.lit (.string [110, 111, 32, 115, 108, 111, 116, 32, 105, 115, 32, 102, 114, 101, 101])]))
def laid_loop_example_g00332_impl_errFull {H : Type} : DataW H := .iface "*errors.errorString" (.ptr (.agg [.lit (.string [116, 104, 101, 114, 101, 32, 105, 115, 32, 110, 111, 32, 114, 111, 111, 109])]))
def laid_loop_example_g00332_impl_errWait {H : Type} : DataW H := .iface "*errors.errorString" (.ptr (.agg [.lit (.string [97, 110, 111, 116, 104, 101, 114, 32, 111, 110, 101, 32, 104, 111, 108, 100, 115, 32, 105, 116])]))
def laid_loop_example_g00332_impl_errDeadlock {H : Type} : DataW H := .iface "*errors.errorString" (.ptr (.agg [.lit (.string [105, 116, 32, 119, 111, 117, 108, 100, 32, 119, 97, 105, 116, 32, 102, 111, 114, 32, 105, 116, 115, 101, 108, 102])]))
def laid_loop_example_g00332_impl_errDown {H : Type} : DataW H := .iface "*errors.errorString" (.ptr (.agg [.lit (.string [116, 104, 101, 32, 112, 111, 119, 101, 114, 32, 105, 115, 32, 103, 111, 110, 101])]))

/-- 'laws.FnExactEngineOK': WHATEVER THE INPUT: true; the input reads as it did. -/
def fnExactEngineOKSpec : ChangeSpec := { name := "fnExactEngineOK", vars := ["loop.example/g00332/impl.halfByteSums", "loop.example/g00332/impl.fitting"], fn := fun _ => fun
  | [d, g1, g2] => { results := [.lit (.bool true)], args := [d], vars := [g1, g2] }
  | _ => none }
def fnExactEngineOKRow : OpenClaim := { program := "ytkpopingbbaomaagreatdoor", sum := "13e7b3022d2781a7119bf798d3d16899e35fd31302dc31085ba903214085b3ce", func := "loop.example/g00332/laws.FnExactEngineOK", spec := "fnExactEngineOK", unfollowed := true, recurses := true, named := ["loop.example/g00332/impl.halfByteSums", "loop.example/g00332/impl.fitting"], apart := false, laid := [("loop.example/g00332/impl.halfByteSums", laid_loop_example_g00332_impl_halfByteSums), ("loop.example/g00332/impl.fitting", laid_loop_example_g00332_impl_fitting)] }
def FnExactEngineOKSaid : Prop := fnExactEngineOKRow.holds Tryz.pinned (OpenSpec.ofChange fnExactEngineOKSpec)

/-- ITS FALSE NEIGHBOUR: 'it returns false'. Refute it at one input. -/
def fnExactEngineOKWrong : ChangeSpec := { name := "fnExactEngineOK", vars := ["loop.example/g00332/impl.halfByteSums", "loop.example/g00332/impl.fitting"], fn := fun _ => fun
  | [d, g1, g2] => { results := [.lit (.bool false)], args := [d], vars := [g1, g2] }
  | _ => none }
def FnExactEngineOKWrongFalsely : Prop := fnExactEngineOKRow.holds Tryz.pinned (OpenSpec.ofChange fnExactEngineOKWrong)

/-- 'laws.FnExactBeginTx': WHATEVER THE INPUT: true; the input reads as it did. -/
def fnExactBeginTxSpec : ChangeSpec := { name := "fnExactBeginTx", vars := ["loop.example/g00332/impl.halfByteSums", "loop.example/g00332/impl.fitting"], fn := fun _ => fun
  | [d, g1, g2] => { results := [.lit (.bool true)], args := [d], vars := [g1, g2] }
  | _ => none }
def fnExactBeginTxRow : OpenClaim := { program := "ytkpopingbbaomaagreatdoor", sum := "13e7b3022d2781a7119bf798d3d16899e35fd31302dc31085ba903214085b3ce", func := "loop.example/g00332/laws.FnExactBeginTx", spec := "fnExactBeginTx", unfollowed := true, recurses := true, named := ["loop.example/g00332/impl.halfByteSums", "loop.example/g00332/impl.fitting"], apart := false, laid := [("loop.example/g00332/impl.halfByteSums", laid_loop_example_g00332_impl_halfByteSums), ("loop.example/g00332/impl.fitting", laid_loop_example_g00332_impl_fitting)] }
def FnExactBeginTxSaid : Prop := fnExactBeginTxRow.holds Tryz.pinned (OpenSpec.ofChange fnExactBeginTxSpec)

/-- ITS FALSE NEIGHBOUR: 'it returns false'. Refute it at one input. -/
def fnExactBeginTxWrong : ChangeSpec := { name := "fnExactBeginTx", vars := ["loop.example/g00332/impl.halfByteSums", "loop.example/g00332/impl.fitting"], fn := fun _ => fun
  | [d, g1, g2] => { results := [.lit (.bool false)], args := [d], vars := [g1, g2] }
  | _ => none }
def FnExactBeginTxWrongFalsely : Prop := fnExactBeginTxRow.holds Tryz.pinned (OpenSpec.ofChange fnExactBeginTxWrong)

/-- 'laws.FnExactCommitTx': WHATEVER THE INPUT: true; the input reads as it did. -/
def fnExactCommitTxSpec : ChangeSpec := { name := "fnExactCommitTx", vars := ["loop.example/g00332/impl.halfByteSums", "loop.example/g00332/impl.fitting", "loop.example/g00332/impl.errWait", "loop.example/g00332/impl.errDeadlock", "loop.example/g00332/impl.errDown", "loop.example/g00332/impl.errFull", "loop.example/g00332/impl.errNone", "loop.example/g00332/impl.errOver"], fn := fun _ => fun
  | [d1, d2, g1, g2, g3, g4, g5, g6, g7, g8] => { results := [.lit (.bool true)], args := [d1, d2], vars := [g1, g2, g3, g4, g5, g6, g7, g8] }
  | _ => none }
def fnExactCommitTxRow : OpenClaim := { program := "ytkpopingbbaomaagreatdoor", sum := "13e7b3022d2781a7119bf798d3d16899e35fd31302dc31085ba903214085b3ce", func := "loop.example/g00332/laws.FnExactCommitTx", spec := "fnExactCommitTx", inPlace := ["internal/reflectlite.TypeOf"], unfollowed := true, recurses := true, named := ["loop.example/g00332/impl.halfByteSums", "loop.example/g00332/impl.fitting", "loop.example/g00332/impl.errWait", "loop.example/g00332/impl.errDeadlock", "loop.example/g00332/impl.errDown", "loop.example/g00332/impl.errFull", "loop.example/g00332/impl.errNone", "loop.example/g00332/impl.errOver"], ifaces := true, apart := false, laid := [("loop.example/g00332/impl.halfByteSums", laid_loop_example_g00332_impl_halfByteSums), ("loop.example/g00332/impl.fitting", laid_loop_example_g00332_impl_fitting), ("loop.example/g00332/impl.errNone", laid_loop_example_g00332_impl_errNone), ("loop.example/g00332/impl.errOver", laid_loop_example_g00332_impl_errOver), ("loop.example/g00332/impl.errFull", laid_loop_example_g00332_impl_errFull), ("loop.example/g00332/impl.errWait", laid_loop_example_g00332_impl_errWait), ("loop.example/g00332/impl.errDeadlock", laid_loop_example_g00332_impl_errDeadlock), ("loop.example/g00332/impl.errDown", laid_loop_example_g00332_impl_errDown)] }
def FnExactCommitTxSaid : Prop := fnExactCommitTxRow.holds Tryz.pinned (OpenSpec.ofChange fnExactCommitTxSpec)

/-- ITS FALSE NEIGHBOUR: 'it returns false'. Refute it at one input. -/
def fnExactCommitTxWrong : ChangeSpec := { name := "fnExactCommitTx", vars := ["loop.example/g00332/impl.halfByteSums", "loop.example/g00332/impl.fitting", "loop.example/g00332/impl.errWait", "loop.example/g00332/impl.errDeadlock", "loop.example/g00332/impl.errDown", "loop.example/g00332/impl.errFull", "loop.example/g00332/impl.errNone", "loop.example/g00332/impl.errOver"], fn := fun _ => fun
  | [d1, d2, g1, g2, g3, g4, g5, g6, g7, g8] => { results := [.lit (.bool false)], args := [d1, d2], vars := [g1, g2, g3, g4, g5, g6, g7, g8] }
  | _ => none }
def FnExactCommitTxWrongFalsely : Prop := fnExactCommitTxRow.holds Tryz.pinned (OpenSpec.ofChange fnExactCommitTxWrong)

/-- 'laws.FnExactCrashEngine': WHATEVER THE INPUT: true; the input reads as it did. -/
def fnExactCrashEngineSpec : ChangeSpec := { name := "fnExactCrashEngine", vars := ["loop.example/g00332/impl.halfByteSums", "loop.example/g00332/impl.fitting"], fn := fun _ => fun
  | [d1, d2, g1, g2] => { results := [.lit (.bool true)], args := [d1, d2], vars := [g1, g2] }
  | _ => none }
def fnExactCrashEngineRow : OpenClaim := { program := "ytkpopingbbaomaagreatdoor", sum := "13e7b3022d2781a7119bf798d3d16899e35fd31302dc31085ba903214085b3ce", func := "loop.example/g00332/laws.FnExactCrashEngine", spec := "fnExactCrashEngine", unfollowed := true, recurses := true, named := ["loop.example/g00332/impl.halfByteSums", "loop.example/g00332/impl.fitting"], apart := false, laid := [("loop.example/g00332/impl.halfByteSums", laid_loop_example_g00332_impl_halfByteSums), ("loop.example/g00332/impl.fitting", laid_loop_example_g00332_impl_fitting)] }
def FnExactCrashEngineSaid : Prop := fnExactCrashEngineRow.holds Tryz.pinned (OpenSpec.ofChange fnExactCrashEngineSpec)

/-- ITS FALSE NEIGHBOUR: 'it returns false'. Refute it at one input. -/
def fnExactCrashEngineWrong : ChangeSpec := { name := "fnExactCrashEngine", vars := ["loop.example/g00332/impl.halfByteSums", "loop.example/g00332/impl.fitting"], fn := fun _ => fun
  | [d1, d2, g1, g2] => { results := [.lit (.bool false)], args := [d1, d2], vars := [g1, g2] }
  | _ => none }
def FnExactCrashEngineWrongFalsely : Prop := fnExactCrashEngineRow.holds Tryz.pinned (OpenSpec.ofChange fnExactCrashEngineWrong)

/-- 'laws.FnExactArmEngine': WHATEVER THE INPUT: true; the input reads as it did. -/
def fnExactArmEngineSpec : ChangeSpec := { name := "fnExactArmEngine", vars := ["loop.example/g00332/impl.halfByteSums", "loop.example/g00332/impl.fitting"], fn := fun _ => fun
  | [d1, d2, g1, g2] => { results := [.lit (.bool true)], args := [d1, d2], vars := [g1, g2] }
  | _ => none }
def fnExactArmEngineRow : OpenClaim := { program := "ytkpopingbbaomaagreatdoor", sum := "13e7b3022d2781a7119bf798d3d16899e35fd31302dc31085ba903214085b3ce", func := "loop.example/g00332/laws.FnExactArmEngine", spec := "fnExactArmEngine", unfollowed := true, recurses := true, named := ["loop.example/g00332/impl.halfByteSums", "loop.example/g00332/impl.fitting"], apart := false, laid := [("loop.example/g00332/impl.halfByteSums", laid_loop_example_g00332_impl_halfByteSums), ("loop.example/g00332/impl.fitting", laid_loop_example_g00332_impl_fitting)] }
def FnExactArmEngineSaid : Prop := fnExactArmEngineRow.holds Tryz.pinned (OpenSpec.ofChange fnExactArmEngineSpec)

/-- ITS FALSE NEIGHBOUR: 'it returns false'. Refute it at one input. -/
def fnExactArmEngineWrong : ChangeSpec := { name := "fnExactArmEngine", vars := ["loop.example/g00332/impl.halfByteSums", "loop.example/g00332/impl.fitting"], fn := fun _ => fun
  | [d1, d2, g1, g2] => { results := [.lit (.bool false)], args := [d1, d2], vars := [g1, g2] }
  | _ => none }
def FnExactArmEngineWrongFalsely : Prop := fnExactArmEngineRow.holds Tryz.pinned (OpenSpec.ofChange fnExactArmEngineWrong)

/-- 'laws.FnExactUndoNeeds': WHATEVER THE INPUT: true; the input reads as it did. -/
def fnExactUndoNeedsSpec : ChangeSpec := { name := "fnExactUndoNeeds", vars := ["loop.example/g00332/impl.halfByteSums", "loop.example/g00332/impl.fitting"], fn := fun _ => fun
  | [d, g1, g2] => { results := [.lit (.bool true)], args := [d], vars := [g1, g2] }
  | _ => none }
def fnExactUndoNeedsRow : OpenClaim := { program := "ytkpopingbbaomaagreatdoor", sum := "13e7b3022d2781a7119bf798d3d16899e35fd31302dc31085ba903214085b3ce", func := "loop.example/g00332/laws.FnExactUndoNeeds", spec := "fnExactUndoNeeds", unfollowed := true, recurses := true, named := ["loop.example/g00332/impl.halfByteSums", "loop.example/g00332/impl.fitting"], apart := false, laid := [("loop.example/g00332/impl.halfByteSums", laid_loop_example_g00332_impl_halfByteSums), ("loop.example/g00332/impl.fitting", laid_loop_example_g00332_impl_fitting)] }
def FnExactUndoNeedsSaid : Prop := fnExactUndoNeedsRow.holds Tryz.pinned (OpenSpec.ofChange fnExactUndoNeedsSpec)

/-- ITS FALSE NEIGHBOUR: 'it returns false'. Refute it at one input. -/
def fnExactUndoNeedsWrong : ChangeSpec := { name := "fnExactUndoNeeds", vars := ["loop.example/g00332/impl.halfByteSums", "loop.example/g00332/impl.fitting"], fn := fun _ => fun
  | [d, g1, g2] => { results := [.lit (.bool false)], args := [d], vars := [g1, g2] }
  | _ => none }
def FnExactUndoNeedsWrongFalsely : Prop := fnExactUndoNeedsRow.holds Tryz.pinned (OpenSpec.ofChange fnExactUndoNeedsWrong)

/-- 'laws.FnExactTakeCheck': WHATEVER THE INPUT: true; the input reads as it did. -/
def fnExactTakeCheckSpec : ChangeSpec := { name := "fnExactTakeCheck", vars := ["loop.example/g00332/impl.halfByteSums", "loop.example/g00332/impl.fitting", "loop.example/g00332/impl.errWait", "loop.example/g00332/impl.errDeadlock", "loop.example/g00332/impl.errDown", "loop.example/g00332/impl.errFull", "loop.example/g00332/impl.errNone", "loop.example/g00332/impl.errOver"], fn := fun _ => fun
  | [d, g1, g2, g3, g4, g5, g6, g7, g8] => { results := [.lit (.bool true)], args := [d], vars := [g1, g2, g3, g4, g5, g6, g7, g8] }
  | _ => none }
def fnExactTakeCheckRow : OpenClaim := { program := "ytkpopingbbaomaagreatdoor", sum := "13e7b3022d2781a7119bf798d3d16899e35fd31302dc31085ba903214085b3ce", func := "loop.example/g00332/laws.FnExactTakeCheck", spec := "fnExactTakeCheck", inPlace := ["internal/reflectlite.TypeOf"], unfollowed := true, recurses := true, named := ["loop.example/g00332/impl.halfByteSums", "loop.example/g00332/impl.fitting", "loop.example/g00332/impl.errWait", "loop.example/g00332/impl.errDeadlock", "loop.example/g00332/impl.errDown", "loop.example/g00332/impl.errFull", "loop.example/g00332/impl.errNone", "loop.example/g00332/impl.errOver"], ifaces := true, apart := false, laid := [("loop.example/g00332/impl.halfByteSums", laid_loop_example_g00332_impl_halfByteSums), ("loop.example/g00332/impl.fitting", laid_loop_example_g00332_impl_fitting), ("loop.example/g00332/impl.errNone", laid_loop_example_g00332_impl_errNone), ("loop.example/g00332/impl.errOver", laid_loop_example_g00332_impl_errOver), ("loop.example/g00332/impl.errFull", laid_loop_example_g00332_impl_errFull), ("loop.example/g00332/impl.errWait", laid_loop_example_g00332_impl_errWait), ("loop.example/g00332/impl.errDeadlock", laid_loop_example_g00332_impl_errDeadlock), ("loop.example/g00332/impl.errDown", laid_loop_example_g00332_impl_errDown)] }
def FnExactTakeCheckSaid : Prop := fnExactTakeCheckRow.holds Tryz.pinned (OpenSpec.ofChange fnExactTakeCheckSpec)

/-- ITS FALSE NEIGHBOUR: 'it returns false'. Refute it at one input. -/
def fnExactTakeCheckWrong : ChangeSpec := { name := "fnExactTakeCheck", vars := ["loop.example/g00332/impl.halfByteSums", "loop.example/g00332/impl.fitting", "loop.example/g00332/impl.errWait", "loop.example/g00332/impl.errDeadlock", "loop.example/g00332/impl.errDown", "loop.example/g00332/impl.errFull", "loop.example/g00332/impl.errNone", "loop.example/g00332/impl.errOver"], fn := fun _ => fun
  | [d, g1, g2, g3, g4, g5, g6, g7, g8] => { results := [.lit (.bool false)], args := [d], vars := [g1, g2, g3, g4, g5, g6, g7, g8] }
  | _ => none }
def FnExactTakeCheckWrongFalsely : Prop := fnExactTakeCheckRow.holds Tryz.pinned (OpenSpec.ofChange fnExactTakeCheckWrong)

/-- 'laws.FnExactAppendLog': WHATEVER THE INPUT: true; the input reads as it did. -/
def fnExactAppendLogSpec : ChangeSpec := { name := "fnExactAppendLog", vars := ["loop.example/g00332/impl.halfByteSums"], fn := fun _ => fun
  | [d1, d2, g1] => { results := [.lit (.bool true)], args := [d1, d2], vars := [g1] }
  | _ => none }
def fnExactAppendLogRow : OpenClaim := { program := "ytkpopingbbaomaagreatdoor", sum := "13e7b3022d2781a7119bf798d3d16899e35fd31302dc31085ba903214085b3ce", func := "loop.example/g00332/laws.FnExactAppendLog", spec := "fnExactAppendLog", unfollowed := true, recurses := true, named := ["loop.example/g00332/impl.halfByteSums"], apart := false, laid := [("loop.example/g00332/impl.halfByteSums", laid_loop_example_g00332_impl_halfByteSums)] }
def FnExactAppendLogSaid : Prop := fnExactAppendLogRow.holds Tryz.pinned (OpenSpec.ofChange fnExactAppendLogSpec)

/-- ITS FALSE NEIGHBOUR: 'it returns false'. Refute it at one input. -/
def fnExactAppendLogWrong : ChangeSpec := { name := "fnExactAppendLog", vars := ["loop.example/g00332/impl.halfByteSums"], fn := fun _ => fun
  | [d1, d2, g1] => { results := [.lit (.bool false)], args := [d1, d2], vars := [g1] }
  | _ => none }
def FnExactAppendLogWrongFalsely : Prop := fnExactAppendLogRow.holds Tryz.pinned (OpenSpec.ofChange fnExactAppendLogWrong)

/-- 'laws.FnExactDirtyPages': WHATEVER THE INPUT: true; the input reads as it did. -/
def fnExactDirtyPagesSpec : ChangeSpec := { name := "fnExactDirtyPages", vars := ["loop.example/g00332/impl.halfByteSums"], fn := fun _ => fun
  | [d, g1] => { results := [.lit (.bool true)], args := [d], vars := [g1] }
  | _ => none }
def fnExactDirtyPagesRow : OpenClaim := { program := "ytkpopingbbaomaagreatdoor", sum := "13e7b3022d2781a7119bf798d3d16899e35fd31302dc31085ba903214085b3ce", func := "loop.example/g00332/laws.FnExactDirtyPages", spec := "fnExactDirtyPages", unfollowed := true, recurses := true, named := ["loop.example/g00332/impl.halfByteSums"], apart := false, laid := [("loop.example/g00332/impl.halfByteSums", laid_loop_example_g00332_impl_halfByteSums)] }
def FnExactDirtyPagesSaid : Prop := fnExactDirtyPagesRow.holds Tryz.pinned (OpenSpec.ofChange fnExactDirtyPagesSpec)

/-- ITS FALSE NEIGHBOUR: 'it returns false'. Refute it at one input. -/
def fnExactDirtyPagesWrong : ChangeSpec := { name := "fnExactDirtyPages", vars := ["loop.example/g00332/impl.halfByteSums"], fn := fun _ => fun
  | [d, g1] => { results := [.lit (.bool false)], args := [d], vars := [g1] }
  | _ => none }
def FnExactDirtyPagesWrongFalsely : Prop := fnExactDirtyPagesRow.holds Tryz.pinned (OpenSpec.ofChange fnExactDirtyPagesWrong)

/-- 'laws.FnExactFlushLog': WHATEVER THE INPUT: true; the input reads as it did. -/
def fnExactFlushLogSpec : ChangeSpec := { name := "fnExactFlushLog", vars := ["loop.example/g00332/impl.halfByteSums"], fn := fun _ => fun
  | [d1, d2, g1] => { results := [.lit (.bool true)], args := [d1, d2], vars := [g1] }
  | _ => none }
def fnExactFlushLogRow : OpenClaim := { program := "ytkpopingbbaomaagreatdoor", sum := "13e7b3022d2781a7119bf798d3d16899e35fd31302dc31085ba903214085b3ce", func := "loop.example/g00332/laws.FnExactFlushLog", spec := "fnExactFlushLog", unfollowed := true, recurses := true, named := ["loop.example/g00332/impl.halfByteSums"], apart := false, laid := [("loop.example/g00332/impl.halfByteSums", laid_loop_example_g00332_impl_halfByteSums)] }
def FnExactFlushLogSaid : Prop := fnExactFlushLogRow.holds Tryz.pinned (OpenSpec.ofChange fnExactFlushLogSpec)

/-- ITS FALSE NEIGHBOUR: 'it returns false'. Refute it at one input. -/
def fnExactFlushLogWrong : ChangeSpec := { name := "fnExactFlushLog", vars := ["loop.example/g00332/impl.halfByteSums"], fn := fun _ => fun
  | [d1, d2, g1] => { results := [.lit (.bool false)], args := [d1, d2], vars := [g1] }
  | _ => none }
def FnExactFlushLogWrongFalsely : Prop := fnExactFlushLogRow.holds Tryz.pinned (OpenSpec.ofChange fnExactFlushLogWrong)

/- THE SECOND FORM. 'bulk': how many values and letters a reading holds, each counted each time it is reached (what is shared counts as often as it is met; a slice's spare places count too). A statement '..UptoSaid' is the law's where the arguments, and the package variables that the reading takes, are together of bulk at most 1048576: NARROWER than '..Said'. Prove '..Said' where nothing that the law and all that it calls make is longer than what came in: it says more and counts as full. Else prove '..UptoSaid'. A law counts once. -/
mutual
def uptoBulk {H : Type} : DataW H → Nat
  | .lit (.string bytes) => bytes.length + 1
  | .lit _ => 1
  | .nil => 1
  | .ptr d => uptoBulk d + 1
  | .slice elems spare => uptoBulkAll elems + uptoBulkAll spare + 1
  | .agg parts => uptoBulkAll parts + 1
  | .iface _ d => uptoBulk d + 1
  | .map entries => uptoBulkEntries entries + 1
  | .held _ => 1
def uptoBulkAll {H : Type} : List (DataW H) → Nat
  | [] => 0
  | d :: r => uptoBulk d + uptoBulkAll r
def uptoBulkEntries {H : Type} : List (Lit × DataW H) → Nat
  | [] => 0
  | x :: r => uptoBulkEntry x + uptoBulkEntries r
def uptoBulkEntry {H : Type} : Lit × DataW H → Nat
  | (.string bytes, d) => bytes.length + uptoBulk d + 1
  | (_, d) => uptoBulk d + 1
 end
def uptoSmall : (H : Type) → List (DataW H) → Bool := fun _ ds => decide (uptoBulkAll ds ≤ 1048576)
def OpenSpec.upto (s : _root_.Go.ChangeSpec) : _root_.Go.OpenSpec := { _root_.Go.OpenSpec.ofChange s with cond := some uptoSmall }

/-- 'laws.FnExactEngineOK', WHERE WHAT IT READS IS OF BULK AT MOST 1048576: true; the input reads as it did. -/
def fnExactEngineOKUptoRow : OpenClaim := { program := "ytkpopingbbaomaagreatdoor", sum := "13e7b3022d2781a7119bf798d3d16899e35fd31302dc31085ba903214085b3ce", func := "loop.example/g00332/laws.FnExactEngineOK", spec := "fnExactEngineOK", unfollowed := true, recurses := true, named := ["loop.example/g00332/impl.halfByteSums", "loop.example/g00332/impl.fitting"], apart := false, laid := [("loop.example/g00332/impl.halfByteSums", laid_loop_example_g00332_impl_halfByteSums), ("loop.example/g00332/impl.fitting", laid_loop_example_g00332_impl_fitting)], narrowed := true }
def FnExactEngineOKUptoSaid : Prop := fnExactEngineOKUptoRow.holds Tryz.pinned (OpenSpec.upto fnExactEngineOKSpec)

/-- 'laws.FnExactBeginTx', WHERE WHAT IT READS IS OF BULK AT MOST 1048576: true; the input reads as it did. -/
def fnExactBeginTxUptoRow : OpenClaim := { program := "ytkpopingbbaomaagreatdoor", sum := "13e7b3022d2781a7119bf798d3d16899e35fd31302dc31085ba903214085b3ce", func := "loop.example/g00332/laws.FnExactBeginTx", spec := "fnExactBeginTx", unfollowed := true, recurses := true, named := ["loop.example/g00332/impl.halfByteSums", "loop.example/g00332/impl.fitting"], apart := false, laid := [("loop.example/g00332/impl.halfByteSums", laid_loop_example_g00332_impl_halfByteSums), ("loop.example/g00332/impl.fitting", laid_loop_example_g00332_impl_fitting)], narrowed := true }
def FnExactBeginTxUptoSaid : Prop := fnExactBeginTxUptoRow.holds Tryz.pinned (OpenSpec.upto fnExactBeginTxSpec)

/-- 'laws.FnExactCommitTx', WHERE WHAT IT READS IS OF BULK AT MOST 1048576: true; the input reads as it did. -/
def fnExactCommitTxUptoRow : OpenClaim := { program := "ytkpopingbbaomaagreatdoor", sum := "13e7b3022d2781a7119bf798d3d16899e35fd31302dc31085ba903214085b3ce", func := "loop.example/g00332/laws.FnExactCommitTx", spec := "fnExactCommitTx", inPlace := ["internal/reflectlite.TypeOf"], unfollowed := true, recurses := true, named := ["loop.example/g00332/impl.halfByteSums", "loop.example/g00332/impl.fitting", "loop.example/g00332/impl.errWait", "loop.example/g00332/impl.errDeadlock", "loop.example/g00332/impl.errDown", "loop.example/g00332/impl.errFull", "loop.example/g00332/impl.errNone", "loop.example/g00332/impl.errOver"], ifaces := true, apart := false, laid := [("loop.example/g00332/impl.halfByteSums", laid_loop_example_g00332_impl_halfByteSums), ("loop.example/g00332/impl.fitting", laid_loop_example_g00332_impl_fitting), ("loop.example/g00332/impl.errNone", laid_loop_example_g00332_impl_errNone), ("loop.example/g00332/impl.errOver", laid_loop_example_g00332_impl_errOver), ("loop.example/g00332/impl.errFull", laid_loop_example_g00332_impl_errFull), ("loop.example/g00332/impl.errWait", laid_loop_example_g00332_impl_errWait), ("loop.example/g00332/impl.errDeadlock", laid_loop_example_g00332_impl_errDeadlock), ("loop.example/g00332/impl.errDown", laid_loop_example_g00332_impl_errDown)], narrowed := true }
def FnExactCommitTxUptoSaid : Prop := fnExactCommitTxUptoRow.holds Tryz.pinned (OpenSpec.upto fnExactCommitTxSpec)

/-- 'laws.FnExactCrashEngine', WHERE WHAT IT READS IS OF BULK AT MOST 1048576: true; the input reads as it did. -/
def fnExactCrashEngineUptoRow : OpenClaim := { program := "ytkpopingbbaomaagreatdoor", sum := "13e7b3022d2781a7119bf798d3d16899e35fd31302dc31085ba903214085b3ce", func := "loop.example/g00332/laws.FnExactCrashEngine", spec := "fnExactCrashEngine", unfollowed := true, recurses := true, named := ["loop.example/g00332/impl.halfByteSums", "loop.example/g00332/impl.fitting"], apart := false, laid := [("loop.example/g00332/impl.halfByteSums", laid_loop_example_g00332_impl_halfByteSums), ("loop.example/g00332/impl.fitting", laid_loop_example_g00332_impl_fitting)], narrowed := true }
def FnExactCrashEngineUptoSaid : Prop := fnExactCrashEngineUptoRow.holds Tryz.pinned (OpenSpec.upto fnExactCrashEngineSpec)

/-- 'laws.FnExactArmEngine', WHERE WHAT IT READS IS OF BULK AT MOST 1048576: true; the input reads as it did. -/
def fnExactArmEngineUptoRow : OpenClaim := { program := "ytkpopingbbaomaagreatdoor", sum := "13e7b3022d2781a7119bf798d3d16899e35fd31302dc31085ba903214085b3ce", func := "loop.example/g00332/laws.FnExactArmEngine", spec := "fnExactArmEngine", unfollowed := true, recurses := true, named := ["loop.example/g00332/impl.halfByteSums", "loop.example/g00332/impl.fitting"], apart := false, laid := [("loop.example/g00332/impl.halfByteSums", laid_loop_example_g00332_impl_halfByteSums), ("loop.example/g00332/impl.fitting", laid_loop_example_g00332_impl_fitting)], narrowed := true }
def FnExactArmEngineUptoSaid : Prop := fnExactArmEngineUptoRow.holds Tryz.pinned (OpenSpec.upto fnExactArmEngineSpec)

/-- 'laws.FnExactUndoNeeds', WHERE WHAT IT READS IS OF BULK AT MOST 1048576: true; the input reads as it did. -/
def fnExactUndoNeedsUptoRow : OpenClaim := { program := "ytkpopingbbaomaagreatdoor", sum := "13e7b3022d2781a7119bf798d3d16899e35fd31302dc31085ba903214085b3ce", func := "loop.example/g00332/laws.FnExactUndoNeeds", spec := "fnExactUndoNeeds", unfollowed := true, recurses := true, named := ["loop.example/g00332/impl.halfByteSums", "loop.example/g00332/impl.fitting"], apart := false, laid := [("loop.example/g00332/impl.halfByteSums", laid_loop_example_g00332_impl_halfByteSums), ("loop.example/g00332/impl.fitting", laid_loop_example_g00332_impl_fitting)], narrowed := true }
def FnExactUndoNeedsUptoSaid : Prop := fnExactUndoNeedsUptoRow.holds Tryz.pinned (OpenSpec.upto fnExactUndoNeedsSpec)

/-- 'laws.FnExactTakeCheck', WHERE WHAT IT READS IS OF BULK AT MOST 1048576: true; the input reads as it did. -/
def fnExactTakeCheckUptoRow : OpenClaim := { program := "ytkpopingbbaomaagreatdoor", sum := "13e7b3022d2781a7119bf798d3d16899e35fd31302dc31085ba903214085b3ce", func := "loop.example/g00332/laws.FnExactTakeCheck", spec := "fnExactTakeCheck", inPlace := ["internal/reflectlite.TypeOf"], unfollowed := true, recurses := true, named := ["loop.example/g00332/impl.halfByteSums", "loop.example/g00332/impl.fitting", "loop.example/g00332/impl.errWait", "loop.example/g00332/impl.errDeadlock", "loop.example/g00332/impl.errDown", "loop.example/g00332/impl.errFull", "loop.example/g00332/impl.errNone", "loop.example/g00332/impl.errOver"], ifaces := true, apart := false, laid := [("loop.example/g00332/impl.halfByteSums", laid_loop_example_g00332_impl_halfByteSums), ("loop.example/g00332/impl.fitting", laid_loop_example_g00332_impl_fitting), ("loop.example/g00332/impl.errNone", laid_loop_example_g00332_impl_errNone), ("loop.example/g00332/impl.errOver", laid_loop_example_g00332_impl_errOver), ("loop.example/g00332/impl.errFull", laid_loop_example_g00332_impl_errFull), ("loop.example/g00332/impl.errWait", laid_loop_example_g00332_impl_errWait), ("loop.example/g00332/impl.errDeadlock", laid_loop_example_g00332_impl_errDeadlock), ("loop.example/g00332/impl.errDown", laid_loop_example_g00332_impl_errDown)], narrowed := true }
def FnExactTakeCheckUptoSaid : Prop := fnExactTakeCheckUptoRow.holds Tryz.pinned (OpenSpec.upto fnExactTakeCheckSpec)

/-- 'laws.FnExactAppendLog', WHERE WHAT IT READS IS OF BULK AT MOST 1048576: true; the input reads as it did. -/
def fnExactAppendLogUptoRow : OpenClaim := { program := "ytkpopingbbaomaagreatdoor", sum := "13e7b3022d2781a7119bf798d3d16899e35fd31302dc31085ba903214085b3ce", func := "loop.example/g00332/laws.FnExactAppendLog", spec := "fnExactAppendLog", unfollowed := true, recurses := true, named := ["loop.example/g00332/impl.halfByteSums"], apart := false, laid := [("loop.example/g00332/impl.halfByteSums", laid_loop_example_g00332_impl_halfByteSums)], narrowed := true }
def FnExactAppendLogUptoSaid : Prop := fnExactAppendLogUptoRow.holds Tryz.pinned (OpenSpec.upto fnExactAppendLogSpec)

/-- 'laws.FnExactDirtyPages', WHERE WHAT IT READS IS OF BULK AT MOST 1048576: true; the input reads as it did. -/
def fnExactDirtyPagesUptoRow : OpenClaim := { program := "ytkpopingbbaomaagreatdoor", sum := "13e7b3022d2781a7119bf798d3d16899e35fd31302dc31085ba903214085b3ce", func := "loop.example/g00332/laws.FnExactDirtyPages", spec := "fnExactDirtyPages", unfollowed := true, recurses := true, named := ["loop.example/g00332/impl.halfByteSums"], apart := false, laid := [("loop.example/g00332/impl.halfByteSums", laid_loop_example_g00332_impl_halfByteSums)], narrowed := true }
def FnExactDirtyPagesUptoSaid : Prop := fnExactDirtyPagesUptoRow.holds Tryz.pinned (OpenSpec.upto fnExactDirtyPagesSpec)

/-- 'laws.FnExactFlushLog', WHERE WHAT IT READS IS OF BULK AT MOST 1048576: true; the input reads as it did. -/
def fnExactFlushLogUptoRow : OpenClaim := { program := "ytkpopingbbaomaagreatdoor", sum := "13e7b3022d2781a7119bf798d3d16899e35fd31302dc31085ba903214085b3ce", func := "loop.example/g00332/laws.FnExactFlushLog", spec := "fnExactFlushLog", unfollowed := true, recurses := true, named := ["loop.example/g00332/impl.halfByteSums"], apart := false, laid := [("loop.example/g00332/impl.halfByteSums", laid_loop_example_g00332_impl_halfByteSums)], narrowed := true }
def FnExactFlushLogUptoSaid : Prop := fnExactFlushLogUptoRow.holds Tryz.pinned (OpenSpec.upto fnExactFlushLogSpec)

end Rows
end Go.Proofs.YtkpopingbbaomaaGreatDoor
