/-
  NARROWER THAN 'FOR EVERY INPUT', by the rows' own cells (each row's printed sentence says how): FnExactModesFit: laid · FnExactLocksOK: laid · FnExactHoldsLock: laid · FnExactLocksOfTx: laid · FnExactFreeLocks: laid · FnExactWaitsRound: laid · FnExactTakeLock: laid · FnLocks: laid · FnFree: laid · FnDeadlock: laid.
  DERIVED. THE GIVEN ROWS OF THIS SEAT. 10 by the template 'for every input the law returns true; each argument reads behind the call as it read before'; 0 by the template 'total and deterministic' (their statements: YtmjacoocnkcilaaDoorTotals.lean).
  GIVEN WITH THE SEED: the statements are not yours to turn. If you find one false, say at which input.
  Laid BY PROGRAM, IN A SANDBOX (cutbox-rows.mjs): the forced cells as the released guide's own fill.sh prints them over the translation d6222109687abf7d… (all of the seat's roots in one cut). By AI agents, Wed Nov 11 2026. No macro, syntax, notation, axiom, sorry.
-/
import Derived.Test.YtmjacoocnkcilaaDoorChecked
import GoSem.Claim
import GoSem.ClaimJoined
import GoSem.ClaimMapViews
import Derived.JoinedTies
import Derived.KernelRfl
namespace Go.Proofs.YtmjacoocnkcilaaDoor
/- THE CELL 'sum', in the pinned program and in every row, IS THE sha256 OF THE DUMP (.gsa) THAT YtmjacoocnkcilaaDoorProg.lean LOADS. Nothing in Lean hashes anything: it is a label: what it is worth is what the hold of that sum in a sandbox is worth. -/
noncomputable def Tryd.pinned : Pinned := { name := "ytmjacoocnkcilaadoor", sum := "d6222109687abf7df83e7903efdfd25d7c5bce5df4871a9c4241a2678071a15a", checked := Tryd.checked }
namespace Rows
def none {H : Type} : Left H := { results := [], args := [] }

/- WHAT THE LISTED PACKAGE-LEVEL VARIABLES READ AS WHEN THE CALL BEGINS. Each datum BY PROGRAM (the guide's laid-datum.mjs) off the statement by which the dump's own 'gosem.cut.vars' lays the variable. In a bare row this is a premise. The card (YtmjacoocnkcilaaDoorCards.lean) ties it to the program's text. -/
def laid_loop_example_g00332_impl_fitting {H : Type} : DataW H := .agg [.lit (.int .u8 0), .lit (.int .u8 14), .lit (.int .u8 6), .lit (.int .u8 10), .lit (.int .u8 0)]
def laid_math_bits_deBruijn64tab {H : Type} : DataW H := .agg [.lit (.int .u8 0), .lit (.int .u8 1), .lit (.int .u8 56), .lit (.int .u8 2), .lit (.int .u8 57), .lit (.int .u8 49), .lit (.int .u8 28), .lit (.int .u8 3), .lit (.int .u8 61), .lit (.int .u8 58), .lit (.int .u8 42), .lit (.int .u8 50), .lit (.int .u8 38), .lit (.int .u8 29), .lit (.int .u8 17), .lit (.int .u8 4), .lit (.int .u8 62), .lit (.int .u8 47), .lit (.int .u8 59), .lit (.int .u8 36), .lit (.int .u8 45), .lit (.int .u8 43), .lit (.int .u8 51), .lit (.int .u8 22), .lit (.int .u8 53), .lit (.int .u8 39), .lit (.int .u8 33), .lit (.int .u8 30), .lit (.int .u8 24), .lit (.int .u8 18), .lit (.int .u8 12), .lit (.int .u8 5), .lit (.int .u8 63), .lit (.int .u8 55), .lit (.int .u8 48), .lit (.int .u8 27), .lit (.int .u8 60), .lit (.int .u8 41), .lit (.int .u8 37), .lit (.int .u8 16), .lit (.int .u8 46), .lit (.int .u8 35), .lit (.int .u8 44), .lit (.int .u8 21), .lit (.int .u8 52), .lit (.int .u8 32), .lit (.int .u8 23), .lit (.int .u8 11), .lit (.int .u8 54), .lit (.int .u8 26), .lit (.int .u8 40), .lit (.int .u8 15), .lit (.int .u8 34), .lit (.int .u8 20), .lit (.int .u8 31), .lit (.int .u8 10), .lit (.int .u8 25), .lit (.int .u8 14), .lit (.int .u8 19), .lit (.int .u8 9), .lit (.int .u8 13), .lit (.int .u8 8), .lit (.int .u8 7), .lit (.int .u8 6)]

/-- 'laws.FnExactModesFit': WHATEVER THE INPUT: true; the input reads as it did. -/
def fnExactModesFitSpec : ChangeSpec := { name := "fnExactModesFit", vars := ["loop.example/g00332/impl.fitting"], fn := fun _ => fun
  | [d1, d2, g1] => { results := [.lit (.bool true)], args := [d1, d2], vars := [g1] }
  | _ => none }
def fnExactModesFitRow : OpenClaim := { program := "ytmjacoocnkcilaadoor", sum := "d6222109687abf7df83e7903efdfd25d7c5bce5df4871a9c4241a2678071a15a", func := "loop.example/g00332/laws.FnExactModesFit", spec := "fnExactModesFit", named := ["loop.example/g00332/impl.fitting"], apart := false, laid := [("loop.example/g00332/impl.fitting", laid_loop_example_g00332_impl_fitting)] }
def FnExactModesFitSaid : Prop := fnExactModesFitRow.holds Tryd.pinned (OpenSpec.ofChange fnExactModesFitSpec)

/-- ITS FALSE NEIGHBOUR: 'it returns false'. Refute it at one input. -/
def fnExactModesFitWrong : ChangeSpec := { name := "fnExactModesFit", vars := ["loop.example/g00332/impl.fitting"], fn := fun _ => fun
  | [d1, d2, g1] => { results := [.lit (.bool false)], args := [d1, d2], vars := [g1] }
  | _ => none }
def FnExactModesFitWrongFalsely : Prop := fnExactModesFitRow.holds Tryd.pinned (OpenSpec.ofChange fnExactModesFitWrong)

/-- 'laws.FnExactLocksOK': WHATEVER THE INPUT: true; the input reads as it did. -/
def fnExactLocksOKSpec : ChangeSpec := { name := "fnExactLocksOK", vars := ["loop.example/g00332/impl.fitting"], fn := fun _ => fun
  | [d, g1] => { results := [.lit (.bool true)], args := [d], vars := [g1] }
  | _ => none }
def fnExactLocksOKRow : OpenClaim := { program := "ytmjacoocnkcilaadoor", sum := "d6222109687abf7df83e7903efdfd25d7c5bce5df4871a9c4241a2678071a15a", func := "loop.example/g00332/laws.FnExactLocksOK", spec := "fnExactLocksOK", unfollowed := true, recurses := true, named := ["loop.example/g00332/impl.fitting"], apart := false, laid := [("loop.example/g00332/impl.fitting", laid_loop_example_g00332_impl_fitting)] }
def FnExactLocksOKSaid : Prop := fnExactLocksOKRow.holds Tryd.pinned (OpenSpec.ofChange fnExactLocksOKSpec)

/-- ITS FALSE NEIGHBOUR: 'it returns false'. Refute it at one input. -/
def fnExactLocksOKWrong : ChangeSpec := { name := "fnExactLocksOK", vars := ["loop.example/g00332/impl.fitting"], fn := fun _ => fun
  | [d, g1] => { results := [.lit (.bool false)], args := [d], vars := [g1] }
  | _ => none }
def FnExactLocksOKWrongFalsely : Prop := fnExactLocksOKRow.holds Tryd.pinned (OpenSpec.ofChange fnExactLocksOKWrong)

/-- 'laws.FnExactHoldsLock': WHATEVER THE INPUT: true; the input reads as it did. -/
def fnExactHoldsLockSpec : ChangeSpec := { name := "fnExactHoldsLock", vars := ["loop.example/g00332/impl.fitting"], fn := fun _ => fun
  | [d1, d2, d3, d4, d5, g1] => { results := [.lit (.bool true)], args := [d1, d2, d3, d4, d5], vars := [g1] }
  | _ => none }
def fnExactHoldsLockRow : OpenClaim := { program := "ytmjacoocnkcilaadoor", sum := "d6222109687abf7df83e7903efdfd25d7c5bce5df4871a9c4241a2678071a15a", func := "loop.example/g00332/laws.FnExactHoldsLock", spec := "fnExactHoldsLock", unfollowed := true, recurses := true, named := ["loop.example/g00332/impl.fitting"], apart := false, laid := [("loop.example/g00332/impl.fitting", laid_loop_example_g00332_impl_fitting)] }
def FnExactHoldsLockSaid : Prop := fnExactHoldsLockRow.holds Tryd.pinned (OpenSpec.ofChange fnExactHoldsLockSpec)

/-- ITS FALSE NEIGHBOUR: 'it returns false'. Refute it at one input. -/
def fnExactHoldsLockWrong : ChangeSpec := { name := "fnExactHoldsLock", vars := ["loop.example/g00332/impl.fitting"], fn := fun _ => fun
  | [d1, d2, d3, d4, d5, g1] => { results := [.lit (.bool false)], args := [d1, d2, d3, d4, d5], vars := [g1] }
  | _ => none }
def FnExactHoldsLockWrongFalsely : Prop := fnExactHoldsLockRow.holds Tryd.pinned (OpenSpec.ofChange fnExactHoldsLockWrong)

/-- 'laws.FnExactLocksOfTx': WHATEVER THE INPUT: true; the input reads as it did. -/
def fnExactLocksOfTxSpec : ChangeSpec := { name := "fnExactLocksOfTx", vars := ["loop.example/g00332/impl.fitting"], fn := fun _ => fun
  | [d1, d2, g1] => { results := [.lit (.bool true)], args := [d1, d2], vars := [g1] }
  | _ => none }
def fnExactLocksOfTxRow : OpenClaim := { program := "ytmjacoocnkcilaadoor", sum := "d6222109687abf7df83e7903efdfd25d7c5bce5df4871a9c4241a2678071a15a", func := "loop.example/g00332/laws.FnExactLocksOfTx", spec := "fnExactLocksOfTx", unfollowed := true, recurses := true, named := ["loop.example/g00332/impl.fitting"], apart := false, laid := [("loop.example/g00332/impl.fitting", laid_loop_example_g00332_impl_fitting)] }
def FnExactLocksOfTxSaid : Prop := fnExactLocksOfTxRow.holds Tryd.pinned (OpenSpec.ofChange fnExactLocksOfTxSpec)

/-- ITS FALSE NEIGHBOUR: 'it returns false'. Refute it at one input. -/
def fnExactLocksOfTxWrong : ChangeSpec := { name := "fnExactLocksOfTx", vars := ["loop.example/g00332/impl.fitting"], fn := fun _ => fun
  | [d1, d2, g1] => { results := [.lit (.bool false)], args := [d1, d2], vars := [g1] }
  | _ => none }
def FnExactLocksOfTxWrongFalsely : Prop := fnExactLocksOfTxRow.holds Tryd.pinned (OpenSpec.ofChange fnExactLocksOfTxWrong)

/-- 'laws.FnExactFreeLocks': WHATEVER THE INPUT: true; the input reads as it did. -/
def fnExactFreeLocksSpec : ChangeSpec := { name := "fnExactFreeLocks", vars := ["loop.example/g00332/impl.fitting"], fn := fun _ => fun
  | [d1, d2, g1] => { results := [.lit (.bool true)], args := [d1, d2], vars := [g1] }
  | _ => none }
def fnExactFreeLocksRow : OpenClaim := { program := "ytmjacoocnkcilaadoor", sum := "d6222109687abf7df83e7903efdfd25d7c5bce5df4871a9c4241a2678071a15a", func := "loop.example/g00332/laws.FnExactFreeLocks", spec := "fnExactFreeLocks", unfollowed := true, recurses := true, named := ["loop.example/g00332/impl.fitting"], apart := false, laid := [("loop.example/g00332/impl.fitting", laid_loop_example_g00332_impl_fitting)] }
def FnExactFreeLocksSaid : Prop := fnExactFreeLocksRow.holds Tryd.pinned (OpenSpec.ofChange fnExactFreeLocksSpec)

/-- ITS FALSE NEIGHBOUR: 'it returns false'. Refute it at one input. -/
def fnExactFreeLocksWrong : ChangeSpec := { name := "fnExactFreeLocks", vars := ["loop.example/g00332/impl.fitting"], fn := fun _ => fun
  | [d1, d2, g1] => { results := [.lit (.bool false)], args := [d1, d2], vars := [g1] }
  | _ => none }
def FnExactFreeLocksWrongFalsely : Prop := fnExactFreeLocksRow.holds Tryd.pinned (OpenSpec.ofChange fnExactFreeLocksWrong)

/-- 'laws.FnExactWaitsRound': WHATEVER THE INPUT: true; the input reads as it did. -/
def fnExactWaitsRoundSpec : ChangeSpec := { name := "fnExactWaitsRound", vars := ["loop.example/g00332/impl.fitting"], fn := fun _ => fun
  | [d1, d2, g1] => { results := [.lit (.bool true)], args := [d1, d2], vars := [g1] }
  | _ => none }
def fnExactWaitsRoundRow : OpenClaim := { program := "ytmjacoocnkcilaadoor", sum := "d6222109687abf7df83e7903efdfd25d7c5bce5df4871a9c4241a2678071a15a", func := "loop.example/g00332/laws.FnExactWaitsRound", spec := "fnExactWaitsRound", unfollowed := true, recurses := true, named := ["loop.example/g00332/impl.fitting", "math/bits.deBruijn64tab"], apart := false, laid := [("math/bits.deBruijn64tab", laid_math_bits_deBruijn64tab), ("loop.example/g00332/impl.fitting", laid_loop_example_g00332_impl_fitting)] }
def FnExactWaitsRoundSaid : Prop := fnExactWaitsRoundRow.holds Tryd.pinned (OpenSpec.ofChange fnExactWaitsRoundSpec)

/-- ITS FALSE NEIGHBOUR: 'it returns false'. Refute it at one input. -/
def fnExactWaitsRoundWrong : ChangeSpec := { name := "fnExactWaitsRound", vars := ["loop.example/g00332/impl.fitting"], fn := fun _ => fun
  | [d1, d2, g1] => { results := [.lit (.bool false)], args := [d1, d2], vars := [g1] }
  | _ => none }
def FnExactWaitsRoundWrongFalsely : Prop := fnExactWaitsRoundRow.holds Tryd.pinned (OpenSpec.ofChange fnExactWaitsRoundWrong)

/-- 'laws.FnExactTakeLock': WHATEVER THE INPUT: true; the input reads as it did. -/
def fnExactTakeLockSpec : ChangeSpec := { name := "fnExactTakeLock", vars := ["loop.example/g00332/impl.fitting"], fn := fun _ => fun
  | [d1, d2, d3, d4, d5, g1] => { results := [.lit (.bool true)], args := [d1, d2, d3, d4, d5], vars := [g1] }
  | _ => none }
def fnExactTakeLockRow : OpenClaim := { program := "ytmjacoocnkcilaadoor", sum := "d6222109687abf7df83e7903efdfd25d7c5bce5df4871a9c4241a2678071a15a", func := "loop.example/g00332/laws.FnExactTakeLock", spec := "fnExactTakeLock", unfollowed := true, recurses := true, named := ["loop.example/g00332/impl.fitting", "math/bits.deBruijn64tab"], apart := false, laid := [("math/bits.deBruijn64tab", laid_math_bits_deBruijn64tab), ("loop.example/g00332/impl.fitting", laid_loop_example_g00332_impl_fitting)] }
def FnExactTakeLockSaid : Prop := fnExactTakeLockRow.holds Tryd.pinned (OpenSpec.ofChange fnExactTakeLockSpec)

/-- ITS FALSE NEIGHBOUR: 'it returns false'. Refute it at one input. -/
def fnExactTakeLockWrong : ChangeSpec := { name := "fnExactTakeLock", vars := ["loop.example/g00332/impl.fitting"], fn := fun _ => fun
  | [d1, d2, d3, d4, d5, g1] => { results := [.lit (.bool false)], args := [d1, d2, d3, d4, d5], vars := [g1] }
  | _ => none }
def FnExactTakeLockWrongFalsely : Prop := fnExactTakeLockRow.holds Tryd.pinned (OpenSpec.ofChange fnExactTakeLockWrong)

/-- 'laws.FnLocks': WHATEVER THE INPUT: true; the input reads as it did. -/
def fnLocksSpec : ChangeSpec := { name := "fnLocks", vars := ["loop.example/g00332/impl.fitting"], fn := fun _ => fun
  | [d1, d2, g1] => { results := [.lit (.bool true)], args := [d1, d2], vars := [g1] }
  | _ => none }
def fnLocksRow : OpenClaim := { program := "ytmjacoocnkcilaadoor", sum := "d6222109687abf7df83e7903efdfd25d7c5bce5df4871a9c4241a2678071a15a", func := "loop.example/g00332/laws.FnLocks", spec := "fnLocks", unfollowed := true, recurses := true, named := ["loop.example/g00332/impl.fitting", "math/bits.deBruijn64tab"], apart := false, laid := [("math/bits.deBruijn64tab", laid_math_bits_deBruijn64tab), ("loop.example/g00332/impl.fitting", laid_loop_example_g00332_impl_fitting)] }
def FnLocksSaid : Prop := fnLocksRow.holds Tryd.pinned (OpenSpec.ofChange fnLocksSpec)

/-- ITS FALSE NEIGHBOUR: 'it returns false'. Refute it at one input. -/
def fnLocksWrong : ChangeSpec := { name := "fnLocks", vars := ["loop.example/g00332/impl.fitting"], fn := fun _ => fun
  | [d1, d2, g1] => { results := [.lit (.bool false)], args := [d1, d2], vars := [g1] }
  | _ => none }
def FnLocksWrongFalsely : Prop := fnLocksRow.holds Tryd.pinned (OpenSpec.ofChange fnLocksWrong)

/-- 'laws.FnFree': WHATEVER THE INPUT: true; the input reads as it did. -/
def fnFreeSpec : ChangeSpec := { name := "fnFree", vars := ["loop.example/g00332/impl.fitting"], fn := fun _ => fun
  | [d1, d2, g1] => { results := [.lit (.bool true)], args := [d1, d2], vars := [g1] }
  | _ => none }
def fnFreeRow : OpenClaim := { program := "ytmjacoocnkcilaadoor", sum := "d6222109687abf7df83e7903efdfd25d7c5bce5df4871a9c4241a2678071a15a", func := "loop.example/g00332/laws.FnFree", spec := "fnFree", unfollowed := true, recurses := true, named := ["loop.example/g00332/impl.fitting"], apart := false, laid := [("loop.example/g00332/impl.fitting", laid_loop_example_g00332_impl_fitting)] }
def FnFreeSaid : Prop := fnFreeRow.holds Tryd.pinned (OpenSpec.ofChange fnFreeSpec)

/-- ITS FALSE NEIGHBOUR: 'it returns false'. Refute it at one input. -/
def fnFreeWrong : ChangeSpec := { name := "fnFree", vars := ["loop.example/g00332/impl.fitting"], fn := fun _ => fun
  | [d1, d2, g1] => { results := [.lit (.bool false)], args := [d1, d2], vars := [g1] }
  | _ => none }
def FnFreeWrongFalsely : Prop := fnFreeRow.holds Tryd.pinned (OpenSpec.ofChange fnFreeWrong)

/-- 'laws.FnDeadlock': WHATEVER THE INPUT: true; the input reads as it did. -/
def fnDeadlockSpec : ChangeSpec := { name := "fnDeadlock", vars := ["loop.example/g00332/impl.fitting"], fn := fun _ => fun
  | [d1, d2, g1] => { results := [.lit (.bool true)], args := [d1, d2], vars := [g1] }
  | _ => none }
def fnDeadlockRow : OpenClaim := { program := "ytmjacoocnkcilaadoor", sum := "d6222109687abf7df83e7903efdfd25d7c5bce5df4871a9c4241a2678071a15a", func := "loop.example/g00332/laws.FnDeadlock", spec := "fnDeadlock", unfollowed := true, recurses := true, named := ["loop.example/g00332/impl.fitting", "math/bits.deBruijn64tab"], apart := false, laid := [("math/bits.deBruijn64tab", laid_math_bits_deBruijn64tab), ("loop.example/g00332/impl.fitting", laid_loop_example_g00332_impl_fitting)] }
def FnDeadlockSaid : Prop := fnDeadlockRow.holds Tryd.pinned (OpenSpec.ofChange fnDeadlockSpec)

/-- ITS FALSE NEIGHBOUR: 'it returns false'. Refute it at one input. -/
def fnDeadlockWrong : ChangeSpec := { name := "fnDeadlock", vars := ["loop.example/g00332/impl.fitting"], fn := fun _ => fun
  | [d1, d2, g1] => { results := [.lit (.bool false)], args := [d1, d2], vars := [g1] }
  | _ => none }
def FnDeadlockWrongFalsely : Prop := fnDeadlockRow.holds Tryd.pinned (OpenSpec.ofChange fnDeadlockWrong)

/- THE SECOND FORM. 'bulk': how many values and letters a reading holds, each counted each time it is reached (what is shared counts as often as it is met; a slice's spare places count too). A statement '..UptoSaid' is the law's where the arguments, and the package variables that the reading takes, are together of bulk at most 1048576: NARROWER than '..Said'. Prove '..Said' where nothing that the law and all that it calls make is longer than what came in: it says more and counts as full. Else prove '..UptoSaid'. A law counts once. -/
mutual
def uptoBulk {H : Type} : DataW H → Nat
  | .lit (.string bytes) => bytes.length + 1
  | .lit _ => 1
  | .nil => 1
  | .ptr d => uptoBulk d + 1
  | .slice elems spare => uptoBulkAll elems + uptoBulkAll spare + 1
  | .agg parts => uptoBulkAll parts + 1
  | .iface _ d => uptoBulk d + 1
  | .map entries => uptoBulkEntries entries + 1
  | .held _ => 1
def uptoBulkAll {H : Type} : List (DataW H) → Nat
  | [] => 0
  | d :: r => uptoBulk d + uptoBulkAll r
def uptoBulkEntries {H : Type} : List (Lit × DataW H) → Nat
  | [] => 0
  | x :: r => uptoBulkEntry x + uptoBulkEntries r
def uptoBulkEntry {H : Type} : Lit × DataW H → Nat
  | (.string bytes, d) => bytes.length + uptoBulk d + 1
  | (_, d) => uptoBulk d + 1
 end
def uptoSmall : (H : Type) → List (DataW H) → Bool := fun _ ds => decide (uptoBulkAll ds ≤ 1048576)
def OpenSpec.upto (s : _root_.Go.ChangeSpec) : _root_.Go.OpenSpec := { _root_.Go.OpenSpec.ofChange s with cond := some uptoSmall }

/-- 'laws.FnExactModesFit', WHERE WHAT IT READS IS OF BULK AT MOST 1048576: true; the input reads as it did. -/
def fnExactModesFitUptoRow : OpenClaim := { program := "ytmjacoocnkcilaadoor", sum := "d6222109687abf7df83e7903efdfd25d7c5bce5df4871a9c4241a2678071a15a", func := "loop.example/g00332/laws.FnExactModesFit", spec := "fnExactModesFit", named := ["loop.example/g00332/impl.fitting"], apart := false, laid := [("loop.example/g00332/impl.fitting", laid_loop_example_g00332_impl_fitting)], narrowed := true }
def FnExactModesFitUptoSaid : Prop := fnExactModesFitUptoRow.holds Tryd.pinned (OpenSpec.upto fnExactModesFitSpec)

/-- 'laws.FnExactLocksOK', WHERE WHAT IT READS IS OF BULK AT MOST 1048576: true; the input reads as it did. -/
def fnExactLocksOKUptoRow : OpenClaim := { program := "ytmjacoocnkcilaadoor", sum := "d6222109687abf7df83e7903efdfd25d7c5bce5df4871a9c4241a2678071a15a", func := "loop.example/g00332/laws.FnExactLocksOK", spec := "fnExactLocksOK", unfollowed := true, recurses := true, named := ["loop.example/g00332/impl.fitting"], apart := false, laid := [("loop.example/g00332/impl.fitting", laid_loop_example_g00332_impl_fitting)], narrowed := true }
def FnExactLocksOKUptoSaid : Prop := fnExactLocksOKUptoRow.holds Tryd.pinned (OpenSpec.upto fnExactLocksOKSpec)

/-- 'laws.FnExactHoldsLock', WHERE WHAT IT READS IS OF BULK AT MOST 1048576: true; the input reads as it did. -/
def fnExactHoldsLockUptoRow : OpenClaim := { program := "ytmjacoocnkcilaadoor", sum := "d6222109687abf7df83e7903efdfd25d7c5bce5df4871a9c4241a2678071a15a", func := "loop.example/g00332/laws.FnExactHoldsLock", spec := "fnExactHoldsLock", unfollowed := true, recurses := true, named := ["loop.example/g00332/impl.fitting"], apart := false, laid := [("loop.example/g00332/impl.fitting", laid_loop_example_g00332_impl_fitting)], narrowed := true }
def FnExactHoldsLockUptoSaid : Prop := fnExactHoldsLockUptoRow.holds Tryd.pinned (OpenSpec.upto fnExactHoldsLockSpec)

/-- 'laws.FnExactLocksOfTx', WHERE WHAT IT READS IS OF BULK AT MOST 1048576: true; the input reads as it did. -/
def fnExactLocksOfTxUptoRow : OpenClaim := { program := "ytmjacoocnkcilaadoor", sum := "d6222109687abf7df83e7903efdfd25d7c5bce5df4871a9c4241a2678071a15a", func := "loop.example/g00332/laws.FnExactLocksOfTx", spec := "fnExactLocksOfTx", unfollowed := true, recurses := true, named := ["loop.example/g00332/impl.fitting"], apart := false, laid := [("loop.example/g00332/impl.fitting", laid_loop_example_g00332_impl_fitting)], narrowed := true }
def FnExactLocksOfTxUptoSaid : Prop := fnExactLocksOfTxUptoRow.holds Tryd.pinned (OpenSpec.upto fnExactLocksOfTxSpec)

/-- 'laws.FnExactFreeLocks', WHERE WHAT IT READS IS OF BULK AT MOST 1048576: true; the input reads as it did. -/
def fnExactFreeLocksUptoRow : OpenClaim := { program := "ytmjacoocnkcilaadoor", sum := "d6222109687abf7df83e7903efdfd25d7c5bce5df4871a9c4241a2678071a15a", func := "loop.example/g00332/laws.FnExactFreeLocks", spec := "fnExactFreeLocks", unfollowed := true, recurses := true, named := ["loop.example/g00332/impl.fitting"], apart := false, laid := [("loop.example/g00332/impl.fitting", laid_loop_example_g00332_impl_fitting)], narrowed := true }
def FnExactFreeLocksUptoSaid : Prop := fnExactFreeLocksUptoRow.holds Tryd.pinned (OpenSpec.upto fnExactFreeLocksSpec)

/-- 'laws.FnExactWaitsRound', WHERE WHAT IT READS IS OF BULK AT MOST 1048576: true; the input reads as it did. -/
def fnExactWaitsRoundUptoRow : OpenClaim := { program := "ytmjacoocnkcilaadoor", sum := "d6222109687abf7df83e7903efdfd25d7c5bce5df4871a9c4241a2678071a15a", func := "loop.example/g00332/laws.FnExactWaitsRound", spec := "fnExactWaitsRound", unfollowed := true, recurses := true, named := ["loop.example/g00332/impl.fitting", "math/bits.deBruijn64tab"], apart := false, laid := [("math/bits.deBruijn64tab", laid_math_bits_deBruijn64tab), ("loop.example/g00332/impl.fitting", laid_loop_example_g00332_impl_fitting)], narrowed := true }
def FnExactWaitsRoundUptoSaid : Prop := fnExactWaitsRoundUptoRow.holds Tryd.pinned (OpenSpec.upto fnExactWaitsRoundSpec)

/-- 'laws.FnExactTakeLock', WHERE WHAT IT READS IS OF BULK AT MOST 1048576: true; the input reads as it did. -/
def fnExactTakeLockUptoRow : OpenClaim := { program := "ytmjacoocnkcilaadoor", sum := "d6222109687abf7df83e7903efdfd25d7c5bce5df4871a9c4241a2678071a15a", func := "loop.example/g00332/laws.FnExactTakeLock", spec := "fnExactTakeLock", unfollowed := true, recurses := true, named := ["loop.example/g00332/impl.fitting", "math/bits.deBruijn64tab"], apart := false, laid := [("math/bits.deBruijn64tab", laid_math_bits_deBruijn64tab), ("loop.example/g00332/impl.fitting", laid_loop_example_g00332_impl_fitting)], narrowed := true }
def FnExactTakeLockUptoSaid : Prop := fnExactTakeLockUptoRow.holds Tryd.pinned (OpenSpec.upto fnExactTakeLockSpec)

/-- 'laws.FnLocks', WHERE WHAT IT READS IS OF BULK AT MOST 1048576: true; the input reads as it did. -/
def fnLocksUptoRow : OpenClaim := { program := "ytmjacoocnkcilaadoor", sum := "d6222109687abf7df83e7903efdfd25d7c5bce5df4871a9c4241a2678071a15a", func := "loop.example/g00332/laws.FnLocks", spec := "fnLocks", unfollowed := true, recurses := true, named := ["loop.example/g00332/impl.fitting", "math/bits.deBruijn64tab"], apart := false, laid := [("math/bits.deBruijn64tab", laid_math_bits_deBruijn64tab), ("loop.example/g00332/impl.fitting", laid_loop_example_g00332_impl_fitting)], narrowed := true }
def FnLocksUptoSaid : Prop := fnLocksUptoRow.holds Tryd.pinned (OpenSpec.upto fnLocksSpec)

/-- 'laws.FnFree', WHERE WHAT IT READS IS OF BULK AT MOST 1048576: true; the input reads as it did. -/
def fnFreeUptoRow : OpenClaim := { program := "ytmjacoocnkcilaadoor", sum := "d6222109687abf7df83e7903efdfd25d7c5bce5df4871a9c4241a2678071a15a", func := "loop.example/g00332/laws.FnFree", spec := "fnFree", unfollowed := true, recurses := true, named := ["loop.example/g00332/impl.fitting"], apart := false, laid := [("loop.example/g00332/impl.fitting", laid_loop_example_g00332_impl_fitting)], narrowed := true }
def FnFreeUptoSaid : Prop := fnFreeUptoRow.holds Tryd.pinned (OpenSpec.upto fnFreeSpec)

/-- 'laws.FnDeadlock', WHERE WHAT IT READS IS OF BULK AT MOST 1048576: true; the input reads as it did. -/
def fnDeadlockUptoRow : OpenClaim := { program := "ytmjacoocnkcilaadoor", sum := "d6222109687abf7df83e7903efdfd25d7c5bce5df4871a9c4241a2678071a15a", func := "loop.example/g00332/laws.FnDeadlock", spec := "fnDeadlock", unfollowed := true, recurses := true, named := ["loop.example/g00332/impl.fitting", "math/bits.deBruijn64tab"], apart := false, laid := [("math/bits.deBruijn64tab", laid_math_bits_deBruijn64tab), ("loop.example/g00332/impl.fitting", laid_loop_example_g00332_impl_fitting)], narrowed := true }
def FnDeadlockUptoSaid : Prop := fnDeadlockUptoRow.holds Tryd.pinned (OpenSpec.upto fnDeadlockSpec)

end Rows
end Go.Proofs.YtmjacoocnkcilaaDoor
