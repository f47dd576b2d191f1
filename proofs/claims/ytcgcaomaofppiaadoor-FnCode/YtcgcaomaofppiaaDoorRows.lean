/-
  NARROWER THAN 'FOR EVERY INPUT', by the rows' own cells (each row's printed sentence says how): FnExactRunCode: laid · FnCode: laid.
  DERIVED. THE GIVEN ROWS OF THIS SEAT. 2 by the template 'for every input the law returns true; each argument reads behind the call as it read before'; 0 by the template 'total and deterministic' (their statements: YtcgcaomaofppiaaDoorTotals.lean).
  GIVEN WITH THE SEED: the statements are not yours to turn. If you find one false, say at which input.
  Laid BY PROGRAM, IN A SANDBOX (cutbox-rows.mjs): the forced cells as the released guide's own fill.sh prints them over the translation f5a0fbcab64df1c2… (all of the seat's roots in one cut). By AI agents, Wed Nov 11 2026. No macro, syntax, notation, axiom, sorry.
-/
import Derived.Test.YtcgcaomaofppiaaDoorChecked
import GoSem.Claim
import GoSem.ClaimJoined
import GoSem.ClaimMapViews
import Derived.JoinedTies
import Derived.KernelRfl
namespace Go.Proofs.YtcgcaomaofppiaaDoor
/- THE CELL 'sum', in the pinned program and in every row, IS THE sha256 OF THE DUMP (.gsa) THAT YtcgcaomaofppiaaDoorProg.lean LOADS. Nothing in Lean hashes anything: it is a label: what it is worth is what the hold of that sum in a sandbox is worth. -/
noncomputable def Tryd.pinned : Pinned := { name := "ytcgcaomaofppiaadoor", sum := "f5a0fbcab64df1c29e28c34e1499da4edc062b27661d4d759347b8d8511eae93", checked := Tryd.checked }
namespace Rows
def none {H : Type} : Left H := { results := [], args := [] }

/- WHAT THE LISTED PACKAGE-LEVEL VARIABLES READ AS WHEN THE CALL BEGINS. Each datum BY PROGRAM (the guide's laid-datum.mjs) off the statement by which the dump's own 'gosem.cut.vars' lays the variable. In a bare row this is a premise. The card (YtcgcaomaofppiaaDoorCards.lean) ties it to the program's text. -/
def laid_loop_example_g00332_impl_insTakes {H : Type} : DataW H := .agg [.lit (.int .i64 0), .lit (.int .i64 0), .lit (.int .i64 0), .lit (.int .i64 1), .lit (.int .i64 2), .lit (.int .i64 1), .lit (.int .i64 1)]

/-- 'laws.FnExactRunCode': WHATEVER THE INPUT: true; the input reads as it did. -/
def fnExactRunCodeSpec : ChangeSpec := { name := "fnExactRunCode", vars := ["loop.example/g00332/impl.insTakes"], fn := fun _ => fun
  | [d1, d2, g1] => { results := [.lit (.bool true)], args := [d1, d2], vars := [g1] }
  | _ => none }
def fnExactRunCodeRow : OpenClaim := { program := "ytcgcaomaofppiaadoor", sum := "f5a0fbcab64df1c29e28c34e1499da4edc062b27661d4d759347b8d8511eae93", func := "loop.example/g00332/laws.FnExactRunCode", spec := "fnExactRunCode", unfollowed := true, recurses := true, named := ["loop.example/g00332/impl.insTakes"], apart := false, laid := [("loop.example/g00332/impl.insTakes", laid_loop_example_g00332_impl_insTakes)] }
def FnExactRunCodeSaid : Prop := fnExactRunCodeRow.holds Tryd.pinned (OpenSpec.ofChange fnExactRunCodeSpec)

/-- ITS FALSE NEIGHBOUR: 'it returns false'. Refute it at one input. -/
def fnExactRunCodeWrong : ChangeSpec := { name := "fnExactRunCode", vars := ["loop.example/g00332/impl.insTakes"], fn := fun _ => fun
  | [d1, d2, g1] => { results := [.lit (.bool false)], args := [d1, d2], vars := [g1] }
  | _ => none }
def FnExactRunCodeWrongFalsely : Prop := fnExactRunCodeRow.holds Tryd.pinned (OpenSpec.ofChange fnExactRunCodeWrong)

/-- 'laws.FnCode': WHATEVER THE INPUT: true; the input reads as it did. -/
def fnCodeSpec : ChangeSpec := { name := "fnCode", vars := ["loop.example/g00332/impl.insTakes"], fn := fun _ => fun
  | [d1, d2, g1] => { results := [.lit (.bool true)], args := [d1, d2], vars := [g1] }
  | _ => none }
def fnCodeRow : OpenClaim := { program := "ytcgcaomaofppiaadoor", sum := "f5a0fbcab64df1c29e28c34e1499da4edc062b27661d4d759347b8d8511eae93", func := "loop.example/g00332/laws.FnCode", spec := "fnCode", unfollowed := true, recurses := true, named := ["loop.example/g00332/impl.insTakes"], apart := false, laid := [("loop.example/g00332/impl.insTakes", laid_loop_example_g00332_impl_insTakes)] }
def FnCodeSaid : Prop := fnCodeRow.holds Tryd.pinned (OpenSpec.ofChange fnCodeSpec)

/-- ITS FALSE NEIGHBOUR: 'it returns false'. Refute it at one input. -/
def fnCodeWrong : ChangeSpec := { name := "fnCode", vars := ["loop.example/g00332/impl.insTakes"], fn := fun _ => fun
  | [d1, d2, g1] => { results := [.lit (.bool false)], args := [d1, d2], vars := [g1] }
  | _ => none }
def FnCodeWrongFalsely : Prop := fnCodeRow.holds Tryd.pinned (OpenSpec.ofChange fnCodeWrong)

/- THE SECOND FORM. 'bulk': how many values and letters a reading holds, each counted each time it is reached (what is shared counts as often as it is met; a slice's spare places count too). A statement '..UptoSaid' is the law's where the arguments, and the package variables that the reading takes, are together of bulk at most 1048576: NARROWER than '..Said'. Prove '..Said' where nothing that the law and all that it calls make is longer than what came in: it says more and counts as full. Else prove '..UptoSaid'. A law counts once. -/
mutual
def uptoBulk {H : Type} : DataW H → Nat
  | .lit (.string bytes) => bytes.length + 1
  | .lit _ => 1
  | .nil => 1
  | .ptr d => uptoBulk d + 1
  | .slice elems spare => uptoBulkAll elems + uptoBulkAll spare + 1
  | .agg parts => uptoBulkAll parts + 1
  | .iface _ d => uptoBulk d + 1
  | .map entries => uptoBulkEntries entries + 1
  | .held _ => 1
def uptoBulkAll {H : Type} : List (DataW H) → Nat
  | [] => 0
  | d :: r => uptoBulk d + uptoBulkAll r
def uptoBulkEntries {H : Type} : List (Lit × DataW H) → Nat
  | [] => 0
  | x :: r => uptoBulkEntry x + uptoBulkEntries r
def uptoBulkEntry {H : Type} : Lit × DataW H → Nat
  | (.string bytes, d) => bytes.length + uptoBulk d + 1
  | (_, d) => uptoBulk d + 1
 end
def uptoSmall : (H : Type) → List (DataW H) → Bool := fun _ ds => decide (uptoBulkAll ds ≤ 1048576)
def OpenSpec.upto (s : _root_.Go.ChangeSpec) : _root_.Go.OpenSpec := { _root_.Go.OpenSpec.ofChange s with cond := some uptoSmall }

/-- 'laws.FnExactRunCode', WHERE WHAT IT READS IS OF BULK AT MOST 1048576: true; the input reads as it did. -/
def fnExactRunCodeUptoRow : OpenClaim := { program := "ytcgcaomaofppiaadoor", sum := "f5a0fbcab64df1c29e28c34e1499da4edc062b27661d4d759347b8d8511eae93", func := "loop.example/g00332/laws.FnExactRunCode", spec := "fnExactRunCode", unfollowed := true, recurses := true, named := ["loop.example/g00332/impl.insTakes"], apart := false, laid := [("loop.example/g00332/impl.insTakes", laid_loop_example_g00332_impl_insTakes)], narrowed := true }
def FnExactRunCodeUptoSaid : Prop := fnExactRunCodeUptoRow.holds Tryd.pinned (OpenSpec.upto fnExactRunCodeSpec)

/-- 'laws.FnCode', WHERE WHAT IT READS IS OF BULK AT MOST 1048576: true; the input reads as it did. -/
def fnCodeUptoRow : OpenClaim := { program := "ytcgcaomaofppiaadoor", sum := "f5a0fbcab64df1c29e28c34e1499da4edc062b27661d4d759347b8d8511eae93", func := "loop.example/g00332/laws.FnCode", spec := "fnCode", unfollowed := true, recurses := true, named := ["loop.example/g00332/impl.insTakes"], apart := false, laid := [("loop.example/g00332/impl.insTakes", laid_loop_example_g00332_impl_insTakes)], narrowed := true }
def FnCodeUptoSaid : Prop := fnCodeUptoRow.holds Tryd.pinned (OpenSpec.upto fnCodeSpec)

end Rows
end Go.Proofs.YtcgcaomaofppiaaDoor
