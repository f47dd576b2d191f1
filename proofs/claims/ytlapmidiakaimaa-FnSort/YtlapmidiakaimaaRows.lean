/-
  No cell of these rows narrows 'for every input' (looked for: loops, veiled, ifaces, maps, wideKeys, modest, calm, conditions, laid).
  DERIVED. THE GIVEN ROWS OF THIS SEAT. 5 by the template 'for every input the law returns true; each argument reads behind the call as it read before'; 0 by the template 'total and deterministic' (their statements: YtlapmidiakaimaaTotals.lean).
  GIVEN WITH THE SEED: the statements are not yours to turn. If you find one false, say at which input.
  Laid BY PROGRAM, IN A SANDBOX (cutbox-rows.mjs): the forced cells as the released guide's own fill.sh prints them over the translation 83dbfb64c4b5f7a6… (all of the seat's roots in one cut). By AI agents, Wed Nov 11 2026. No macro, syntax, notation, axiom, sorry.
-/
import Derived.Test.YtlapmidiakaimaaChecked
import GoSem.Claim
import GoSem.ClaimJoined
import GoSem.ClaimMapViews
import Derived.JoinedTies
import Derived.KernelRfl
namespace Go.Proofs.Ytlapmidiakaimaa
/- THE CELL 'sum', in the pinned program and in every row, IS THE sha256 OF THE DUMP (.gsa) THAT YtlapmidiakaimaaProg.lean LOADS. Nothing in Lean hashes anything: it is a label: what it is worth is what the hold of that sum in a sandbox is worth. -/
noncomputable def Try.pinned : Pinned := { name := "ytlapmidiakaimaa", sum := "83dbfb64c4b5f7a6d085886896a9a39e3ba7bdb0dae5cd0246ff2081ae25ecb0", checked := Try.checked }
namespace Rows
def none {H : Type} : Left H := { results := [], args := [] }

/-- 'laws.FnExactStmtOK': WHATEVER THE INPUT: true; the input reads as it did. -/
def fnExactStmtOKSpec : ChangeSpec := { name := "fnExactStmtOK", fn := fun _ => fun
  | [d] => { results := [.lit (.bool true)], args := [d] }
  | _ => none }
def fnExactStmtOKRow : OpenClaim := { program := "ytlapmidiakaimaa", sum := "83dbfb64c4b5f7a6d085886896a9a39e3ba7bdb0dae5cd0246ff2081ae25ecb0", func := "loop.example/g00332/laws.FnExactStmtOK", spec := "fnExactStmtOK", unfollowed := true, recurses := true, apart := false }
def FnExactStmtOKSaid : Prop := fnExactStmtOKRow.holds Try.pinned (OpenSpec.ofChange fnExactStmtOKSpec)

/-- ITS FALSE NEIGHBOUR: 'it returns false'. Refute it at one input. -/
def fnExactStmtOKWrong : ChangeSpec := { name := "fnExactStmtOK", fn := fun _ => fun
  | [d] => { results := [.lit (.bool false)], args := [d] }
  | _ => none }
def FnExactStmtOKWrongFalsely : Prop := fnExactStmtOKRow.holds Try.pinned (OpenSpec.ofChange fnExactStmtOKWrong)

/-- 'laws.FnExactSortRows': WHATEVER THE INPUT: true; the input reads as it did. -/
def fnExactSortRowsSpec : ChangeSpec := { name := "fnExactSortRows", fn := fun _ => fun
  | [d1, d2, d3] => { results := [.lit (.bool true)], args := [d1, d2, d3] }
  | _ => none }
def fnExactSortRowsRow : OpenClaim := { program := "ytlapmidiakaimaa", sum := "83dbfb64c4b5f7a6d085886896a9a39e3ba7bdb0dae5cd0246ff2081ae25ecb0", func := "loop.example/g00332/laws.FnExactSortRows", spec := "fnExactSortRows", inPlace := ["slices.overlaps[loop.example/g00332/impl.Row]"], unfollowed := true, recurses := true, apart := false }
def FnExactSortRowsSaid : Prop := fnExactSortRowsRow.holds Try.pinned (OpenSpec.ofChange fnExactSortRowsSpec)

/-- ITS FALSE NEIGHBOUR: 'it returns false'. Refute it at one input. -/
def fnExactSortRowsWrong : ChangeSpec := { name := "fnExactSortRows", fn := fun _ => fun
  | [d1, d2, d3] => { results := [.lit (.bool false)], args := [d1, d2, d3] }
  | _ => none }
def FnExactSortRowsWrongFalsely : Prop := fnExactSortRowsRow.holds Try.pinned (OpenSpec.ofChange fnExactSortRowsWrong)

/-- 'laws.FnSort': WHATEVER THE INPUT: true; the input reads as it did. -/
def fnSortSpec : ChangeSpec := { name := "fnSort", fn := fun _ => fun
  | [d1, d2] => { results := [.lit (.bool true)], args := [d1, d2] }
  | _ => none }
def fnSortRow : OpenClaim := { program := "ytlapmidiakaimaa", sum := "83dbfb64c4b5f7a6d085886896a9a39e3ba7bdb0dae5cd0246ff2081ae25ecb0", func := "loop.example/g00332/laws.FnSort", spec := "fnSort", inPlace := ["slices.overlaps[loop.example/g00332/impl.Row]"], unfollowed := true, recurses := true, apart := false }
def FnSortSaid : Prop := fnSortRow.holds Try.pinned (OpenSpec.ofChange fnSortSpec)

/-- ITS FALSE NEIGHBOUR: 'it returns false'. Refute it at one input. -/
def fnSortWrong : ChangeSpec := { name := "fnSort", fn := fun _ => fun
  | [d1, d2] => { results := [.lit (.bool false)], args := [d1, d2] }
  | _ => none }
def FnSortWrongFalsely : Prop := fnSortRow.holds Try.pinned (OpenSpec.ofChange fnSortWrong)

/-- 'laws.FnExactEvalExpr': WHATEVER THE INPUT: true; the input reads as it did. -/
def fnExactEvalExprSpec : ChangeSpec := { name := "fnExactEvalExpr", fn := fun _ => fun
  | [d1, d2] => { results := [.lit (.bool true)], args := [d1, d2] }
  | _ => none }
def fnExactEvalExprRow : OpenClaim := { program := "ytlapmidiakaimaa", sum := "83dbfb64c4b5f7a6d085886896a9a39e3ba7bdb0dae5cd0246ff2081ae25ecb0", func := "loop.example/g00332/laws.FnExactEvalExpr", spec := "fnExactEvalExpr", unfollowed := true, recurses := true, apart := false }
def FnExactEvalExprSaid : Prop := fnExactEvalExprRow.holds Try.pinned (OpenSpec.ofChange fnExactEvalExprSpec)

/-- ITS FALSE NEIGHBOUR: 'it returns false'. Refute it at one input. -/
def fnExactEvalExprWrong : ChangeSpec := { name := "fnExactEvalExpr", fn := fun _ => fun
  | [d1, d2] => { results := [.lit (.bool false)], args := [d1, d2] }
  | _ => none }
def FnExactEvalExprWrongFalsely : Prop := fnExactEvalExprRow.holds Try.pinned (OpenSpec.ofChange fnExactEvalExprWrong)

/-- 'laws.FnDenote': WHATEVER THE INPUT: true; the input reads as it did. -/
def fnDenoteSpec : ChangeSpec := { name := "fnDenote", fn := fun _ => fun
  | [d1, d2] => { results := [.lit (.bool true)], args := [d1, d2] }
  | _ => none }
def fnDenoteRow : OpenClaim := { program := "ytlapmidiakaimaa", sum := "83dbfb64c4b5f7a6d085886896a9a39e3ba7bdb0dae5cd0246ff2081ae25ecb0", func := "loop.example/g00332/laws.FnDenote", spec := "fnDenote", inPlace := ["slices.overlaps[loop.example/g00332/impl.Row]"], unfollowed := true, recurses := true, apart := false }
def FnDenoteSaid : Prop := fnDenoteRow.holds Try.pinned (OpenSpec.ofChange fnDenoteSpec)

/-- ITS FALSE NEIGHBOUR: 'it returns false'. Refute it at one input. -/
def fnDenoteWrong : ChangeSpec := { name := "fnDenote", fn := fun _ => fun
  | [d1, d2] => { results := [.lit (.bool false)], args := [d1, d2] }
  | _ => none }
def FnDenoteWrongFalsely : Prop := fnDenoteRow.holds Try.pinned (OpenSpec.ofChange fnDenoteWrong)

/- THE SECOND FORM. 'bulk': how many values and letters a reading holds, each counted each time it is reached (what is shared counts as often as it is met; a slice's spare places count too). A statement '..UptoSaid' is the law's where the arguments, and the package variables that the reading takes, are together of bulk at most 1048576: NARROWER than '..Said'. Prove '..Said' where nothing that the law and all that it calls make is longer than what came in: it says more and counts as full. Else prove '..UptoSaid'. A law counts once. -/
mutual
def uptoBulk {H : Type} : DataW H → Nat
  | .lit (.string bytes) => bytes.length + 1
  | .lit _ => 1
  | .nil => 1
  | .ptr d => uptoBulk d + 1
  | .slice elems spare => uptoBulkAll elems + uptoBulkAll spare + 1
  | .agg parts => uptoBulkAll parts + 1
  | .iface _ d => uptoBulk d + 1
  | .map entries => uptoBulkEntries entries + 1
  | .held _ => 1
def uptoBulkAll {H : Type} : List (DataW H) → Nat
  | [] => 0
  | d :: r => uptoBulk d + uptoBulkAll r
def uptoBulkEntries {H : Type} : List (Lit × DataW H) → Nat
  | [] => 0
  | x :: r => uptoBulkEntry x + uptoBulkEntries r
def uptoBulkEntry {H : Type} : Lit × DataW H → Nat
  | (.string bytes, d) => bytes.length + uptoBulk d + 1
  | (_, d) => uptoBulk d + 1
 end
def uptoSmall : (H : Type) → List (DataW H) → Bool := fun _ ds => decide (uptoBulkAll ds ≤ 1048576)
def OpenSpec.upto (s : _root_.Go.ChangeSpec) : _root_.Go.OpenSpec := { _root_.Go.OpenSpec.ofChange s with cond := some uptoSmall }

/-- 'laws.FnExactStmtOK', WHERE WHAT IT READS IS OF BULK AT MOST 1048576: true; the input reads as it did. -/
def fnExactStmtOKUptoRow : OpenClaim := { program := "ytlapmidiakaimaa", sum := "83dbfb64c4b5f7a6d085886896a9a39e3ba7bdb0dae5cd0246ff2081ae25ecb0", func := "loop.example/g00332/laws.FnExactStmtOK", spec := "fnExactStmtOK", unfollowed := true, recurses := true, apart := false, narrowed := true }
def FnExactStmtOKUptoSaid : Prop := fnExactStmtOKUptoRow.holds Try.pinned (OpenSpec.upto fnExactStmtOKSpec)

/-- 'laws.FnExactSortRows', WHERE WHAT IT READS IS OF BULK AT MOST 1048576: true; the input reads as it did. -/
def fnExactSortRowsUptoRow : OpenClaim := { program := "ytlapmidiakaimaa", sum := "83dbfb64c4b5f7a6d085886896a9a39e3ba7bdb0dae5cd0246ff2081ae25ecb0", func := "loop.example/g00332/laws.FnExactSortRows", spec := "fnExactSortRows", inPlace := ["slices.overlaps[loop.example/g00332/impl.Row]"], unfollowed := true, recurses := true, apart := false, narrowed := true }
def FnExactSortRowsUptoSaid : Prop := fnExactSortRowsUptoRow.holds Try.pinned (OpenSpec.upto fnExactSortRowsSpec)

/-- 'laws.FnSort', WHERE WHAT IT READS IS OF BULK AT MOST 1048576: true; the input reads as it did. -/
def fnSortUptoRow : OpenClaim := { program := "ytlapmidiakaimaa", sum := "83dbfb64c4b5f7a6d085886896a9a39e3ba7bdb0dae5cd0246ff2081ae25ecb0", func := "loop.example/g00332/laws.FnSort", spec := "fnSort", inPlace := ["slices.overlaps[loop.example/g00332/impl.Row]"], unfollowed := true, recurses := true, apart := false, narrowed := true }
def FnSortUptoSaid : Prop := fnSortUptoRow.holds Try.pinned (OpenSpec.upto fnSortSpec)

/-- 'laws.FnExactEvalExpr', WHERE WHAT IT READS IS OF BULK AT MOST 1048576: true; the input reads as it did. -/
def fnExactEvalExprUptoRow : OpenClaim := { program := "ytlapmidiakaimaa", sum := "83dbfb64c4b5f7a6d085886896a9a39e3ba7bdb0dae5cd0246ff2081ae25ecb0", func := "loop.example/g00332/laws.FnExactEvalExpr", spec := "fnExactEvalExpr", unfollowed := true, recurses := true, apart := false, narrowed := true }
def FnExactEvalExprUptoSaid : Prop := fnExactEvalExprUptoRow.holds Try.pinned (OpenSpec.upto fnExactEvalExprSpec)

/-- 'laws.FnDenote', WHERE WHAT IT READS IS OF BULK AT MOST 1048576: true; the input reads as it did. -/
def fnDenoteUptoRow : OpenClaim := { program := "ytlapmidiakaimaa", sum := "83dbfb64c4b5f7a6d085886896a9a39e3ba7bdb0dae5cd0246ff2081ae25ecb0", func := "loop.example/g00332/laws.FnDenote", spec := "fnDenote", inPlace := ["slices.overlaps[loop.example/g00332/impl.Row]"], unfollowed := true, recurses := true, apart := false, narrowed := true }
def FnDenoteUptoSaid : Prop := fnDenoteUptoRow.holds Try.pinned (OpenSpec.upto fnDenoteSpec)

end Rows
end Go.Proofs.Ytlapmidiakaimaa
