/-
  No cell of these rows narrows 'for every input' (looked for: loops, veiled, ifaces, maps, wideKeys, modest, calm, conditions, laid).
  DERIVED. THE GIVEN ROWS OF THIS SEAT. 4 by the template 'for every input the law returns true; each argument reads behind the call as it read before'; 0 by the template 'total and deterministic' (their statements: YtlekadgnfehboaaTotals.lean).
  GIVEN WITH THE SEED: the statements are not yours to turn. If you find one false, say at which input.
  Laid BY PROGRAM, IN A SANDBOX (cutbox-rows.mjs): the forced cells as the released guide's own fill.sh prints them over the translation d481a105992a9d39… (all of the seat's roots in one cut). By AI agents, Wed Nov 11 2026. No macro, syntax, notation, axiom, sorry.
-/
import Derived.Test.YtlekadgnfehboaaChecked
import GoSem.Claim
import GoSem.ClaimJoined
import GoSem.ClaimMapViews
import Derived.JoinedTies
import Derived.KernelRfl
namespace Go.Proofs.Ytlekadgnfehboaa
/- THE CELL 'sum', in the pinned program and in every row, IS THE sha256 OF THE DUMP (.gsa) THAT YtlekadgnfehboaaProg.lean LOADS. Nothing in Lean hashes anything: it is a label: what it is worth is what the hold of that sum in a sandbox is worth. -/
noncomputable def Try.pinned : Pinned := { name := "ytlekadgnfehboaa", sum := "d481a105992a9d3938b4661c3ca170d97e2169433c03bc1fb9a6b141154a3043", checked := Try.checked }
namespace Rows
def none {H : Type} : Left H := { results := [], args := [] }

/-- 'laws.FnExactExprOK': WHATEVER THE INPUT: true; the input reads as it did. -/
def fnExactExprOKSpec : ChangeSpec := { name := "fnExactExprOK", fn := fun _ => fun
  | [d] => { results := [.lit (.bool true)], args := [d] }
  | _ => none }
def fnExactExprOKRow : OpenClaim := { program := "ytlekadgnfehboaa", sum := "d481a105992a9d3938b4661c3ca170d97e2169433c03bc1fb9a6b141154a3043", func := "loop.example/g00332/laws.FnExactExprOK", spec := "fnExactExprOK", unfollowed := true, recurses := true, apart := false }
def FnExactExprOKSaid : Prop := fnExactExprOKRow.holds Try.pinned (OpenSpec.ofChange fnExactExprOKSpec)

/-- ITS FALSE NEIGHBOUR: 'it returns false'. Refute it at one input. -/
def fnExactExprOKWrong : ChangeSpec := { name := "fnExactExprOK", fn := fun _ => fun
  | [d] => { results := [.lit (.bool false)], args := [d] }
  | _ => none }
def FnExactExprOKWrongFalsely : Prop := fnExactExprOKRow.holds Try.pinned (OpenSpec.ofChange fnExactExprOKWrong)

/-- 'laws.FnExactEvalExpr': WHATEVER THE INPUT: true; the input reads as it did. -/
def fnExactEvalExprSpec : ChangeSpec := { name := "fnExactEvalExpr", fn := fun _ => fun
  | [d1, d2] => { results := [.lit (.bool true)], args := [d1, d2] }
  | _ => none }
def fnExactEvalExprRow : OpenClaim := { program := "ytlekadgnfehboaa", sum := "d481a105992a9d3938b4661c3ca170d97e2169433c03bc1fb9a6b141154a3043", func := "loop.example/g00332/laws.FnExactEvalExpr", spec := "fnExactEvalExpr", unfollowed := true, recurses := true, apart := false }
def FnExactEvalExprSaid : Prop := fnExactEvalExprRow.holds Try.pinned (OpenSpec.ofChange fnExactEvalExprSpec)

/-- ITS FALSE NEIGHBOUR: 'it returns false'. Refute it at one input. -/
def fnExactEvalExprWrong : ChangeSpec := { name := "fnExactEvalExpr", fn := fun _ => fun
  | [d1, d2] => { results := [.lit (.bool false)], args := [d1, d2] }
  | _ => none }
def FnExactEvalExprWrongFalsely : Prop := fnExactEvalExprRow.holds Try.pinned (OpenSpec.ofChange fnExactEvalExprWrong)

/-- 'laws.FnExactBinaryValue': WHATEVER THE INPUT: true; the input reads as it did. -/
def fnExactBinaryValueSpec : ChangeSpec := { name := "fnExactBinaryValue", fn := fun _ => fun
  | [d1, d2, d3] => { results := [.lit (.bool true)], args := [d1, d2, d3] }
  | _ => none }
def fnExactBinaryValueRow : OpenClaim := { program := "ytlekadgnfehboaa", sum := "d481a105992a9d3938b4661c3ca170d97e2169433c03bc1fb9a6b141154a3043", func := "loop.example/g00332/laws.FnExactBinaryValue", spec := "fnExactBinaryValue", unfollowed := true, recurses := true, apart := false }
def FnExactBinaryValueSaid : Prop := fnExactBinaryValueRow.holds Try.pinned (OpenSpec.ofChange fnExactBinaryValueSpec)

/-- ITS FALSE NEIGHBOUR: 'it returns false'. Refute it at one input. -/
def fnExactBinaryValueWrong : ChangeSpec := { name := "fnExactBinaryValue", fn := fun _ => fun
  | [d1, d2, d3] => { results := [.lit (.bool false)], args := [d1, d2, d3] }
  | _ => none }
def FnExactBinaryValueWrongFalsely : Prop := fnExactBinaryValueRow.holds Try.pinned (OpenSpec.ofChange fnExactBinaryValueWrong)

/-- 'laws.FnValues': WHATEVER THE INPUT: true; the input reads as it did. -/
def fnValuesSpec : ChangeSpec := { name := "fnValues", fn := fun _ => fun
  | [d1, d2] => { results := [.lit (.bool true)], args := [d1, d2] }
  | _ => none }
def fnValuesRow : OpenClaim := { program := "ytlekadgnfehboaa", sum := "d481a105992a9d3938b4661c3ca170d97e2169433c03bc1fb9a6b141154a3043", func := "loop.example/g00332/laws.FnValues", spec := "fnValues", unfollowed := true, recurses := true, apart := false }
def FnValuesSaid : Prop := fnValuesRow.holds Try.pinned (OpenSpec.ofChange fnValuesSpec)

/-- ITS FALSE NEIGHBOUR: 'it returns false'. Refute it at one input. -/
def fnValuesWrong : ChangeSpec := { name := "fnValues", fn := fun _ => fun
  | [d1, d2] => { results := [.lit (.bool false)], args := [d1, d2] }
  | _ => none }
def FnValuesWrongFalsely : Prop := fnValuesRow.holds Try.pinned (OpenSpec.ofChange fnValuesWrong)

/- THE SECOND FORM. 'bulk': how many values and letters a reading holds, each counted each time it is reached (what is shared counts as often as it is met; a slice's spare places count too). A statement '..UptoSaid' is the law's where the arguments, and the package variables that the reading takes, are together of bulk at most 1048576: NARROWER than '..Said'. Prove '..Said' where nothing that the law and all that it calls make is longer than what came in: it says more and counts as full. Else prove '..UptoSaid'. A law counts once. -/
mutual
def uptoBulk {H : Type} : DataW H → Nat
  | .lit (.string bytes) => bytes.length + 1
  | .lit _ => 1
  | .nil => 1
  | .ptr d => uptoBulk d + 1
  | .slice elems spare => uptoBulkAll elems + uptoBulkAll spare + 1
  | .agg parts => uptoBulkAll parts + 1
  | .iface _ d => uptoBulk d + 1
  | .map entries => uptoBulkEntries entries + 1
  | .held _ => 1
def uptoBulkAll {H : Type} : List (DataW H) → Nat
  | [] => 0
  | d :: r => uptoBulk d + uptoBulkAll r
def uptoBulkEntries {H : Type} : List (Lit × DataW H) → Nat
  | [] => 0
  | x :: r => uptoBulkEntry x + uptoBulkEntries r
def uptoBulkEntry {H : Type} : Lit × DataW H → Nat
  | (.string bytes, d) => bytes.length + uptoBulk d + 1
  | (_, d) => uptoBulk d + 1
 end
def uptoSmall : (H : Type) → List (DataW H) → Bool := fun _ ds => decide (uptoBulkAll ds ≤ 1048576)
def OpenSpec.upto (s : _root_.Go.ChangeSpec) : _root_.Go.OpenSpec := { _root_.Go.OpenSpec.ofChange s with cond := some uptoSmall }

/-- 'laws.FnExactExprOK', WHERE WHAT IT READS IS OF BULK AT MOST 1048576: true; the input reads as it did. -/
def fnExactExprOKUptoRow : OpenClaim := { program := "ytlekadgnfehboaa", sum := "d481a105992a9d3938b4661c3ca170d97e2169433c03bc1fb9a6b141154a3043", func := "loop.example/g00332/laws.FnExactExprOK", spec := "fnExactExprOK", unfollowed := true, recurses := true, apart := false, narrowed := true }
def FnExactExprOKUptoSaid : Prop := fnExactExprOKUptoRow.holds Try.pinned (OpenSpec.upto fnExactExprOKSpec)

/-- 'laws.FnExactEvalExpr', WHERE WHAT IT READS IS OF BULK AT MOST 1048576: true; the input reads as it did. -/
def fnExactEvalExprUptoRow : OpenClaim := { program := "ytlekadgnfehboaa", sum := "d481a105992a9d3938b4661c3ca170d97e2169433c03bc1fb9a6b141154a3043", func := "loop.example/g00332/laws.FnExactEvalExpr", spec := "fnExactEvalExpr", unfollowed := true, recurses := true, apart := false, narrowed := true }
def FnExactEvalExprUptoSaid : Prop := fnExactEvalExprUptoRow.holds Try.pinned (OpenSpec.upto fnExactEvalExprSpec)

/-- 'laws.FnExactBinaryValue', WHERE WHAT IT READS IS OF BULK AT MOST 1048576: true; the input reads as it did. -/
def fnExactBinaryValueUptoRow : OpenClaim := { program := "ytlekadgnfehboaa", sum := "d481a105992a9d3938b4661c3ca170d97e2169433c03bc1fb9a6b141154a3043", func := "loop.example/g00332/laws.FnExactBinaryValue", spec := "fnExactBinaryValue", unfollowed := true, recurses := true, apart := false, narrowed := true }
def FnExactBinaryValueUptoSaid : Prop := fnExactBinaryValueUptoRow.holds Try.pinned (OpenSpec.upto fnExactBinaryValueSpec)

/-- 'laws.FnValues', WHERE WHAT IT READS IS OF BULK AT MOST 1048576: true; the input reads as it did. -/
def fnValuesUptoRow : OpenClaim := { program := "ytlekadgnfehboaa", sum := "d481a105992a9d3938b4661c3ca170d97e2169433c03bc1fb9a6b141154a3043", func := "loop.example/g00332/laws.FnValues", spec := "fnValues", unfollowed := true, recurses := true, apart := false, narrowed := true }
def FnValuesUptoSaid : Prop := fnValuesUptoRow.holds Try.pinned (OpenSpec.upto fnValuesSpec)

end Rows
end Go.Proofs.Ytlekadgnfehboaa
