/-
  No cell of these rows narrows 'for every input' (looked for: loops, veiled, ifaces, maps, wideKeys, modest, calm, conditions, laid).
  DERIVED. THE GIVEN ROWS OF THIS SEAT. 8 by the template 'for every input the law returns true; each argument reads behind the call as it read before'; 0 by the template 'total and deterministic' (their statements: YtaemdndkajomcaaTotals.lean).
  GIVEN WITH THE SEED: the statements are not yours to turn. If you find one false, say at which input.
  Laid BY PROGRAM, IN A SANDBOX (cutbox-rows.mjs): the forced cells as the released guide's own fill.sh prints them over the translation 2713605ccca694b2… (all of the seat's roots in one cut). By AI agents, Wed Nov 11 2026. No macro, syntax, notation, axiom, sorry.
-/
import Derived.Test.YtaemdndkajomcaaChecked
import GoSem.Claim
import GoSem.ClaimJoined
import GoSem.ClaimMapViews
import Derived.JoinedTies
import Derived.KernelRfl
namespace Go.Proofs.Ytaemdndkajomcaa
/- THE CELL 'sum', in the pinned program and in every row, IS THE sha256 OF THE DUMP (.gsa) THAT YtaemdndkajomcaaProg.lean LOADS. Nothing in Lean hashes anything: it is a label: what it is worth is what the hold of that sum in a sandbox is worth. -/
noncomputable def Try.pinned : Pinned := { name := "ytaemdndkajomcaa", sum := "2713605ccca694b228cd0c4ad67463ffb126b96ae18c6db70d5b4600777548ef", checked := Try.checked }
namespace Rows
def none {H : Type} : Left H := { results := [], args := [] }

/-- 'laws.FnFields': WHATEVER THE INPUT: true; the input reads as it did. -/
def fnFieldsSpec : ChangeSpec := { name := "fnFields", fn := fun _ => fun
  | [d1, d2] => { results := [.lit (.bool true)], args := [d1, d2] }
  | _ => none }
def fnFieldsRow : OpenClaim := { program := "ytaemdndkajomcaa", sum := "2713605ccca694b228cd0c4ad67463ffb126b96ae18c6db70d5b4600777548ef", func := "loop.example/g00332/laws.FnFields", spec := "fnFields", apart := false }
def FnFieldsSaid : Prop := fnFieldsRow.holds Try.pinned (OpenSpec.ofChange fnFieldsSpec)

/-- ITS FALSE NEIGHBOUR: 'it returns false'. Refute it at one input. -/
def fnFieldsWrong : ChangeSpec := { name := "fnFields", fn := fun _ => fun
  | [d1, d2] => { results := [.lit (.bool false)], args := [d1, d2] }
  | _ => none }
def FnFieldsWrongFalsely : Prop := fnFieldsRow.holds Try.pinned (OpenSpec.ofChange fnFieldsWrong)

/-- 'laws.FnExactKeyBytes': WHATEVER THE INPUT: true; the input reads as it did. -/
def fnExactKeyBytesSpec : ChangeSpec := { name := "fnExactKeyBytes", fn := fun _ => fun
  | [d] => { results := [.lit (.bool true)], args := [d] }
  | _ => none }
def fnExactKeyBytesRow : OpenClaim := { program := "ytaemdndkajomcaa", sum := "2713605ccca694b228cd0c4ad67463ffb126b96ae18c6db70d5b4600777548ef", func := "loop.example/g00332/laws.FnExactKeyBytes", spec := "fnExactKeyBytes", apart := false }
def FnExactKeyBytesSaid : Prop := fnExactKeyBytesRow.holds Try.pinned (OpenSpec.ofChange fnExactKeyBytesSpec)

/-- ITS FALSE NEIGHBOUR: 'it returns false'. Refute it at one input. -/
def fnExactKeyBytesWrong : ChangeSpec := { name := "fnExactKeyBytes", fn := fun _ => fun
  | [d] => { results := [.lit (.bool false)], args := [d] }
  | _ => none }
def FnExactKeyBytesWrongFalsely : Prop := fnExactKeyBytesRow.holds Try.pinned (OpenSpec.ofChange fnExactKeyBytesWrong)

/-- 'laws.FnExactReadKey': WHATEVER THE INPUT: true; the input reads as it did. -/
def fnExactReadKeySpec : ChangeSpec := { name := "fnExactReadKey", fn := fun _ => fun
  | [d] => { results := [.lit (.bool true)], args := [d] }
  | _ => none }
def fnExactReadKeyRow : OpenClaim := { program := "ytaemdndkajomcaa", sum := "2713605ccca694b228cd0c4ad67463ffb126b96ae18c6db70d5b4600777548ef", func := "loop.example/g00332/laws.FnExactReadKey", spec := "fnExactReadKey", inPlace := ["internal/bytealg.IndexByte"], apart := false }
def FnExactReadKeySaid : Prop := fnExactReadKeyRow.holds Try.pinned (OpenSpec.ofChange fnExactReadKeySpec)

/-- ITS FALSE NEIGHBOUR: 'it returns false'. Refute it at one input. -/
def fnExactReadKeyWrong : ChangeSpec := { name := "fnExactReadKey", fn := fun _ => fun
  | [d] => { results := [.lit (.bool false)], args := [d] }
  | _ => none }
def FnExactReadKeyWrongFalsely : Prop := fnExactReadKeyRow.holds Try.pinned (OpenSpec.ofChange fnExactReadKeyWrong)

/-- 'laws.FnExactNewPage': WHATEVER THE INPUT: true; the input reads as it did. -/
def fnExactNewPageSpec : ChangeSpec := { name := "fnExactNewPage", fn := fun _ => fun
  | [] => { results := [.lit (.bool true)], args := [] }
  | _ => none }
def fnExactNewPageRow : OpenClaim := { program := "ytaemdndkajomcaa", sum := "2713605ccca694b228cd0c4ad67463ffb126b96ae18c6db70d5b4600777548ef", func := "loop.example/g00332/laws.FnExactNewPage", spec := "fnExactNewPage", apart := false }
def FnExactNewPageSaid : Prop := fnExactNewPageRow.holds Try.pinned (OpenSpec.ofChange fnExactNewPageSpec)

/-- ITS FALSE NEIGHBOUR: 'it returns false'. Refute it at one input. -/
def fnExactNewPageWrong : ChangeSpec := { name := "fnExactNewPage", fn := fun _ => fun
  | [] => { results := [.lit (.bool false)], args := [] }
  | _ => none }
def FnExactNewPageWrongFalsely : Prop := fnExactNewPageRow.holds Try.pinned (OpenSpec.ofChange fnExactNewPageWrong)

/-- 'laws.FnExactPageOK': WHATEVER THE INPUT: true; the input reads as it did. -/
def fnExactPageOKSpec : ChangeSpec := { name := "fnExactPageOK", fn := fun _ => fun
  | [d] => { results := [.lit (.bool true)], args := [d] }
  | _ => none }
def fnExactPageOKRow : OpenClaim := { program := "ytaemdndkajomcaa", sum := "2713605ccca694b228cd0c4ad67463ffb126b96ae18c6db70d5b4600777548ef", func := "loop.example/g00332/laws.FnExactPageOK", spec := "fnExactPageOK", unfollowed := true, recurses := true, apart := false }
def FnExactPageOKSaid : Prop := fnExactPageOKRow.holds Try.pinned (OpenSpec.ofChange fnExactPageOKSpec)

/-- ITS FALSE NEIGHBOUR: 'it returns false'. Refute it at one input. -/
def fnExactPageOKWrong : ChangeSpec := { name := "fnExactPageOK", fn := fun _ => fun
  | [d] => { results := [.lit (.bool false)], args := [d] }
  | _ => none }
def FnExactPageOKWrongFalsely : Prop := fnExactPageOKRow.holds Try.pinned (OpenSpec.ofChange fnExactPageOKWrong)

/-- 'laws.FnExactPageInsert': WHATEVER THE INPUT: true; the input reads as it did. -/
def fnExactPageInsertSpec : ChangeSpec := { name := "fnExactPageInsert", fn := fun _ => fun
  | [d1, d2] => { results := [.lit (.bool true)], args := [d1, d2] }
  | _ => none }
def fnExactPageInsertRow : OpenClaim := { program := "ytaemdndkajomcaa", sum := "2713605ccca694b228cd0c4ad67463ffb126b96ae18c6db70d5b4600777548ef", func := "loop.example/g00332/laws.FnExactPageInsert", spec := "fnExactPageInsert", unfollowed := true, recurses := true, apart := false }
def FnExactPageInsertSaid : Prop := fnExactPageInsertRow.holds Try.pinned (OpenSpec.ofChange fnExactPageInsertSpec)

/-- ITS FALSE NEIGHBOUR: 'it returns false'. Refute it at one input. -/
def fnExactPageInsertWrong : ChangeSpec := { name := "fnExactPageInsert", fn := fun _ => fun
  | [d1, d2] => { results := [.lit (.bool false)], args := [d1, d2] }
  | _ => none }
def FnExactPageInsertWrongFalsely : Prop := fnExactPageInsertRow.holds Try.pinned (OpenSpec.ofChange fnExactPageInsertWrong)

/-- 'laws.FnExactPageSet': WHATEVER THE INPUT: true; the input reads as it did. -/
def fnExactPageSetSpec : ChangeSpec := { name := "fnExactPageSet", fn := fun _ => fun
  | [d1, d2, d3, d4] => { results := [.lit (.bool true)], args := [d1, d2, d3, d4] }
  | _ => none }
def fnExactPageSetRow : OpenClaim := { program := "ytaemdndkajomcaa", sum := "2713605ccca694b228cd0c4ad67463ffb126b96ae18c6db70d5b4600777548ef", func := "loop.example/g00332/laws.FnExactPageSet", spec := "fnExactPageSet", unfollowed := true, recurses := true, apart := false }
def FnExactPageSetSaid : Prop := fnExactPageSetRow.holds Try.pinned (OpenSpec.ofChange fnExactPageSetSpec)

/-- ITS FALSE NEIGHBOUR: 'it returns false'. Refute it at one input. -/
def fnExactPageSetWrong : ChangeSpec := { name := "fnExactPageSet", fn := fun _ => fun
  | [d1, d2, d3, d4] => { results := [.lit (.bool false)], args := [d1, d2, d3, d4] }
  | _ => none }
def FnExactPageSetWrongFalsely : Prop := fnExactPageSetRow.holds Try.pinned (OpenSpec.ofChange fnExactPageSetWrong)

/-- 'laws.FnExactPageUsed': WHATEVER THE INPUT: true; the input reads as it did. -/
def fnExactPageUsedSpec : ChangeSpec := { name := "fnExactPageUsed", fn := fun _ => fun
  | [d] => { results := [.lit (.bool true)], args := [d] }
  | _ => none }
def fnExactPageUsedRow : OpenClaim := { program := "ytaemdndkajomcaa", sum := "2713605ccca694b228cd0c4ad67463ffb126b96ae18c6db70d5b4600777548ef", func := "loop.example/g00332/laws.FnExactPageUsed", spec := "fnExactPageUsed", unfollowed := true, recurses := true, apart := false }
def FnExactPageUsedSaid : Prop := fnExactPageUsedRow.holds Try.pinned (OpenSpec.ofChange fnExactPageUsedSpec)

/-- ITS FALSE NEIGHBOUR: 'it returns false'. Refute it at one input. -/
def fnExactPageUsedWrong : ChangeSpec := { name := "fnExactPageUsed", fn := fun _ => fun
  | [d] => { results := [.lit (.bool false)], args := [d] }
  | _ => none }
def FnExactPageUsedWrongFalsely : Prop := fnExactPageUsedRow.holds Try.pinned (OpenSpec.ofChange fnExactPageUsedWrong)

/- THE SECOND FORM. 'bulk': how many values and letters a reading holds, each counted each time it is reached (what is shared counts as often as it is met; a slice's spare places count too). A statement '..UptoSaid' is the law's where the arguments, and the package variables that the reading takes, are together of bulk at most 1048576: NARROWER than '..Said'. Prove '..Said' where nothing that the law and all that it calls make is longer than what came in: it says more and counts as full. Else prove '..UptoSaid'. A law counts once. -/
mutual
def uptoBulk {H : Type} : DataW H → Nat
  | .lit (.string bytes) => bytes.length + 1
  | .lit _ => 1
  | .nil => 1
  | .ptr d => uptoBulk d + 1
  | .slice elems spare => uptoBulkAll elems + uptoBulkAll spare + 1
  | .agg parts => uptoBulkAll parts + 1
  | .iface _ d => uptoBulk d + 1
  | .map entries => uptoBulkEntries entries + 1
  | .held _ => 1
def uptoBulkAll {H : Type} : List (DataW H) → Nat
  | [] => 0
  | d :: r => uptoBulk d + uptoBulkAll r
def uptoBulkEntries {H : Type} : List (Lit × DataW H) → Nat
  | [] => 0
  | x :: r => uptoBulkEntry x + uptoBulkEntries r
def uptoBulkEntry {H : Type} : Lit × DataW H → Nat
  | (.string bytes, d) => bytes.length + uptoBulk d + 1
  | (_, d) => uptoBulk d + 1
 end
def uptoSmall : (H : Type) → List (DataW H) → Bool := fun _ ds => decide (uptoBulkAll ds ≤ 1048576)
def OpenSpec.upto (s : _root_.Go.ChangeSpec) : _root_.Go.OpenSpec := { _root_.Go.OpenSpec.ofChange s with cond := some uptoSmall }

/-- 'laws.FnFields', WHERE WHAT IT READS IS OF BULK AT MOST 1048576: true; the input reads as it did. -/
def fnFieldsUptoRow : OpenClaim := { program := "ytaemdndkajomcaa", sum := "2713605ccca694b228cd0c4ad67463ffb126b96ae18c6db70d5b4600777548ef", func := "loop.example/g00332/laws.FnFields", spec := "fnFields", apart := false, narrowed := true }
def FnFieldsUptoSaid : Prop := fnFieldsUptoRow.holds Try.pinned (OpenSpec.upto fnFieldsSpec)

/-- 'laws.FnExactKeyBytes', WHERE WHAT IT READS IS OF BULK AT MOST 1048576: true; the input reads as it did. -/
def fnExactKeyBytesUptoRow : OpenClaim := { program := "ytaemdndkajomcaa", sum := "2713605ccca694b228cd0c4ad67463ffb126b96ae18c6db70d5b4600777548ef", func := "loop.example/g00332/laws.FnExactKeyBytes", spec := "fnExactKeyBytes", apart := false, narrowed := true }
def FnExactKeyBytesUptoSaid : Prop := fnExactKeyBytesUptoRow.holds Try.pinned (OpenSpec.upto fnExactKeyBytesSpec)

/-- 'laws.FnExactReadKey', WHERE WHAT IT READS IS OF BULK AT MOST 1048576: true; the input reads as it did. -/
def fnExactReadKeyUptoRow : OpenClaim := { program := "ytaemdndkajomcaa", sum := "2713605ccca694b228cd0c4ad67463ffb126b96ae18c6db70d5b4600777548ef", func := "loop.example/g00332/laws.FnExactReadKey", spec := "fnExactReadKey", inPlace := ["internal/bytealg.IndexByte"], apart := false, narrowed := true }
def FnExactReadKeyUptoSaid : Prop := fnExactReadKeyUptoRow.holds Try.pinned (OpenSpec.upto fnExactReadKeySpec)

/-- 'laws.FnExactNewPage', WHERE WHAT IT READS IS OF BULK AT MOST 1048576: true; the input reads as it did. -/
def fnExactNewPageUptoRow : OpenClaim := { program := "ytaemdndkajomcaa", sum := "2713605ccca694b228cd0c4ad67463ffb126b96ae18c6db70d5b4600777548ef", func := "loop.example/g00332/laws.FnExactNewPage", spec := "fnExactNewPage", apart := false, narrowed := true }
def FnExactNewPageUptoSaid : Prop := fnExactNewPageUptoRow.holds Try.pinned (OpenSpec.upto fnExactNewPageSpec)

/-- 'laws.FnExactPageOK', WHERE WHAT IT READS IS OF BULK AT MOST 1048576: true; the input reads as it did. -/
def fnExactPageOKUptoRow : OpenClaim := { program := "ytaemdndkajomcaa", sum := "2713605ccca694b228cd0c4ad67463ffb126b96ae18c6db70d5b4600777548ef", func := "loop.example/g00332/laws.FnExactPageOK", spec := "fnExactPageOK", unfollowed := true, recurses := true, apart := false, narrowed := true }
def FnExactPageOKUptoSaid : Prop := fnExactPageOKUptoRow.holds Try.pinned (OpenSpec.upto fnExactPageOKSpec)

/-- 'laws.FnExactPageInsert', WHERE WHAT IT READS IS OF BULK AT MOST 1048576: true; the input reads as it did. -/
def fnExactPageInsertUptoRow : OpenClaim := { program := "ytaemdndkajomcaa", sum := "2713605ccca694b228cd0c4ad67463ffb126b96ae18c6db70d5b4600777548ef", func := "loop.example/g00332/laws.FnExactPageInsert", spec := "fnExactPageInsert", unfollowed := true, recurses := true, apart := false, narrowed := true }
def FnExactPageInsertUptoSaid : Prop := fnExactPageInsertUptoRow.holds Try.pinned (OpenSpec.upto fnExactPageInsertSpec)

/-- 'laws.FnExactPageSet', WHERE WHAT IT READS IS OF BULK AT MOST 1048576: true; the input reads as it did. -/
def fnExactPageSetUptoRow : OpenClaim := { program := "ytaemdndkajomcaa", sum := "2713605ccca694b228cd0c4ad67463ffb126b96ae18c6db70d5b4600777548ef", func := "loop.example/g00332/laws.FnExactPageSet", spec := "fnExactPageSet", unfollowed := true, recurses := true, apart := false, narrowed := true }
def FnExactPageSetUptoSaid : Prop := fnExactPageSetUptoRow.holds Try.pinned (OpenSpec.upto fnExactPageSetSpec)

/-- 'laws.FnExactPageUsed', WHERE WHAT IT READS IS OF BULK AT MOST 1048576: true; the input reads as it did. -/
def fnExactPageUsedUptoRow : OpenClaim := { program := "ytaemdndkajomcaa", sum := "2713605ccca694b228cd0c4ad67463ffb126b96ae18c6db70d5b4600777548ef", func := "loop.example/g00332/laws.FnExactPageUsed", spec := "fnExactPageUsed", unfollowed := true, recurses := true, apart := false, narrowed := true }
def FnExactPageUsedUptoSaid : Prop := fnExactPageUsedUptoRow.holds Try.pinned (OpenSpec.upto fnExactPageUsedSpec)

end Rows
end Go.Proofs.Ytaemdndkajomcaa
