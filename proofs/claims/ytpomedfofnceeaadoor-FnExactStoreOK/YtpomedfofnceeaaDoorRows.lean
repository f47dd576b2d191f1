/-
  NARROWER THAN 'FOR EVERY INPUT', by the rows' own cells (each row's printed sentence says how): FnExactNewEngine: laid · FnExactNewStore: laid · FnExactStoreOK: laid · FnExactReadLog: laid · FnExactHeaderBytes: laid · FnExactRecordBytes: laid · FnExactReadRecord: laid · FnExactPageBytes: laid · FnExactReadPage: laid.
  DERIVED. THE GIVEN ROWS OF THIS SEAT. 9 by the template 'for every input the law returns true; each argument reads behind the call as it read before'; 0 by the template 'total and deterministic' (their statements: YtpomedfofnceeaaDoorTotals.lean).
  GIVEN WITH THE SEED: the statements are not yours to turn. If you find one false, say at which input.
  Laid BY PROGRAM, IN A SANDBOX (cutbox-rows.mjs): the forced cells as the released guide's own fill.sh prints them over the translation eee6bddba668d470… (all of the seat's roots in one cut). By AI agents, Wed Nov 11 2026. No macro, syntax, notation, axiom, sorry.
-/
import Derived.Test.YtpomedfofnceeaaDoorChecked
import GoSem.Claim
import GoSem.ClaimJoined
import GoSem.ClaimMapViews
import Derived.JoinedTies
import Derived.KernelRfl
namespace Go.Proofs.YtpomedfofnceeaaDoor
/- THE CELL 'sum', in the pinned program and in every row, IS THE sha256 OF THE DUMP (.gsa) THAT YtpomedfofnceeaaDoorProg.lean LOADS. Nothing in Lean hashes anything: it is a label: what it is worth is what the hold of that sum in a sandbox is worth. -/
noncomputable def Tryd.pinned : Pinned := { name := "ytpomedfofnceeaadoor", sum := "eee6bddba668d470dbe1a32cd464129333968cfaf404d9e8bdaced1b31d10625", checked := Tryd.checked }
namespace Rows
def none {H : Type} : Left H := { results := [], args := [] }

/- WHAT THE LISTED PACKAGE-LEVEL VARIABLES READ AS WHEN THE CALL BEGINS. Each datum BY PROGRAM (the guide's laid-datum.mjs) off the statement by which the dump's own 'gosem.cut.vars' lays the variable. In a bare row this is a premise. The card (YtpomedfofnceeaaDoorCards.lean) ties it to the program's text. -/
def laid_loop_example_g00332_impl_halfByteSums {H : Type} : DataW H := .agg [.lit (.int .u32 0), .lit (.int .u32 498536548), .lit (.int .u32 997073096), .lit (.int .u32 651767980), .lit (.int .u32 1994146192), .lit (.int .u32 1802195444), .lit (.int .u32 1303535960), .lit (.int .u32 1342533948), .lit (.int .u32 3988292384), .lit (.int .u32 4027552580), .lit (.int .u32 3604390888), .lit (.int .u32 3412177804), .lit (.int .u32 2607071920), .lit (.int .u32 2262029012), .lit (.int .u32 2685067896), .lit (.int .u32 3183342108)]

/-- 'laws.FnExactNewEngine': WHATEVER THE INPUT: true; the input reads as it did. -/
def fnExactNewEngineSpec : ChangeSpec := { name := "fnExactNewEngine", vars := ["loop.example/g00332/impl.halfByteSums"], fn := fun _ => fun
  | [g1] => { results := [.lit (.bool true)], args := [], vars := [g1] }
  | _ => none }
def fnExactNewEngineRow : OpenClaim := { program := "ytpomedfofnceeaadoor", sum := "eee6bddba668d470dbe1a32cd464129333968cfaf404d9e8bdaced1b31d10625", func := "loop.example/g00332/laws.FnExactNewEngine", spec := "fnExactNewEngine", named := ["loop.example/g00332/impl.halfByteSums"], apart := false, laid := [("loop.example/g00332/impl.halfByteSums", laid_loop_example_g00332_impl_halfByteSums)] }
def FnExactNewEngineSaid : Prop := fnExactNewEngineRow.holds Tryd.pinned (OpenSpec.ofChange fnExactNewEngineSpec)

/-- ITS FALSE NEIGHBOUR: 'it returns false'. Refute it at one input. -/
def fnExactNewEngineWrong : ChangeSpec := { name := "fnExactNewEngine", vars := ["loop.example/g00332/impl.halfByteSums"], fn := fun _ => fun
  | [g1] => { results := [.lit (.bool false)], args := [], vars := [g1] }
  | _ => none }
def FnExactNewEngineWrongFalsely : Prop := fnExactNewEngineRow.holds Tryd.pinned (OpenSpec.ofChange fnExactNewEngineWrong)

/-- 'laws.FnExactNewStore': WHATEVER THE INPUT: true; the input reads as it did. -/
def fnExactNewStoreSpec : ChangeSpec := { name := "fnExactNewStore", vars := ["loop.example/g00332/impl.halfByteSums"], fn := fun _ => fun
  | [g1] => { results := [.lit (.bool true)], args := [], vars := [g1] }
  | _ => none }
def fnExactNewStoreRow : OpenClaim := { program := "ytpomedfofnceeaadoor", sum := "eee6bddba668d470dbe1a32cd464129333968cfaf404d9e8bdaced1b31d10625", func := "loop.example/g00332/laws.FnExactNewStore", spec := "fnExactNewStore", named := ["loop.example/g00332/impl.halfByteSums"], apart := false, laid := [("loop.example/g00332/impl.halfByteSums", laid_loop_example_g00332_impl_halfByteSums)] }
def FnExactNewStoreSaid : Prop := fnExactNewStoreRow.holds Tryd.pinned (OpenSpec.ofChange fnExactNewStoreSpec)

/-- ITS FALSE NEIGHBOUR: 'it returns false'. Refute it at one input. -/
def fnExactNewStoreWrong : ChangeSpec := { name := "fnExactNewStore", vars := ["loop.example/g00332/impl.halfByteSums"], fn := fun _ => fun
  | [g1] => { results := [.lit (.bool false)], args := [], vars := [g1] }
  | _ => none }
def FnExactNewStoreWrongFalsely : Prop := fnExactNewStoreRow.holds Tryd.pinned (OpenSpec.ofChange fnExactNewStoreWrong)

/-- 'laws.FnExactStoreOK': WHATEVER THE INPUT: true; the input reads as it did. -/
def fnExactStoreOKSpec : ChangeSpec := { name := "fnExactStoreOK", vars := ["loop.example/g00332/impl.halfByteSums"], fn := fun _ => fun
  | [d, g1] => { results := [.lit (.bool true)], args := [d], vars := [g1] }
  | _ => none }
def fnExactStoreOKRow : OpenClaim := { program := "ytpomedfofnceeaadoor", sum := "eee6bddba668d470dbe1a32cd464129333968cfaf404d9e8bdaced1b31d10625", func := "loop.example/g00332/laws.FnExactStoreOK", spec := "fnExactStoreOK", unfollowed := true, recurses := true, named := ["loop.example/g00332/impl.halfByteSums"], apart := false, laid := [("loop.example/g00332/impl.halfByteSums", laid_loop_example_g00332_impl_halfByteSums)] }
def FnExactStoreOKSaid : Prop := fnExactStoreOKRow.holds Tryd.pinned (OpenSpec.ofChange fnExactStoreOKSpec)

/-- ITS FALSE NEIGHBOUR: 'it returns false'. Refute it at one input. -/
def fnExactStoreOKWrong : ChangeSpec := { name := "fnExactStoreOK", vars := ["loop.example/g00332/impl.halfByteSums"], fn := fun _ => fun
  | [d, g1] => { results := [.lit (.bool false)], args := [d], vars := [g1] }
  | _ => none }
def FnExactStoreOKWrongFalsely : Prop := fnExactStoreOKRow.holds Tryd.pinned (OpenSpec.ofChange fnExactStoreOKWrong)

/-- 'laws.FnExactReadLog': WHATEVER THE INPUT: true; the input reads as it did. -/
def fnExactReadLogSpec : ChangeSpec := { name := "fnExactReadLog", vars := ["loop.example/g00332/impl.halfByteSums"], fn := fun _ => fun
  | [d1, d2, g1] => { results := [.lit (.bool true)], args := [d1, d2], vars := [g1] }
  | _ => none }
def fnExactReadLogRow : OpenClaim := { program := "ytpomedfofnceeaadoor", sum := "eee6bddba668d470dbe1a32cd464129333968cfaf404d9e8bdaced1b31d10625", func := "loop.example/g00332/laws.FnExactReadLog", spec := "fnExactReadLog", unfollowed := true, recurses := true, named := ["loop.example/g00332/impl.halfByteSums"], apart := false, laid := [("loop.example/g00332/impl.halfByteSums", laid_loop_example_g00332_impl_halfByteSums)] }
def FnExactReadLogSaid : Prop := fnExactReadLogRow.holds Tryd.pinned (OpenSpec.ofChange fnExactReadLogSpec)

/-- ITS FALSE NEIGHBOUR: 'it returns false'. Refute it at one input. -/
def fnExactReadLogWrong : ChangeSpec := { name := "fnExactReadLog", vars := ["loop.example/g00332/impl.halfByteSums"], fn := fun _ => fun
  | [d1, d2, g1] => { results := [.lit (.bool false)], args := [d1, d2], vars := [g1] }
  | _ => none }
def FnExactReadLogWrongFalsely : Prop := fnExactReadLogRow.holds Tryd.pinned (OpenSpec.ofChange fnExactReadLogWrong)

/-- 'laws.FnExactHeaderBytes': WHATEVER THE INPUT: true; the input reads as it did. -/
def fnExactHeaderBytesSpec : ChangeSpec := { name := "fnExactHeaderBytes", vars := ["loop.example/g00332/impl.halfByteSums"], fn := fun _ => fun
  | [d, g1] => { results := [.lit (.bool true)], args := [d], vars := [g1] }
  | _ => none }
def fnExactHeaderBytesRow : OpenClaim := { program := "ytpomedfofnceeaadoor", sum := "eee6bddba668d470dbe1a32cd464129333968cfaf404d9e8bdaced1b31d10625", func := "loop.example/g00332/laws.FnExactHeaderBytes", spec := "fnExactHeaderBytes", named := ["loop.example/g00332/impl.halfByteSums"], apart := false, laid := [("loop.example/g00332/impl.halfByteSums", laid_loop_example_g00332_impl_halfByteSums)] }
def FnExactHeaderBytesSaid : Prop := fnExactHeaderBytesRow.holds Tryd.pinned (OpenSpec.ofChange fnExactHeaderBytesSpec)

/-- ITS FALSE NEIGHBOUR: 'it returns false'. Refute it at one input. -/
def fnExactHeaderBytesWrong : ChangeSpec := { name := "fnExactHeaderBytes", vars := ["loop.example/g00332/impl.halfByteSums"], fn := fun _ => fun
  | [d, g1] => { results := [.lit (.bool false)], args := [d], vars := [g1] }
  | _ => none }
def FnExactHeaderBytesWrongFalsely : Prop := fnExactHeaderBytesRow.holds Tryd.pinned (OpenSpec.ofChange fnExactHeaderBytesWrong)

/-- 'laws.FnExactRecordBytes': WHATEVER THE INPUT: true; the input reads as it did. -/
def fnExactRecordBytesSpec : ChangeSpec := { name := "fnExactRecordBytes", vars := ["loop.example/g00332/impl.halfByteSums"], fn := fun _ => fun
  | [d, g1] => { results := [.lit (.bool true)], args := [d], vars := [g1] }
  | _ => none }
def fnExactRecordBytesRow : OpenClaim := { program := "ytpomedfofnceeaadoor", sum := "eee6bddba668d470dbe1a32cd464129333968cfaf404d9e8bdaced1b31d10625", func := "loop.example/g00332/laws.FnExactRecordBytes", spec := "fnExactRecordBytes", named := ["loop.example/g00332/impl.halfByteSums"], apart := false, laid := [("loop.example/g00332/impl.halfByteSums", laid_loop_example_g00332_impl_halfByteSums)] }
def FnExactRecordBytesSaid : Prop := fnExactRecordBytesRow.holds Tryd.pinned (OpenSpec.ofChange fnExactRecordBytesSpec)

/-- ITS FALSE NEIGHBOUR: 'it returns false'. Refute it at one input. -/
def fnExactRecordBytesWrong : ChangeSpec := { name := "fnExactRecordBytes", vars := ["loop.example/g00332/impl.halfByteSums"], fn := fun _ => fun
  | [d, g1] => { results := [.lit (.bool false)], args := [d], vars := [g1] }
  | _ => none }
def FnExactRecordBytesWrongFalsely : Prop := fnExactRecordBytesRow.holds Tryd.pinned (OpenSpec.ofChange fnExactRecordBytesWrong)

/-- 'laws.FnExactReadRecord': WHATEVER THE INPUT: true; the input reads as it did. -/
def fnExactReadRecordSpec : ChangeSpec := { name := "fnExactReadRecord", vars := ["loop.example/g00332/impl.halfByteSums"], fn := fun _ => fun
  | [d, g1] => { results := [.lit (.bool true)], args := [d], vars := [g1] }
  | _ => none }
def fnExactReadRecordRow : OpenClaim := { program := "ytpomedfofnceeaadoor", sum := "eee6bddba668d470dbe1a32cd464129333968cfaf404d9e8bdaced1b31d10625", func := "loop.example/g00332/laws.FnExactReadRecord", spec := "fnExactReadRecord", named := ["loop.example/g00332/impl.halfByteSums"], apart := false, laid := [("loop.example/g00332/impl.halfByteSums", laid_loop_example_g00332_impl_halfByteSums)] }
def FnExactReadRecordSaid : Prop := fnExactReadRecordRow.holds Tryd.pinned (OpenSpec.ofChange fnExactReadRecordSpec)

/-- ITS FALSE NEIGHBOUR: 'it returns false'. Refute it at one input. -/
def fnExactReadRecordWrong : ChangeSpec := { name := "fnExactReadRecord", vars := ["loop.example/g00332/impl.halfByteSums"], fn := fun _ => fun
  | [d, g1] => { results := [.lit (.bool false)], args := [d], vars := [g1] }
  | _ => none }
def FnExactReadRecordWrongFalsely : Prop := fnExactReadRecordRow.holds Tryd.pinned (OpenSpec.ofChange fnExactReadRecordWrong)

/-- 'laws.FnExactPageBytes': WHATEVER THE INPUT: true; the input reads as it did. -/
def fnExactPageBytesSpec : ChangeSpec := { name := "fnExactPageBytes", vars := ["loop.example/g00332/impl.halfByteSums"], fn := fun _ => fun
  | [d1, d2, g1] => { results := [.lit (.bool true)], args := [d1, d2], vars := [g1] }
  | _ => none }
def fnExactPageBytesRow : OpenClaim := { program := "ytpomedfofnceeaadoor", sum := "eee6bddba668d470dbe1a32cd464129333968cfaf404d9e8bdaced1b31d10625", func := "loop.example/g00332/laws.FnExactPageBytes", spec := "fnExactPageBytes", unfollowed := true, recurses := true, named := ["loop.example/g00332/impl.halfByteSums"], apart := false, laid := [("loop.example/g00332/impl.halfByteSums", laid_loop_example_g00332_impl_halfByteSums)] }
def FnExactPageBytesSaid : Prop := fnExactPageBytesRow.holds Tryd.pinned (OpenSpec.ofChange fnExactPageBytesSpec)

/-- ITS FALSE NEIGHBOUR: 'it returns false'. Refute it at one input. -/
def fnExactPageBytesWrong : ChangeSpec := { name := "fnExactPageBytes", vars := ["loop.example/g00332/impl.halfByteSums"], fn := fun _ => fun
  | [d1, d2, g1] => { results := [.lit (.bool false)], args := [d1, d2], vars := [g1] }
  | _ => none }
def FnExactPageBytesWrongFalsely : Prop := fnExactPageBytesRow.holds Tryd.pinned (OpenSpec.ofChange fnExactPageBytesWrong)

/-- 'laws.FnExactReadPage': WHATEVER THE INPUT: true; the input reads as it did. -/
def fnExactReadPageSpec : ChangeSpec := { name := "fnExactReadPage", vars := ["loop.example/g00332/impl.halfByteSums"], fn := fun _ => fun
  | [d1, d2, g1] => { results := [.lit (.bool true)], args := [d1, d2], vars := [g1] }
  | _ => none }
def fnExactReadPageRow : OpenClaim := { program := "ytpomedfofnceeaadoor", sum := "eee6bddba668d470dbe1a32cd464129333968cfaf404d9e8bdaced1b31d10625", func := "loop.example/g00332/laws.FnExactReadPage", spec := "fnExactReadPage", unfollowed := true, recurses := true, named := ["loop.example/g00332/impl.halfByteSums"], apart := false, laid := [("loop.example/g00332/impl.halfByteSums", laid_loop_example_g00332_impl_halfByteSums)] }
def FnExactReadPageSaid : Prop := fnExactReadPageRow.holds Tryd.pinned (OpenSpec.ofChange fnExactReadPageSpec)

/-- ITS FALSE NEIGHBOUR: 'it returns false'. Refute it at one input. -/
def fnExactReadPageWrong : ChangeSpec := { name := "fnExactReadPage", vars := ["loop.example/g00332/impl.halfByteSums"], fn := fun _ => fun
  | [d1, d2, g1] => { results := [.lit (.bool false)], args := [d1, d2], vars := [g1] }
  | _ => none }
def FnExactReadPageWrongFalsely : Prop := fnExactReadPageRow.holds Tryd.pinned (OpenSpec.ofChange fnExactReadPageWrong)

/- THE SECOND FORM. 'bulk': how many values and letters a reading holds, each counted each time it is reached (what is shared counts as often as it is met; a slice's spare places count too). A statement '..UptoSaid' is the law's where the arguments, and the package variables that the reading takes, are together of bulk at most 1048576: NARROWER than '..Said'. Prove '..Said' where nothing that the law and all that it calls make is longer than what came in: it says more and counts as full. Else prove '..UptoSaid'. A law counts once. -/
mutual
def uptoBulk {H : Type} : DataW H → Nat
  | .lit (.string bytes) => bytes.length + 1
  | .lit _ => 1
  | .nil => 1
  | .ptr d => uptoBulk d + 1
  | .slice elems spare => uptoBulkAll elems + uptoBulkAll spare + 1
  | .agg parts => uptoBulkAll parts + 1
  | .iface _ d => uptoBulk d + 1
  | .map entries => uptoBulkEntries entries + 1
  | .held _ => 1
def uptoBulkAll {H : Type} : List (DataW H) → Nat
  | [] => 0
  | d :: r => uptoBulk d + uptoBulkAll r
def uptoBulkEntries {H : Type} : List (Lit × DataW H) → Nat
  | [] => 0
  | x :: r => uptoBulkEntry x + uptoBulkEntries r
def uptoBulkEntry {H : Type} : Lit × DataW H → Nat
  | (.string bytes, d) => bytes.length + uptoBulk d + 1
  | (_, d) => uptoBulk d + 1
 end
def uptoSmall : (H : Type) → List (DataW H) → Bool := fun _ ds => decide (uptoBulkAll ds ≤ 1048576)
def OpenSpec.upto (s : _root_.Go.ChangeSpec) : _root_.Go.OpenSpec := { _root_.Go.OpenSpec.ofChange s with cond := some uptoSmall }

/-- 'laws.FnExactNewEngine', WHERE WHAT IT READS IS OF BULK AT MOST 1048576: true; the input reads as it did. -/
def fnExactNewEngineUptoRow : OpenClaim := { program := "ytpomedfofnceeaadoor", sum := "eee6bddba668d470dbe1a32cd464129333968cfaf404d9e8bdaced1b31d10625", func := "loop.example/g00332/laws.FnExactNewEngine", spec := "fnExactNewEngine", named := ["loop.example/g00332/impl.halfByteSums"], apart := false, laid := [("loop.example/g00332/impl.halfByteSums", laid_loop_example_g00332_impl_halfByteSums)], narrowed := true }
def FnExactNewEngineUptoSaid : Prop := fnExactNewEngineUptoRow.holds Tryd.pinned (OpenSpec.upto fnExactNewEngineSpec)

/-- 'laws.FnExactNewStore', WHERE WHAT IT READS IS OF BULK AT MOST 1048576: true; the input reads as it did. -/
def fnExactNewStoreUptoRow : OpenClaim := { program := "ytpomedfofnceeaadoor", sum := "eee6bddba668d470dbe1a32cd464129333968cfaf404d9e8bdaced1b31d10625", func := "loop.example/g00332/laws.FnExactNewStore", spec := "fnExactNewStore", named := ["loop.example/g00332/impl.halfByteSums"], apart := false, laid := [("loop.example/g00332/impl.halfByteSums", laid_loop_example_g00332_impl_halfByteSums)], narrowed := true }
def FnExactNewStoreUptoSaid : Prop := fnExactNewStoreUptoRow.holds Tryd.pinned (OpenSpec.upto fnExactNewStoreSpec)

/-- 'laws.FnExactStoreOK', WHERE WHAT IT READS IS OF BULK AT MOST 1048576: true; the input reads as it did. -/
def fnExactStoreOKUptoRow : OpenClaim := { program := "ytpomedfofnceeaadoor", sum := "eee6bddba668d470dbe1a32cd464129333968cfaf404d9e8bdaced1b31d10625", func := "loop.example/g00332/laws.FnExactStoreOK", spec := "fnExactStoreOK", unfollowed := true, recurses := true, named := ["loop.example/g00332/impl.halfByteSums"], apart := false, laid := [("loop.example/g00332/impl.halfByteSums", laid_loop_example_g00332_impl_halfByteSums)], narrowed := true }
def FnExactStoreOKUptoSaid : Prop := fnExactStoreOKUptoRow.holds Tryd.pinned (OpenSpec.upto fnExactStoreOKSpec)

/-- 'laws.FnExactReadLog', WHERE WHAT IT READS IS OF BULK AT MOST 1048576: true; the input reads as it did. -/
def fnExactReadLogUptoRow : OpenClaim := { program := "ytpomedfofnceeaadoor", sum := "eee6bddba668d470dbe1a32cd464129333968cfaf404d9e8bdaced1b31d10625", func := "loop.example/g00332/laws.FnExactReadLog", spec := "fnExactReadLog", unfollowed := true, recurses := true, named := ["loop.example/g00332/impl.halfByteSums"], apart := false, laid := [("loop.example/g00332/impl.halfByteSums", laid_loop_example_g00332_impl_halfByteSums)], narrowed := true }
def FnExactReadLogUptoSaid : Prop := fnExactReadLogUptoRow.holds Tryd.pinned (OpenSpec.upto fnExactReadLogSpec)

/-- 'laws.FnExactHeaderBytes', WHERE WHAT IT READS IS OF BULK AT MOST 1048576: true; the input reads as it did. -/
def fnExactHeaderBytesUptoRow : OpenClaim := { program := "ytpomedfofnceeaadoor", sum := "eee6bddba668d470dbe1a32cd464129333968cfaf404d9e8bdaced1b31d10625", func := "loop.example/g00332/laws.FnExactHeaderBytes", spec := "fnExactHeaderBytes", named := ["loop.example/g00332/impl.halfByteSums"], apart := false, laid := [("loop.example/g00332/impl.halfByteSums", laid_loop_example_g00332_impl_halfByteSums)], narrowed := true }
def FnExactHeaderBytesUptoSaid : Prop := fnExactHeaderBytesUptoRow.holds Tryd.pinned (OpenSpec.upto fnExactHeaderBytesSpec)

/-- 'laws.FnExactRecordBytes', WHERE WHAT IT READS IS OF BULK AT MOST 1048576: true; the input reads as it did. -/
def fnExactRecordBytesUptoRow : OpenClaim := { program := "ytpomedfofnceeaadoor", sum := "eee6bddba668d470dbe1a32cd464129333968cfaf404d9e8bdaced1b31d10625", func := "loop.example/g00332/laws.FnExactRecordBytes", spec := "fnExactRecordBytes", named := ["loop.example/g00332/impl.halfByteSums"], apart := false, laid := [("loop.example/g00332/impl.halfByteSums", laid_loop_example_g00332_impl_halfByteSums)], narrowed := true }
def FnExactRecordBytesUptoSaid : Prop := fnExactRecordBytesUptoRow.holds Tryd.pinned (OpenSpec.upto fnExactRecordBytesSpec)

/-- 'laws.FnExactReadRecord', WHERE WHAT IT READS IS OF BULK AT MOST 1048576: true; the input reads as it did. -/
def fnExactReadRecordUptoRow : OpenClaim := { program := "ytpomedfofnceeaadoor", sum := "eee6bddba668d470dbe1a32cd464129333968cfaf404d9e8bdaced1b31d10625", func := "loop.example/g00332/laws.FnExactReadRecord", spec := "fnExactReadRecord", named := ["loop.example/g00332/impl.halfByteSums"], apart := false, laid := [("loop.example/g00332/impl.halfByteSums", laid_loop_example_g00332_impl_halfByteSums)], narrowed := true }
def FnExactReadRecordUptoSaid : Prop := fnExactReadRecordUptoRow.holds Tryd.pinned (OpenSpec.upto fnExactReadRecordSpec)

/-- 'laws.FnExactPageBytes', WHERE WHAT IT READS IS OF BULK AT MOST 1048576: true; the input reads as it did. -/
def fnExactPageBytesUptoRow : OpenClaim := { program := "ytpomedfofnceeaadoor", sum := "eee6bddba668d470dbe1a32cd464129333968cfaf404d9e8bdaced1b31d10625", func := "loop.example/g00332/laws.FnExactPageBytes", spec := "fnExactPageBytes", unfollowed := true, recurses := true, named := ["loop.example/g00332/impl.halfByteSums"], apart := false, laid := [("loop.example/g00332/impl.halfByteSums", laid_loop_example_g00332_impl_halfByteSums)], narrowed := true }
def FnExactPageBytesUptoSaid : Prop := fnExactPageBytesUptoRow.holds Tryd.pinned (OpenSpec.upto fnExactPageBytesSpec)

/-- 'laws.FnExactReadPage', WHERE WHAT IT READS IS OF BULK AT MOST 1048576: true; the input reads as it did. -/
def fnExactReadPageUptoRow : OpenClaim := { program := "ytpomedfofnceeaadoor", sum := "eee6bddba668d470dbe1a32cd464129333968cfaf404d9e8bdaced1b31d10625", func := "loop.example/g00332/laws.FnExactReadPage", spec := "fnExactReadPage", unfollowed := true, recurses := true, named := ["loop.example/g00332/impl.halfByteSums"], apart := false, laid := [("loop.example/g00332/impl.halfByteSums", laid_loop_example_g00332_impl_halfByteSums)], narrowed := true }
def FnExactReadPageUptoSaid : Prop := fnExactReadPageUptoRow.holds Tryd.pinned (OpenSpec.upto fnExactReadPageSpec)

end Rows
end Go.Proofs.YtpomedfofnceeaaDoor
