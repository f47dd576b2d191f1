/-
  NARROWER THAN 'FOR EVERY INPUT', by the rows' own cells (each row's printed sentence says how): FnExactRecordBytes: laid · FnExactReadRecord: laid · FnExactReadLog: laid · FnRecord: laid · FnExactNewStore: laid · FnExactStoreOK: laid · FnKeys: laid · FnPage: laid.
  DERIVED. THE GIVEN ROWS OF THIS SEAT. 8 by the template 'for every input the law returns true; each argument reads behind the call as it read before'; 0 by the template 'total and deterministic' (their statements: YtbjefhdacfijpaaDoorTotals.lean).
  GIVEN WITH THE SEED: the statements are not yours to turn. If you find one false, say at which input.
  Laid BY PROGRAM, IN A SANDBOX (cutbox-rows.mjs): the forced cells as the released guide's own fill.sh prints them over the translation ccb60274deb8d2bc… (all of the seat's roots in one cut). By AI agents, Wed Nov 11 2026. No macro, syntax, notation, axiom, sorry.
-/
import Derived.Test.YtbjefhdacfijpaaDoorChecked
import GoSem.Claim
import GoSem.ClaimJoined
import GoSem.ClaimMapViews
import Derived.JoinedTies
import Derived.KernelRfl
namespace Go.Proofs.YtbjefhdacfijpaaDoor
/- THE CELL 'sum', in the pinned program and in every row, IS THE sha256 OF THE DUMP (.gsa) THAT YtbjefhdacfijpaaDoorProg.lean LOADS. Nothing in Lean hashes anything: it is a label: what it is worth is what the hold of that sum in a sandbox is worth. -/
noncomputable def Tryd.pinned : Pinned := { name := "ytbjefhdacfijpaadoor", sum := "ccb60274deb8d2bc2cffd0e109b25ccda92701408d834be5c4bbc16be332ebd5", checked := Tryd.checked }
namespace Rows
def none {H : Type} : Left H := { results := [], args := [] }

/- WHAT THE LISTED PACKAGE-LEVEL VARIABLES READ AS WHEN THE CALL BEGINS. Each datum BY PROGRAM (the guide's laid-datum.mjs) off the statement by which the dump's own 'gosem.cut.vars' lays the variable. In a bare row this is a premise. The card (YtbjefhdacfijpaaDoorCards.lean) ties it to the program's text. -/
def laid_loop_example_g00332_impl_halfByteSums {H : Type} : DataW H := .agg [.lit (.int .u32 0), .lit (.int .u32 498536548), .lit (.int .u32 997073096), .lit (.int .u32 651767980), .lit (.int .u32 1994146192), .lit (.int .u32 1802195444), .lit (.int .u32 1303535960), .lit (.int .u32 1342533948), .lit (.int .u32 3988292384), .lit (.int .u32 4027552580), .lit (.int .u32 3604390888), .lit (.int .u32 3412177804), .lit (.int .u32 2607071920), .lit (.int .u32 2262029012), .lit (.int .u32 2685067896), .lit (.int .u32 3183342108)]
def laid_math_bits_deBruijn32tab {H : Type} : DataW H := .agg [.lit (.int .u8 0), .lit (.int .u8 1), .lit (.int .u8 28), .lit (.int .u8 2), .lit (.int .u8 29), .lit (.int .u8 14), .lit (.int .u8 24), .lit (.int .u8 3), .lit (.int .u8 30), .lit (.int .u8 22), .lit (.int .u8 20), .lit (.int .u8 15), .lit (.int .u8 25), .lit (.int .u8 17), .lit (.int .u8 4), .lit (.int .u8 8), .lit (.int .u8 31), .lit (.int .u8 27), .lit (.int .u8 13), .lit (.int .u8 23), .lit (.int .u8 21), .lit (.int .u8 19), .lit (.int .u8 16), .lit (.int .u8 7), .lit (.int .u8 26), .lit (.int .u8 12), .lit (.int .u8 18), .lit (.int .u8 6), .lit (.int .u8 11), .lit (.int .u8 5), .lit (.int .u8 10), .lit (.int .u8 9)]
def laid_math_bits_deBruijn64tab {H : Type} : DataW H := .agg [.lit (.int .u8 0), .lit (.int .u8 1), .lit (.int .u8 56), .lit (.int .u8 2), .lit (.int .u8 57), .lit (.int .u8 49), .lit (.int .u8 28), .lit (.int .u8 3), .lit (.int .u8 61), .lit (.int .u8 58), .lit (.int .u8 42), .lit (.int .u8 50), .lit (.int .u8 38), .lit (.int .u8 29), .lit (.int .u8 17), .lit (.int .u8 4), .lit (.int .u8 62), .lit (.int .u8 47), .lit (.int .u8 59), .lit (.int .u8 36), .lit (.int .u8 45), .lit (.int .u8 43), .lit (.int .u8 51), .lit (.int .u8 22), .lit (.int .u8 53), .lit (.int .u8 39), .lit (.int .u8 33), .lit (.int .u8 30), .lit (.int .u8 24), .lit (.int .u8 18), .lit (.int .u8 12), .lit (.int .u8 5), .lit (.int .u8 63), .lit (.int .u8 55), .lit (.int .u8 48), .lit (.int .u8 27), .lit (.int .u8 60), .lit (.int .u8 41), .lit (.int .u8 37), .lit (.int .u8 16), .lit (.int .u8 46), .lit (.int .u8 35), .lit (.int .u8 44), .lit (.int .u8 21), .lit (.int .u8 52), .lit (.int .u8 32), .lit (.int .u8 23), .lit (.int .u8 11), .lit (.int .u8 54), .lit (.int .u8 26), .lit (.int .u8 40), .lit (.int .u8 15), .lit (.int .u8 34), .lit (.int .u8 20), .lit (.int .u8 31), .lit (.int .u8 10), .lit (.int .u8 25), .lit (.int .u8 14), .lit (.int .u8 19), .lit (.int .u8 9), .lit (.int .u8 13), .lit (.int .u8 8), .lit (.int .u8 7), .lit (.int .u8 6)]
def laid_internal_strconv_uint64pow10 {H : Type} : DataW H := .agg [.lit (.int .u64 1), .lit (.int .u64 10), .lit (.int .u64 100), .lit (.int .u64 1000), .lit (.int .u64 10000), .lit (.int .u64 100000), .lit (.int .u64 1000000), .lit (.int .u64 10000000), .lit (.int .u64 100000000), .lit (.int .u64 1000000000), .lit (.int .u64 10000000000), .lit (.int .u64 100000000000), .lit (.int .u64 1000000000000), .lit (.int .u64 10000000000000), .lit (.int .u64 100000000000000), .lit (.int .u64 1000000000000000), .lit (.int .u64 10000000000000000), .lit (.int .u64 100000000000000000), .lit (.int .u64 1000000000000000000), .lit (.int .u64 10000000000000000000)]

/-- 'laws.FnExactRecordBytes': WHATEVER THE INPUT: true; the input reads as it did. -/
def fnExactRecordBytesSpec : ChangeSpec := { name := "fnExactRecordBytes", vars := ["loop.example/g00332/impl.halfByteSums"], fn := fun _ => fun
  | [d, g1] => { results := [.lit (.bool true)], args := [d], vars := [g1] }
  | _ => none }
def fnExactRecordBytesRow : OpenClaim := { program := "ytbjefhdacfijpaadoor", sum := "ccb60274deb8d2bc2cffd0e109b25ccda92701408d834be5c4bbc16be332ebd5", func := "loop.example/g00332/laws.FnExactRecordBytes", spec := "fnExactRecordBytes", named := ["loop.example/g00332/impl.halfByteSums"], apart := false, laid := [("loop.example/g00332/impl.halfByteSums", laid_loop_example_g00332_impl_halfByteSums)] }
def FnExactRecordBytesSaid : Prop := fnExactRecordBytesRow.holds Tryd.pinned (OpenSpec.ofChange fnExactRecordBytesSpec)

/-- ITS FALSE NEIGHBOUR: 'it returns false'. Refute it at one input. -/
def fnExactRecordBytesWrong : ChangeSpec := { name := "fnExactRecordBytes", vars := ["loop.example/g00332/impl.halfByteSums"], fn := fun _ => fun
  | [d, g1] => { results := [.lit (.bool false)], args := [d], vars := [g1] }
  | _ => none }
def FnExactRecordBytesWrongFalsely : Prop := fnExactRecordBytesRow.holds Tryd.pinned (OpenSpec.ofChange fnExactRecordBytesWrong)

/-- 'laws.FnExactReadRecord': WHATEVER THE INPUT: true; the input reads as it did. -/
def fnExactReadRecordSpec : ChangeSpec := { name := "fnExactReadRecord", vars := ["loop.example/g00332/impl.halfByteSums"], fn := fun _ => fun
  | [d, g1] => { results := [.lit (.bool true)], args := [d], vars := [g1] }
  | _ => none }
def fnExactReadRecordRow : OpenClaim := { program := "ytbjefhdacfijpaadoor", sum := "ccb60274deb8d2bc2cffd0e109b25ccda92701408d834be5c4bbc16be332ebd5", func := "loop.example/g00332/laws.FnExactReadRecord", spec := "fnExactReadRecord", named := ["loop.example/g00332/impl.halfByteSums"], apart := false, laid := [("loop.example/g00332/impl.halfByteSums", laid_loop_example_g00332_impl_halfByteSums)] }
def FnExactReadRecordSaid : Prop := fnExactReadRecordRow.holds Tryd.pinned (OpenSpec.ofChange fnExactReadRecordSpec)

/-- ITS FALSE NEIGHBOUR: 'it returns false'. Refute it at one input. -/
def fnExactReadRecordWrong : ChangeSpec := { name := "fnExactReadRecord", vars := ["loop.example/g00332/impl.halfByteSums"], fn := fun _ => fun
  | [d, g1] => { results := [.lit (.bool false)], args := [d], vars := [g1] }
  | _ => none }
def FnExactReadRecordWrongFalsely : Prop := fnExactReadRecordRow.holds Tryd.pinned (OpenSpec.ofChange fnExactReadRecordWrong)

/-- 'laws.FnExactReadLog': WHATEVER THE INPUT: true; the input reads as it did. -/
def fnExactReadLogSpec : ChangeSpec := { name := "fnExactReadLog", vars := ["loop.example/g00332/impl.halfByteSums"], fn := fun _ => fun
  | [d1, d2, g1] => { results := [.lit (.bool true)], args := [d1, d2], vars := [g1] }
  | _ => none }
def fnExactReadLogRow : OpenClaim := { program := "ytbjefhdacfijpaadoor", sum := "ccb60274deb8d2bc2cffd0e109b25ccda92701408d834be5c4bbc16be332ebd5", func := "loop.example/g00332/laws.FnExactReadLog", spec := "fnExactReadLog", unfollowed := true, recurses := true, named := ["loop.example/g00332/impl.halfByteSums"], apart := false, laid := [("loop.example/g00332/impl.halfByteSums", laid_loop_example_g00332_impl_halfByteSums)] }
def FnExactReadLogSaid : Prop := fnExactReadLogRow.holds Tryd.pinned (OpenSpec.ofChange fnExactReadLogSpec)

/-- ITS FALSE NEIGHBOUR: 'it returns false'. Refute it at one input. -/
def fnExactReadLogWrong : ChangeSpec := { name := "fnExactReadLog", vars := ["loop.example/g00332/impl.halfByteSums"], fn := fun _ => fun
  | [d1, d2, g1] => { results := [.lit (.bool false)], args := [d1, d2], vars := [g1] }
  | _ => none }
def FnExactReadLogWrongFalsely : Prop := fnExactReadLogRow.holds Tryd.pinned (OpenSpec.ofChange fnExactReadLogWrong)

/-- 'laws.FnRecord': WHATEVER THE INPUT: true; the input reads as it did. -/
def fnRecordSpec : ChangeSpec := { name := "fnRecord", vars := ["loop.example/g00332/impl.halfByteSums"], fn := fun _ => fun
  | [d1, d2, g1] => { results := [.lit (.bool true)], args := [d1, d2], vars := [g1] }
  | _ => none }
def fnRecordRow : OpenClaim := { program := "ytbjefhdacfijpaadoor", sum := "ccb60274deb8d2bc2cffd0e109b25ccda92701408d834be5c4bbc16be332ebd5", func := "loop.example/g00332/laws.FnRecord", spec := "fnRecord", named := ["loop.example/g00332/impl.halfByteSums"], apart := false, laid := [("loop.example/g00332/impl.halfByteSums", laid_loop_example_g00332_impl_halfByteSums)] }
def FnRecordSaid : Prop := fnRecordRow.holds Tryd.pinned (OpenSpec.ofChange fnRecordSpec)

/-- ITS FALSE NEIGHBOUR: 'it returns false'. Refute it at one input. -/
def fnRecordWrong : ChangeSpec := { name := "fnRecord", vars := ["loop.example/g00332/impl.halfByteSums"], fn := fun _ => fun
  | [d1, d2, g1] => { results := [.lit (.bool false)], args := [d1, d2], vars := [g1] }
  | _ => none }
def FnRecordWrongFalsely : Prop := fnRecordRow.holds Tryd.pinned (OpenSpec.ofChange fnRecordWrong)

/-- 'laws.FnExactNewStore': WHATEVER THE INPUT: true; the input reads as it did. -/
def fnExactNewStoreSpec : ChangeSpec := { name := "fnExactNewStore", vars := ["loop.example/g00332/impl.halfByteSums"], fn := fun _ => fun
  | [g1] => { results := [.lit (.bool true)], args := [], vars := [g1] }
  | _ => none }
def fnExactNewStoreRow : OpenClaim := { program := "ytbjefhdacfijpaadoor", sum := "ccb60274deb8d2bc2cffd0e109b25ccda92701408d834be5c4bbc16be332ebd5", func := "loop.example/g00332/laws.FnExactNewStore", spec := "fnExactNewStore", named := ["loop.example/g00332/impl.halfByteSums"], apart := false, laid := [("loop.example/g00332/impl.halfByteSums", laid_loop_example_g00332_impl_halfByteSums)] }
def FnExactNewStoreSaid : Prop := fnExactNewStoreRow.holds Tryd.pinned (OpenSpec.ofChange fnExactNewStoreSpec)

/-- ITS FALSE NEIGHBOUR: 'it returns false'. Refute it at one input. -/
def fnExactNewStoreWrong : ChangeSpec := { name := "fnExactNewStore", vars := ["loop.example/g00332/impl.halfByteSums"], fn := fun _ => fun
  | [g1] => { results := [.lit (.bool false)], args := [], vars := [g1] }
  | _ => none }
def FnExactNewStoreWrongFalsely : Prop := fnExactNewStoreRow.holds Tryd.pinned (OpenSpec.ofChange fnExactNewStoreWrong)

/-- 'laws.FnExactStoreOK': WHATEVER THE INPUT: true; the input reads as it did. -/
def fnExactStoreOKSpec : ChangeSpec := { name := "fnExactStoreOK", vars := ["loop.example/g00332/impl.halfByteSums"], fn := fun _ => fun
  | [d, g1] => { results := [.lit (.bool true)], args := [d], vars := [g1] }
  | _ => none }
def fnExactStoreOKRow : OpenClaim := { program := "ytbjefhdacfijpaadoor", sum := "ccb60274deb8d2bc2cffd0e109b25ccda92701408d834be5c4bbc16be332ebd5", func := "loop.example/g00332/laws.FnExactStoreOK", spec := "fnExactStoreOK", unfollowed := true, recurses := true, named := ["loop.example/g00332/impl.halfByteSums"], apart := false, laid := [("loop.example/g00332/impl.halfByteSums", laid_loop_example_g00332_impl_halfByteSums)] }
def FnExactStoreOKSaid : Prop := fnExactStoreOKRow.holds Tryd.pinned (OpenSpec.ofChange fnExactStoreOKSpec)

/-- ITS FALSE NEIGHBOUR: 'it returns false'. Refute it at one input. -/
def fnExactStoreOKWrong : ChangeSpec := { name := "fnExactStoreOK", vars := ["loop.example/g00332/impl.halfByteSums"], fn := fun _ => fun
  | [d, g1] => { results := [.lit (.bool false)], args := [d], vars := [g1] }
  | _ => none }
def FnExactStoreOKWrongFalsely : Prop := fnExactStoreOKRow.holds Tryd.pinned (OpenSpec.ofChange fnExactStoreOKWrong)

/-- 'laws.FnKeys': WHATEVER THE INPUT: true; the input reads as it did. -/
def fnKeysSpec : ChangeSpec := { name := "fnKeys", fn := fun _ => fun
  | [d1, d2] => { results := [.lit (.bool true)], args := [d1, d2] }
  | _ => none }
def fnKeysRow : OpenClaim := { program := "ytbjefhdacfijpaadoor", sum := "ccb60274deb8d2bc2cffd0e109b25ccda92701408d834be5c4bbc16be332ebd5", func := "loop.example/g00332/laws.FnKeys", spec := "fnKeys", inPlace := ["internal/bytealg.IndexByte"], recurses := true, named := ["internal/strconv.uint64pow10", "math/bits.deBruijn32tab", "math/bits.deBruijn64tab"], apart := false, laid := [("math/bits.deBruijn32tab", laid_math_bits_deBruijn32tab), ("math/bits.deBruijn64tab", laid_math_bits_deBruijn64tab), ("internal/strconv.uint64pow10", laid_internal_strconv_uint64pow10)] }
def FnKeysSaid : Prop := fnKeysRow.holds Tryd.pinned (OpenSpec.ofChange fnKeysSpec)

/-- ITS FALSE NEIGHBOUR: 'it returns false'. Refute it at one input. -/
def fnKeysWrong : ChangeSpec := { name := "fnKeys", fn := fun _ => fun
  | [d1, d2] => { results := [.lit (.bool false)], args := [d1, d2] }
  | _ => none }
def FnKeysWrongFalsely : Prop := fnKeysRow.holds Tryd.pinned (OpenSpec.ofChange fnKeysWrong)

/-- 'laws.FnPage': WHATEVER THE INPUT: true; the input reads as it did. -/
def fnPageSpec : ChangeSpec := { name := "fnPage", vars := ["loop.example/g00332/impl.halfByteSums"], fn := fun _ => fun
  | [d1, d2, g1] => { results := [.lit (.bool true)], args := [d1, d2], vars := [g1] }
  | _ => none }
def fnPageRow : OpenClaim := { program := "ytbjefhdacfijpaadoor", sum := "ccb60274deb8d2bc2cffd0e109b25ccda92701408d834be5c4bbc16be332ebd5", func := "loop.example/g00332/laws.FnPage", spec := "fnPage", unfollowed := true, recurses := true, named := ["loop.example/g00332/impl.halfByteSums"], apart := false, laid := [("loop.example/g00332/impl.halfByteSums", laid_loop_example_g00332_impl_halfByteSums)] }
def FnPageSaid : Prop := fnPageRow.holds Tryd.pinned (OpenSpec.ofChange fnPageSpec)

/-- ITS FALSE NEIGHBOUR: 'it returns false'. Refute it at one input. -/
def fnPageWrong : ChangeSpec := { name := "fnPage", vars := ["loop.example/g00332/impl.halfByteSums"], fn := fun _ => fun
  | [d1, d2, g1] => { results := [.lit (.bool false)], args := [d1, d2], vars := [g1] }
  | _ => none }
def FnPageWrongFalsely : Prop := fnPageRow.holds Tryd.pinned (OpenSpec.ofChange fnPageWrong)

/- THE SECOND FORM. 'bulk': how many values and letters a reading holds, each counted each time it is reached (what is shared counts as often as it is met; a slice's spare places count too). A statement '..UptoSaid' is the law's where the arguments, and the package variables that the reading takes, are together of bulk at most 1048576: NARROWER than '..Said'. Prove '..Said' where nothing that the law and all that it calls make is longer than what came in: it says more and counts as full. Else prove '..UptoSaid'. A law counts once. -/
mutual
def uptoBulk {H : Type} : DataW H → Nat
  | .lit (.string bytes) => bytes.length + 1
  | .lit _ => 1
  | .nil => 1
  | .ptr d => uptoBulk d + 1
  | .slice elems spare => uptoBulkAll elems + uptoBulkAll spare + 1
  | .agg parts => uptoBulkAll parts + 1
  | .iface _ d => uptoBulk d + 1
  | .map entries => uptoBulkEntries entries + 1
  | .held _ => 1
def uptoBulkAll {H : Type} : List (DataW H) → Nat
  | [] => 0
  | d :: r => uptoBulk d + uptoBulkAll r
def uptoBulkEntries {H : Type} : List (Lit × DataW H) → Nat
  | [] => 0
  | x :: r => uptoBulkEntry x + uptoBulkEntries r
def uptoBulkEntry {H : Type} : Lit × DataW H → Nat
  | (.string bytes, d) => bytes.length + uptoBulk d + 1
  | (_, d) => uptoBulk d + 1
 end
def uptoSmall : (H : Type) → List (DataW H) → Bool := fun _ ds => decide (uptoBulkAll ds ≤ 1048576)
def OpenSpec.upto (s : _root_.Go.ChangeSpec) : _root_.Go.OpenSpec := { _root_.Go.OpenSpec.ofChange s with cond := some uptoSmall }

/-- 'laws.FnExactRecordBytes', WHERE WHAT IT READS IS OF BULK AT MOST 1048576: true; the input reads as it did. -/
def fnExactRecordBytesUptoRow : OpenClaim := { program := "ytbjefhdacfijpaadoor", sum := "ccb60274deb8d2bc2cffd0e109b25ccda92701408d834be5c4bbc16be332ebd5", func := "loop.example/g00332/laws.FnExactRecordBytes", spec := "fnExactRecordBytes", named := ["loop.example/g00332/impl.halfByteSums"], apart := false, laid := [("loop.example/g00332/impl.halfByteSums", laid_loop_example_g00332_impl_halfByteSums)], narrowed := true }
def FnExactRecordBytesUptoSaid : Prop := fnExactRecordBytesUptoRow.holds Tryd.pinned (OpenSpec.upto fnExactRecordBytesSpec)

/-- 'laws.FnExactReadRecord', WHERE WHAT IT READS IS OF BULK AT MOST 1048576: true; the input reads as it did. -/
def fnExactReadRecordUptoRow : OpenClaim := { program := "ytbjefhdacfijpaadoor", sum := "ccb60274deb8d2bc2cffd0e109b25ccda92701408d834be5c4bbc16be332ebd5", func := "loop.example/g00332/laws.FnExactReadRecord", spec := "fnExactReadRecord", named := ["loop.example/g00332/impl.halfByteSums"], apart := false, laid := [("loop.example/g00332/impl.halfByteSums", laid_loop_example_g00332_impl_halfByteSums)], narrowed := true }
def FnExactReadRecordUptoSaid : Prop := fnExactReadRecordUptoRow.holds Tryd.pinned (OpenSpec.upto fnExactReadRecordSpec)

/-- 'laws.FnExactReadLog', WHERE WHAT IT READS IS OF BULK AT MOST 1048576: true; the input reads as it did. -/
def fnExactReadLogUptoRow : OpenClaim := { program := "ytbjefhdacfijpaadoor", sum := "ccb60274deb8d2bc2cffd0e109b25ccda92701408d834be5c4bbc16be332ebd5", func := "loop.example/g00332/laws.FnExactReadLog", spec := "fnExactReadLog", unfollowed := true, recurses := true, named := ["loop.example/g00332/impl.halfByteSums"], apart := false, laid := [("loop.example/g00332/impl.halfByteSums", laid_loop_example_g00332_impl_halfByteSums)], narrowed := true }
def FnExactReadLogUptoSaid : Prop := fnExactReadLogUptoRow.holds Tryd.pinned (OpenSpec.upto fnExactReadLogSpec)

/-- 'laws.FnRecord', WHERE WHAT IT READS IS OF BULK AT MOST 1048576: true; the input reads as it did. -/
def fnRecordUptoRow : OpenClaim := { program := "ytbjefhdacfijpaadoor", sum := "ccb60274deb8d2bc2cffd0e109b25ccda92701408d834be5c4bbc16be332ebd5", func := "loop.example/g00332/laws.FnRecord", spec := "fnRecord", named := ["loop.example/g00332/impl.halfByteSums"], apart := false, laid := [("loop.example/g00332/impl.halfByteSums", laid_loop_example_g00332_impl_halfByteSums)], narrowed := true }
def FnRecordUptoSaid : Prop := fnRecordUptoRow.holds Tryd.pinned (OpenSpec.upto fnRecordSpec)

/-- 'laws.FnExactNewStore', WHERE WHAT IT READS IS OF BULK AT MOST 1048576: true; the input reads as it did. -/
def fnExactNewStoreUptoRow : OpenClaim := { program := "ytbjefhdacfijpaadoor", sum := "ccb60274deb8d2bc2cffd0e109b25ccda92701408d834be5c4bbc16be332ebd5", func := "loop.example/g00332/laws.FnExactNewStore", spec := "fnExactNewStore", named := ["loop.example/g00332/impl.halfByteSums"], apart := false, laid := [("loop.example/g00332/impl.halfByteSums", laid_loop_example_g00332_impl_halfByteSums)], narrowed := true }
def FnExactNewStoreUptoSaid : Prop := fnExactNewStoreUptoRow.holds Tryd.pinned (OpenSpec.upto fnExactNewStoreSpec)

/-- 'laws.FnExactStoreOK', WHERE WHAT IT READS IS OF BULK AT MOST 1048576: true; the input reads as it did. -/
def fnExactStoreOKUptoRow : OpenClaim := { program := "ytbjefhdacfijpaadoor", sum := "ccb60274deb8d2bc2cffd0e109b25ccda92701408d834be5c4bbc16be332ebd5", func := "loop.example/g00332/laws.FnExactStoreOK", spec := "fnExactStoreOK", unfollowed := true, recurses := true, named := ["loop.example/g00332/impl.halfByteSums"], apart := false, laid := [("loop.example/g00332/impl.halfByteSums", laid_loop_example_g00332_impl_halfByteSums)], narrowed := true }
def FnExactStoreOKUptoSaid : Prop := fnExactStoreOKUptoRow.holds Tryd.pinned (OpenSpec.upto fnExactStoreOKSpec)

/-- 'laws.FnKeys', WHERE WHAT IT READS IS OF BULK AT MOST 1048576: true; the input reads as it did. -/
def fnKeysUptoRow : OpenClaim := { program := "ytbjefhdacfijpaadoor", sum := "ccb60274deb8d2bc2cffd0e109b25ccda92701408d834be5c4bbc16be332ebd5", func := "loop.example/g00332/laws.FnKeys", spec := "fnKeys", inPlace := ["internal/bytealg.IndexByte"], recurses := true, named := ["internal/strconv.uint64pow10", "math/bits.deBruijn32tab", "math/bits.deBruijn64tab"], apart := false, laid := [("math/bits.deBruijn32tab", laid_math_bits_deBruijn32tab), ("math/bits.deBruijn64tab", laid_math_bits_deBruijn64tab), ("internal/strconv.uint64pow10", laid_internal_strconv_uint64pow10)], narrowed := true }
def FnKeysUptoSaid : Prop := fnKeysUptoRow.holds Tryd.pinned (OpenSpec.upto fnKeysSpec)

/-- 'laws.FnPage', WHERE WHAT IT READS IS OF BULK AT MOST 1048576: true; the input reads as it did. -/
def fnPageUptoRow : OpenClaim := { program := "ytbjefhdacfijpaadoor", sum := "ccb60274deb8d2bc2cffd0e109b25ccda92701408d834be5c4bbc16be332ebd5", func := "loop.example/g00332/laws.FnPage", spec := "fnPage", unfollowed := true, recurses := true, named := ["loop.example/g00332/impl.halfByteSums"], apart := false, laid := [("loop.example/g00332/impl.halfByteSums", laid_loop_example_g00332_impl_halfByteSums)], narrowed := true }
def FnPageUptoSaid : Prop := fnPageUptoRow.holds Tryd.pinned (OpenSpec.upto fnPageSpec)

end Rows
end Go.Proofs.YtbjefhdacfijpaaDoor
