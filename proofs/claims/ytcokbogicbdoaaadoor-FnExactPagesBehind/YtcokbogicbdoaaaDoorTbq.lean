/-
  Records that are read: the walk of the program's recordOf.
-/
import Derived.Test.YtcokbogicbdoaaaDoorZzag
import Derived.Test.YtcokbogicbdoaaaDoorZzac
import Derived.BigQuiet
import Derived.Deep.RegionHeld3
namespace Go.Proofs.YtcokbogicbdoaaaDoor
open Go Go.RowKit
attribute [local go_sem ↓] Go.wp_at_zero Go.wp_at_succ


def rgn6 (v : Value) : List Oper :=
  { dst := some 31, op := Op.move (Operand.tmp 0), type := 54, pos := "l04_wal.go:196", after := #[], guard := none } ::
  { dst := some 32, op := Op.indexAddr 54 (Operand.tmp 31) (Operand.const (Value.int IntKind.i64 1)), type := 0, pos := "l04_wal.go:196", after := #[{ on := 0, ground := Ground.data }], guard := none } ::
  { dst := some 33, op := Op.load 5 (Operand.tmp 32), type := 5, pos := "l04_wal.go:196", after := #[{ on := 1, ground := Ground.data }], guard := none } ::
  { dst := some 34, op := Op.convert 5 3 (Operand.tmp 33), type := 3, pos := "l04_wal.go:196", after := #[{ on := 2, ground := Ground.data }], guard := none } ::
  { dst := some 35, op := Op.move (Operand.tmp 0), type := 54, pos := "l04_wal.go:196", after := #[], guard := none } ::
  { dst := some 36, op := Op.indexAddr 54 (Operand.tmp 35) (Operand.const (Value.int IntKind.i64 2)), type := 0, pos := "l04_wal.go:196", after := #[{ on := 4, ground := Ground.data }], guard := none } ::
  { dst := some 37, op := Op.load 5 (Operand.tmp 36), type := 5, pos := "l04_wal.go:196", after := #[{ on := 5, ground := Ground.data }], guard := none } ::
  { dst := some 38, op := Op.convert 5 3 (Operand.tmp 37), type := 3, pos := "l04_wal.go:196", after := #[{ on := 6, ground := Ground.data }], guard := none } ::
  { dst := some 39, op := Op.move (Operand.tmp 0), type := 54, pos := "l04_wal.go:196", after := #[], guard := none } ::
  { dst := some 40, op := Op.indexAddr 54 (Operand.tmp 39) (Operand.const (Value.int IntKind.i64 3)), type := 0, pos := "l04_wal.go:196", after := #[{ on := 8, ground := Ground.data }], guard := none } ::
  { dst := some 41, op := Op.load 5 (Operand.tmp 40), type := 5, pos := "l04_wal.go:196", after := #[{ on := 9, ground := Ground.data }], guard := none } ::
  { dst := some 42, op := Op.convert 5 3 (Operand.tmp 41), type := 3, pos := "l04_wal.go:196", after := #[{ on := 10, ground := Ground.data }], guard := none } ::
  { dst := some 43, op := Op.move (Operand.tmp 0), type := 54, pos := "l04_wal.go:196", after := #[], guard := none } ::
  { dst := some 44, op := Op.indexAddr 54 (Operand.tmp 43) (Operand.const (Value.int IntKind.i64 4)), type := 0, pos := "l04_wal.go:196", after := #[{ on := 12, ground := Ground.data }], guard := none } ::
  { dst := some 45, op := Op.load 5 (Operand.tmp 44), type := 5, pos := "l04_wal.go:196", after := #[{ on := 13, ground := Ground.data }], guard := none } ::
  { dst := some 46, op := Op.convert 5 3 (Operand.tmp 45), type := 3, pos := "l04_wal.go:196", after := #[{ on := 14, ground := Ground.data }], guard := none } ::
  { dst := some 47, op := Op.move (Operand.tmp 0), type := 54, pos := "l04_wal.go:196", after := #[], guard := none } ::
  { dst := some 48, op := Op.indexAddr 54 (Operand.tmp 47) (Operand.const (Value.int IntKind.i64 5)), type := 0, pos := "l04_wal.go:196", after := #[{ on := 16, ground := Ground.data }], guard := none } ::
  { dst := some 49, op := Op.load 5 (Operand.tmp 48), type := 5, pos := "l04_wal.go:196", after := #[{ on := 17, ground := Ground.data }], guard := none } ::
  { dst := some 50, op := Op.convert 5 3 (Operand.tmp 49), type := 3, pos := "l04_wal.go:196", after := #[{ on := 18, ground := Ground.data }], guard := none } ::
  { dst := some 51, op := Op.move (Operand.tmp 0), type := 54, pos := "l04_wal.go:196", after := #[], guard := none } ::
  { dst := some 52, op := Op.indexAddr 54 (Operand.tmp 51) (Operand.const (Value.int IntKind.i64 6)), type := 0, pos := "l04_wal.go:196", after := #[{ on := 20, ground := Ground.data }], guard := none } ::
  { dst := some 53, op := Op.load 5 (Operand.tmp 52), type := 5, pos := "l04_wal.go:196", after := #[{ on := 21, ground := Ground.data }], guard := none } ::
  { dst := some 54, op := Op.convert 5 3 (Operand.tmp 53), type := 3, pos := "l04_wal.go:196", after := #[{ on := 22, ground := Ground.data }], guard := none } ::
  { dst := some 55, op := Op.move (Operand.tmp 0), type := 54, pos := "l04_wal.go:196", after := #[], guard := none } ::
  { dst := some 56, op := Op.indexAddr 54 (Operand.tmp 55) (Operand.const (Value.int IntKind.i64 7)), type := 0, pos := "l04_wal.go:196", after := #[{ on := 24, ground := Ground.data }], guard := none } ::
  { dst := some 57, op := Op.load 5 (Operand.tmp 56), type := 5, pos := "l04_wal.go:196", after := #[{ on := 25, ground := Ground.data }], guard := none } ::
  { dst := some 58, op := Op.convert 5 3 (Operand.tmp 57), type := 3, pos := "l04_wal.go:196", after := #[{ on := 26, ground := Ground.data }], guard := none } ::
  { dst := some 59, op := Op.move (Operand.tmp 0), type := 54, pos := "l04_wal.go:196", after := #[], guard := none } ::
  { dst := some 60, op := Op.indexAddr 54 (Operand.tmp 59) (Operand.const (Value.int IntKind.i64 8)), type := 0, pos := "l04_wal.go:196", after := #[{ on := 28, ground := Ground.data }], guard := none } ::
  { dst := some 61, op := Op.load 5 (Operand.tmp 60), type := 5, pos := "l04_wal.go:196", after := #[{ on := 29, ground := Ground.data }], guard := none } ::
  { dst := some 62, op := Op.convert 5 3 (Operand.tmp 61), type := 3, pos := "l04_wal.go:196", after := #[{ on := 30, ground := Ground.data }], guard := none } ::
  { dst := some 63, op := Op.move (Operand.tmp 4), type := 22, pos := "l04_wal.go:196", after := #[], guard := none } ::
  { dst := some 64, op := Op.indexAddr 22 (Operand.tmp 63) (Operand.const (Value.int IntKind.i64 0)), type := 0, pos := "l04_wal.go:196", after := #[{ on := 32, ground := Ground.data }], guard := none } ::
  { dst := some 65, op := Op.load 9 (Operand.tmp 64), type := 9, pos := "l04_wal.go:196", after := #[{ on := 33, ground := Ground.data }], guard := none } ::
  { dst := some 66, op := Op.move (Operand.tmp 4), type := 22, pos := "l04_wal.go:196", after := #[], guard := none } ::
  { dst := some 67, op := Op.indexAddr 22 (Operand.tmp 66) (Operand.const (Value.int IntKind.i64 1)), type := 0, pos := "l04_wal.go:196", after := #[{ on := 35, ground := Ground.data }], guard := none } ::
  { dst := some 68, op := Op.load 9 (Operand.tmp 67), type := 9, pos := "l04_wal.go:196", after := #[{ on := 36, ground := Ground.data }], guard := none } ::
  { dst := some 69, op := Op.build 68 #[(0, Operand.tmp 34), (1, Operand.tmp 38), (2, Operand.tmp 42), (3, Operand.tmp 46), (4, Operand.tmp 50), (5, Operand.tmp 54), (6, Operand.tmp 58), (7, Operand.tmp 62), (8, Operand.tmp 65), (9, Operand.tmp 68)], type := 68, pos := "l04_wal.go:196", after := #[{ on := 3, ground := Ground.data }, { on := 7, ground := Ground.data }, { on := 11, ground := Ground.data }, { on := 15, ground := Ground.data }, { on := 19, ground := Ground.data }, { on := 23, ground := Ground.data }, { on := 27, ground := Ground.data }, { on := 31, ground := Ground.data }, { on := 34, ground := Ground.data }, { on := 37, ground := Ground.data }], guard := none } ::
  { dst := some 6, op := Op.assign (Operand.const v), type := 0, pos := "l04_wal.go:196", after := #[], guard := none } ::
  { dst := none, op := Op.assign (Operand.const undef), type := 0, pos := "l04_wal.go:196", after := List.toArray ({ on := 39, ground := Ground.data } :: { on := 38, ground := Ground.data } :: { on := 0, ground := Ground.phase } :: { on := 1, ground := Ground.phase } :: { on := 2, ground := Ground.phase } :: { on := 3, ground := Ground.phase } :: { on := 4, ground := Ground.phase } :: { on := 5, ground := Ground.phase } :: { on := 6, ground := Ground.phase } :: { on := 7, ground := Ground.phase } :: { on := 8, ground := Ground.phase } :: { on := 9, ground := Ground.phase } :: { on := 10, ground := Ground.phase } :: { on := 11, ground := Ground.phase } :: { on := 12, ground := Ground.phase } :: { on := 13, ground := Ground.phase } :: { on := 14, ground := Ground.phase } :: { on := 15, ground := Ground.phase } :: { on := 16, ground := Ground.phase } :: { on := 17, ground := Ground.phase } :: { on := 18, ground := Ground.phase } :: { on := 19, ground := Ground.phase } :: { on := 20, ground := Ground.phase } :: { on := 21, ground := Ground.phase } :: { on := 22, ground := Ground.phase } :: { on := 23, ground := Ground.phase } :: { on := 24, ground := Ground.phase } :: { on := 25, ground := Ground.phase } :: { on := 26, ground := Ground.phase } :: { on := 27, ground := Ground.phase } :: { on := 28, ground := Ground.phase } :: { on := 29, ground := Ground.phase } :: { on := 30, ground := Ground.phase } :: { on := 31, ground := Ground.phase } :: { on := 32, ground := Ground.phase } :: { on := 33, ground := Ground.phase } :: { on := 34, ground := Ground.phase } :: { on := 35, ground := Ground.phase } :: { on := 36, ground := Ground.phase } :: { on := 37, ground := Ground.phase } :: { on := 38, ground := Ground.phase } :: { on := 39, ground := Ground.phase } :: []), guard := none } :: []

end Go.Proofs.YtcokbogicbdoaaaDoor
