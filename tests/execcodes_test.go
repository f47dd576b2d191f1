package tests

import (
	"fmt"
	"math"
	"slices"
	"strings"
	"testing"

	"loop.example/g00332/impl"
)

// stmtFaults are those of one statement in any company; the codes come in their order.
type stmtFaults struct{ long, engine, text, down, tx, lock, row bool }

func allStmtFaults() []stmtFaults {
	var list []stmtFaults
	for n := range 128 {
		list = append(list, stmtFaults{n&1 > 0, n&2 > 0, n&4 > 0, n&8 > 0, n&16 > 0, n&32 > 0, n&64 > 0})
	}
	return list
}

// engineOf has row 2 of table 2 held by transaction 2: who asks for it waits.
func (f stmtFaults) engineOf() impl.Engine {
	return engineWith(faults{engine: f.engine, down: f.down}.engineOf(), func(e *impl.Engine) { e.Locks.Waits = nil })
}

func (f stmtFaults) wantSql(form int) int {
	switch {
	case f.long:
		return impl.ErrLong
	case f.engine:
		return impl.ErrBad
	case f.text:
		return form
	}
	return f.wantBehind()
}

func (f stmtFaults) wantBehind() int {
	switch {
	case f.down:
		return impl.ErrDown
	case f.tx:
		return impl.ErrTx
	case f.lock:
		return impl.ErrWait
	case f.row:
		return impl.ErrKey
	}
	return impl.OK
}

// checkRefused: with a code the answer is empty; the engine is empty with ErrLong and ErrBad, and else as it was, but for
// what was locked and fetched.
func checkRefused(t *testing.T, name string, e, got impl.Engine, a impl.Answer, code, want int) {
	t.Helper()
	if code != want || code != impl.OK && !sameAnswer(a, impl.Answer{}) {
		t.Errorf("%s: code %d, %s, want code %d", name, code, tellAnswer(a), want)
	}
	switch code {
	case impl.OK, impl.ErrWait, impl.ErrKey:
		if !impl.EngineOK(got) {
			t.Errorf("%s: the engine is not right", name)
		}
	case impl.ErrLong, impl.ErrBad:
		checkEngine(t, name, got, impl.Engine{})
	default:
		checkEngine(t, name, got, e)
	}
}

// TestFaultsOfStatementsInTheirOrder: each of the faults with each company. A row of transaction 2 is asked for by 4, or
// one that is there already.
func TestFaultsOfStatementsInTheirOrder(t *testing.T) {
	wrong := map[string]int{"go": impl.ErrForm, "select 1 order x": impl.ErrColumn, "select 1 where " + manyNodes(41): impl.ErrMany, "delete 1 where " + deepSums(13): impl.ErrDepth, "#": impl.ErrForm}
	for _, f := range allStmtFaults() {
		e := f.engineOf()
		tx := pick(f.tx, 5, 4)
		s := insertOf(pick(f.lock, 2, 1), impl.Row{Id: pick(f.lock, 2, pick(f.row, 3, 77))})
		for text, form := range wrong {
			if !f.text {
				text, _ = impl.StmtText(s)
			}
			if f.long {
				text += strings.Repeat(" ", impl.MaxText+1-len(text))
			}
			got, a, code := impl.ExecSql(e, tx, text)
			checkRefused(t, fmt.Sprintf("ExecSql with %+v", f), e, got, a, code, f.wantSql(form))
		}
		if f.long {
			continue
		}
		want := pick(f.engine || f.text, impl.ErrBad, f.wantBehind())
		got, a, code := impl.ExecStmt(e, tx, pick(f.text, impl.Stmt{Kind: impl.StSelect}, s))
		checkRefused(t, fmt.Sprintf("ExecStmt with %+v", f), e, got, a, code, want)
	}
}

// TestStatementsThatNoEngineTakes: each wrong statement, in engines that are right or not, up or not.
func TestStatementsThatNoEngineTakes(t *testing.T) {
	d := stocked(t, 3)
	tx := d.begin()
	for of, e := range map[string]impl.Engine{"open": d.e, "down": downEngine(), "spoilt": spoiltEngine(d.e)} {
		for name, s := range wrongStmts() {
			for _, tx := range []int{tx, 0, 9} {
				got, a, code := impl.ExecStmt(e, tx, s)
				if code != impl.ErrBad || !sameAnswer(a, impl.Answer{}) || !sameEngine(got, impl.Engine{}) {
					t.Errorf("%s, %s, of %d: code %d, %s", of, name, tx, code, tellAnswer(a))
				}
			}
		}
	}
}

// TestEnginesThatTakeNoStatement: those that are not right are ErrBad ahead of all but ErrLong.
func TestEnginesThatTakeNoStatement(t *testing.T) {
	for name, e := range wrongEngines() {
		for _, tx := range []int{0, 1, 2, 99} {
			for _, s := range oneOfEachKind() {
				got, a, code := impl.ExecStmt(e, tx, s)
				checkRefused(t, name, e, got, a, code, impl.ErrBad)
			}
			for _, text := range []string{"select 1", "insert 1 1 1 'a'", "go", "", "select 1 order x", "\xff", strings.Repeat("n ", 501), strings.Repeat(" ", impl.MaxText)} {
				got, a, code := impl.ExecSql(e, tx, text)
				checkRefused(t, name, e, got, a, code, impl.ErrBad)
			}
			got, a, code := impl.ExecSql(e, tx, strings.Repeat(" ", impl.MaxText+1))
			checkRefused(t, name, e, got, a, code, impl.ErrLong)
		}
	}
}

// TestStatementsWithoutATransaction: none is open of that number, or the power is gone.
func TestStatementsWithoutATransaction(t *testing.T) {
	for name, e := range rightEngines() {
		for _, tx := range []int{math.MinInt, -1, 0, 1, 2, 3, 4, 5, e.Next - 1, e.Next, impl.MaxTx, impl.MaxTx + 1, 64, 66, 68, math.MaxInt} {
			if isOpen(e, tx) {
				continue
			}
			want := pick(e.Up, impl.ErrTx, impl.ErrDown)
			for _, s := range oneOfEachKind() {
				got, a, code := impl.ExecStmt(e, tx, s)
				checkRefused(t, fmt.Sprintf("%s, ExecStmt of %d", name, tx), e, got, a, code, want)
				text, _ := impl.StmtText(s)
				got, a, code = impl.ExecSql(e, tx, text)
				checkRefused(t, fmt.Sprintf("%s, ExecSql of %d", name, tx), e, got, a, code, want)
			}
			got, a, code := impl.ExecSql(e, tx, "drop 1")
			checkRefused(t, fmt.Sprintf("%s, ExecSql of %d, no statement", name, tx), e, got, a, code, impl.ErrForm)
		}
	}
}

// TestStatementsInEachRightEngine: also those that did not begin new; held against the calls that the chapter names.
func TestStatementsInEachRightEngine(t *testing.T) {
	t.Parallel()
	texts := []string{"select 1", "select 2 order n desc", "insert 1 1 1 'a'", "insert 1 3 1 'a'", "insert 2 9 null null", "insert 3 0 0 ''", "update 1 set n = n + 1", "update 2 set name = 'zz' where id = 2", "update 3 set n = 1 / (n - 2)", "delete 1", "delete 2 where n", "delete 3 where id < 2"}
	for name, e := range manyEngines(t) {
		for _, x := range slices.Concat(e.Txs, []impl.Tx{{Id: 0}, {Id: e.Next}}) {
			for _, text := range texts {
				checkCalled(t, fmt.Sprintf("%s, %s of %d", name, text, x.Id), e, x.Id, stmtOf(t, text))
			}
		}
	}
}

// TestTextsThatAreRefused: the code is ParseSql's, whatever the engine would have said, and the engine is as it was.
func TestTextsThatAreRefused(t *testing.T) {
	open := stocked(t, 3)
	tx := open.begin()
	codes := map[int]int{}
	for _, text := range slices.Concat(stmtTexts(), exprTexts(), textArguments()) {
		s, want := impl.ParseSql(text)
		for _, e := range []impl.Engine{open.e, downEngine(), impl.NewEngine()} {
			got, a, code := impl.ExecSql(e, tx, text)
			if want == impl.OK {
				next, wantA, wantCode := impl.ExecStmt(e, tx, s)
				if code != wantCode || !sameAnswer(a, wantA) || !sameEngine(got, next) {
					t.Errorf("%.80q: code %d, %s, want code %d, %s", text, code, tellAnswer(a), wantCode, tellAnswer(wantA))
				}
				continue
			}
			codes[want]++
			checkRefused(t, fmt.Sprintf("%.80q", text), e, got, a, code, want)
		}
	}
	for _, code := range []int{impl.ErrLong, impl.ErrForm, impl.ErrMany, impl.ErrDepth, impl.ErrColumn} {
		if codes[code] == 0 {
			t.Errorf("code %d: never", code)
		}
	}
}

// TestARowThatIsThere: an insert looks for it behind the locks, and ahead of room in the pages and in the log.
func TestARowThatIsThere(t *testing.T) {
	full := stocked(t, 32)
	tx := full.begin()
	full.sqlCode(tx, "insert 3 5 1 'a'", impl.ErrKey)
	full.sqlCode(tx, "insert 3 32 1 'a'", impl.ErrOver)
	for n := range 4 {
		d, txs := crowded(t, n)
		d.sqlCode(txs[0], "insert 1 1 9 'a'", impl.ErrKey)
		d.sqlCode(txs[0], "insert 3 3 9 'a'", impl.ErrKey)
		d.sqlCode(txs[1], "insert 1 1 9 'a'", impl.ErrWait)
		if code := pick(n < 2, impl.ErrFull, impl.OK); code != impl.OK {
			d.sqlCode(txs[0], "insert 1 7 9 'a'", code)
		} else {
			d.sql(txs[0], "insert 1 7 9 'a'", "1")
		}
	}
	// Without a slot and without room it is the slot that lacks first.
	d := stocked(t, 32)
	one := d.begin()
	for range 29 {
		d.put(one, 3, row(1, 1))
	}
	d.sqlCode(one, "insert 1 1 1 'a'", impl.ErrOver)
	d.sqlCode(one, "insert 3 1 1 'a'", impl.ErrKey)
	d.sqlCode(one, "update 3 set n = 1 where id = 1", impl.ErrFull)
	d.sql(one, "select 3 where id = 1", "1 (1 1 'ab')")
}
