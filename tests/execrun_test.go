package tests

import (
	"fmt"
	"maps"
	"testing"

	"loop.example/g00332/impl"
)

// execRun has an engine that began new, and what its tables must be by the meanings of the statements alone.
type execRun struct {
	t      *testing.T
	x      dice
	e      impl.Engine
	tables plainTables
	places map[int][]int
	codes  map[string]int
}

func newExecRun(t *testing.T, n int, codes map[string]int) *execRun {
	return &execRun{t: t, x: dice(n), e: impl.NewEngine(), codes: codes, places: map[int][]int{}, tables: plainTables{map[[2]int]impl.Row{}, map[int][]plainChange{}}}
}

// runStmt is a statement that means something on few rows, or any right one.
func (run *execRun) runStmt() impl.Stmt {
	x := &run.x
	if x.below(5) == 0 {
		return x.stmt(1 + x.below(5))
	}
	table, k := 1+x.below(pick(x.below(3) == 0, 3, 1)), x.below(10)
	texts := []string{
		fmt.Sprintf("insert %d %d %d 'a'", table, k, x.below(9)-4), fmt.Sprintf("insert %d %d null null", table, x.below(40)), fmt.Sprintf("insert %d %d %d ''", table, x.below(20), k),
		fmt.Sprintf("select %d", table), fmt.Sprintf("select %d where n < %d order n desc", table, k), fmt.Sprintf("select %d where 100 / (id - %d) order name", table, k),
		fmt.Sprintf("update %d set n = n + 1 where id < %d", table, k), fmt.Sprintf("update %d set n = 100 / (id - %d)", table, k), fmt.Sprintf("update %d set name = 'zz' where n = %d", table, k),
		fmt.Sprintf("delete %d where id = %d", table, k), fmt.Sprintf("delete %d where n < 0", table), fmt.Sprintf("delete %d where not id = %d or name", table, k), fmt.Sprintf("delete %d", table), fmt.Sprintf("select %d where name", table),
	}
	s, code := impl.ParseSql(texts[x.below(len(texts))])
	if code != impl.OK {
		run.t.Fatalf("%v: code %d", texts, code)
	}
	return s
}

// did notes what a statement that is OK changed, by what it means on the table as the run knows it.
func (run *execRun) did(name string, tx int, s impl.Stmt, a impl.Answer) {
	run.t.Helper()
	was := run.tables.table(s.Table)
	now, want, code := plainDenote(was, s)
	if code != impl.OK || !sameAnswer(a, want) {
		run.t.Fatalf("%s: %s, but on %v it means code %d, %s", name, tellAnswer(a), was, code, tellAnswer(want))
	}
	left := map[int]impl.Row{}
	for _, r := range now {
		left[r.Id] = r
		if old, there := run.tables.rows[[2]int{s.Table, r.Id}]; !there || old != r {
			run.tables.change(tx, len(run.e.Store.Log), s.Table, r.Id, &r)
		}
	}
	for _, r := range was {
		if _, there := left[r.Id]; !there {
			run.tables.change(tx, len(run.e.Store.Log), s.Table, r.Id, nil)
		}
	}
}

// lost takes away what those did who are not open any more, and did not commit.
func (run *execRun) lost() {
	for tx := range maps.Clone(run.tables.was) {
		if !isOpen(run.e, tx) {
			run.tables.back(tx, 0)
			delete(run.tables.was, tx)
		}
	}
	maps.DeleteFunc(run.places, func(tx int, _ []int) bool { return !isOpen(run.e, tx) })
}

func (run *execRun) exec(tx int) string {
	run.t.Helper()
	s := run.runStmt()
	text, _ := impl.StmtText(s)
	name := fmt.Sprintf("%d: %s", tx, text)
	e, a, code := checkMeaning(run.t, name, run.e, tx, s)
	run.e = e
	run.codes[fmt.Sprint(s.Kind, " ", code)]++
	if code == impl.OK {
		run.did(name, tx, s, a)
	}
	if code == impl.OK && a.Count > 0 {
		run.codes[fmt.Sprint("meant ", s.Kind)]++
	}
	run.places[tx] = append(run.places[tx], (&doer{e: e}).last(tx))
	run.lost()
	return name
}

// place is one between two statements of the transaction, or none.
func (run *execRun) place(tx int) int {
	if n := len(run.places[tx]); n > 0 {
		return run.places[tx][run.x.below(n)]
	}
	return 0
}

// other does what is no statement.
func (run *execRun) other(tx int) string {
	x := &run.x
	var e impl.Engine
	var code int
	name := ""
	switch kind := x.below(12); {
	case kind < 4:
		name = fmt.Sprint("CommitTx ", tx)
		e, code = impl.CommitTx(run.e, tx)
		if code == impl.OK {
			delete(run.tables.was, tx)
		}
	case kind < 6:
		name = fmt.Sprint("AbortTx ", tx)
		e, code = impl.AbortTx(run.e, tx)
	case kind < 8:
		lsn := run.place(tx)
		name = fmt.Sprintf("RollbackTo %d, %d", tx, lsn)
		e, code = impl.RollbackTo(run.e, tx, lsn)
		if code == impl.OK {
			run.tables.back(tx, lsn)
			run.codes["back"]++
		}
	case kind < 9:
		name = "TakeCheck"
		e, code = impl.TakeCheck(run.e)
	case kind < 11:
		s, _, _ := impl.EvictPage(run.e.Store, x.below(impl.MaxPages))
		name, e = "EvictPage", engineWith(run.e, func(e *impl.Engine) { e.Store = s })
	case x.below(3) == 0:
		keep := x.keep(8)
		name = fmt.Sprint("CrashEngine ", keep)
		e, _ = impl.CrashEngine(run.e, keep)
		e, code = impl.RestartEngine(e)
		run.codes["restarts"]++
	default:
		return "nothing"
	}
	run.e = e
	run.lost()
	return fmt.Sprintf("%s: code %d", name, code)
}

func (run *execRun) step() string {
	x := &run.x
	if len(run.e.Txs) < 1+x.below(4) {
		e, tx, code := impl.BeginTx(run.e)
		run.e = e
		return fmt.Sprintf("BeginTx: %d, code %d", tx, code)
	}
	tx := x.below(run.e.Next + 1)
	if n := len(run.e.Txs); n > 0 && x.below(30) > 0 {
		tx = run.e.Txs[x.below(n)].Id
	}
	if x.below(5) > 0 {
		return run.exec(tx)
	}
	return run.other(tx)
}

func (run *execRun) check(name string) {
	run.t.Helper()
	if !impl.EngineOK(run.e) {
		run.t.Fatalf("%s: the engine is not right", name)
	}
	for table := 1; table <= impl.MaxTables; table++ {
		rows, code := impl.TableRows(run.e, table)
		if want := run.tables.table(table); code != impl.OK || fmt.Sprint(rows) != fmt.Sprint(want) {
			run.t.Fatalf("%s: table %d has %v, code %d, want %v", name, table, rows, code, want)
		}
	}
}

// TestRunsOfDoing: whatever transactions do, each statement does what it means on the table that its transaction sees, or
// nothing; in the end there is what was committed.
func TestRunsOfDoing(t *testing.T) {
	t.Parallel()
	codes := map[string]int{}
	for n := range 300 {
		run := newExecRun(t, n, codes)
		for i := range 110 {
			run.check(fmt.Sprintf("run %d, step %d, %s", n, i, run.step()))
		}
		want := run.tables.committed()
		e, _ := impl.CrashEngine(run.e, nil)
		e, code := impl.RestartEngine(e)
		if code != impl.OK {
			t.Fatalf("run %d: RestartEngine: code %d", n, code)
		}
		for i, rows := range tablesNow(t, e) {
			if i > 0 && fmt.Sprint(rows) != fmt.Sprint(want[i-1]) {
				t.Fatalf("run %d: behind a restart table %d has %v, want %v", n, i, rows, want[i-1])
			}
		}
	}
	for kind, list := range map[int][]int{
		impl.StSelect: {impl.OK, impl.ErrWait, impl.ErrDeadlock, impl.ErrTx, impl.ErrZero, impl.ErrType},
		impl.StInsert: {impl.OK, impl.ErrWait, impl.ErrDeadlock, impl.ErrTx, impl.ErrKey, impl.ErrFull},
		impl.StUpdate: {impl.OK, impl.ErrWait, impl.ErrDeadlock, impl.ErrTx, impl.ErrZero, impl.ErrType, impl.ErrFull},
		impl.StDelete: {impl.OK, impl.ErrWait, impl.ErrDeadlock, impl.ErrTx, impl.ErrType, impl.ErrFull},
	} {
		for _, code := range list {
			if codes[fmt.Sprint(kind, " ", code)] < 5 {
				t.Errorf("kind %d, code %d: %d times", kind, code, codes[fmt.Sprint(kind, " ", code)])
			}
		}
		if codes[fmt.Sprint("meant ", kind)] < 50 {
			t.Errorf("kind %d meant rows %d times", kind, codes[fmt.Sprint("meant ", kind)])
		}
	}
	if codes["restarts"] < 20 || codes["back"] < 100 {
		t.Errorf("%d restarts, %d times back", codes["restarts"], codes["back"])
	}
}

// TestRunsOfDoingWithoutPower: a statement in an engine whose disk is armed; whenever the power goes nothing of it lasts.
func TestRunsOfDoingWithoutPower(t *testing.T) {
	t.Parallel()
	codes := map[string]int{}
	for n := range 400 {
		run := newExecRun(t, 1000+n, codes)
		for i := range 6 + run.x.below(25) {
			run.check(fmt.Sprintf("run %d, step %d, %s", n, i, run.step()))
		}
		run.e = armedEngine(run.e, run.x.keep(9)...)
		for range 20 {
			if len(run.e.Txs) == 0 {
				break
			}
			name := run.exec(run.e.Txs[run.x.below(len(run.e.Txs))].Id)
			if run.e.Up {
				run.check(name)
				continue
			}
			e, code := impl.RestartEngine(run.e)
			if run.e = e; code != impl.OK {
				t.Fatalf("run %d, %s: RestartEngine: code %d", n, name, code)
			}
			run.check(name + ", then a restart")
			break
		}
	}
	for kind := impl.StSelect; kind <= impl.StDelete; kind++ {
		if codes[fmt.Sprint(kind, " ", impl.ErrDown)] < 10 {
			t.Errorf("kind %d: the power went %d times", kind, codes[fmt.Sprint(kind, " ", impl.ErrDown)])
		}
	}
}
