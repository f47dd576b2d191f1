package tests

import (
	"fmt"
	"slices"
	"testing"

	"loop.example/g00332/impl"
)

// checkUndoneTo: behind the first was records there are done updates of the statement, and their CLRs, the last one first;
// the Last CLR leads to the place.
func checkUndoneTo(t *testing.T, name string, log []impl.LogRecord, was, done, place int) {
	t.Helper()
	if len(log) != was+2*done {
		t.Fatalf("%s: %d records behind it, want %d", name, len(log)-was, 2*done)
	}
	for i := range done {
		u, c := log[was+i], log[len(log)-1-i]
		want := impl.LogRecord{Epoch: u.Epoch, Lsn: c.Lsn, Tx: u.Tx, Kind: impl.LoClr, Prev: c.Lsn - 1, Next: u.Prev, Page: u.Page, Slot: u.Slot, After: u.Before}
		if u.Kind != impl.LoUpdate || c != want {
			t.Errorf("%s: update %d: %+v is undone by %+v", name, i, u, c)
		}
	}
	if done > 0 && log[len(log)-1].Next != place {
		t.Errorf("%s: undone to %d, want %d", name, log[len(log)-1].Next, place)
	}
}

// TestTheRowThatHasACode: at each of eight rows; what was done to those ahead is undone, and what the transaction did
// ahead of the statement stays, in that table and in others.
func TestTheRowThatHasACode(t *testing.T) {
	for at := range 8 {
		for text, want := range map[string]int{
			"update 3 set n = 1 / (id - %d)":                 impl.ErrZero,
			"update 3 set n = 1000000000 + (id = %d)":        impl.ErrOver,
			"update 3 set name = 'zz' where 100 / (id - %d)": impl.ErrZero,
			"update 3 set name = 'zz' where not id = %d":     impl.OK,
			"update 3 set n = 5 where not id = %[1]d or 'a'": impl.ErrType,
			"delete 3 where 100 / (id - %d)":                 impl.ErrZero,
			"delete 3 where not id = %d or 'a'":              impl.ErrType,
			"delete 3 where id < %d or 1000000000 * 2":       impl.ErrOver,
			"select 3 where 100 / (id - %d)":                 impl.ErrZero,
		} {
			text := fmt.Sprintf(text, at)
			d := stocked(t, 8)
			other, tx := d.begin(), d.begin()
			d.sql(other, "insert 2 9 9 null", "1")
			d.sql(tx, "update 3 set n = n + 10 where id < 2 or id = 7", "3")
			d.sql(tx, "insert 1 5 5 null", "1")
			was, place, told := len(d.e.Store.Log), d.last(tx), tablesNow(t, d.e)
			if want == impl.OK {
				d.sql(tx, text, "7")
				continue
			}
			d.sqlCode(tx, text, want)
			done := pick(text[0] == 's', 0, at)
			checkUndoneTo(t, text, d.e.Store.Log, was, done, place)
			if !sameTables(tablesNow(t, d.e), told) || !isOpen(d.e, tx) {
				t.Errorf("%s: %v, want %v", text, tablesNow(t, d.e), told)
			}
			if text[0] != 's' && !slices.Contains(d.e.Locks.Held, lock(tx, 3, -1, impl.LkX)) {
				t.Errorf("%s: the table is not held any more", text)
			}
			// The same again, from a place that is a CLR now.
			was, place = len(d.e.Store.Log), d.last(tx)
			if was+2*done+7 <= 50 {
				d.sqlCode(tx, text, want)
				checkUndoneTo(t, text+", again", d.e.Store.Log, was, done, place)
			}
			d.sql(tx, "select 1", "1 (5 5 null)")
			d.abort(tx)
			d.seen(3, rowsOf(0, 8)...)
			d.seen(1)
		}
	}
}

// TestWhatIsUndoneIsNotCommitted: a commit behind a statement that was refused has just what was done ahead of it.
func TestWhatIsUndoneIsNotCommitted(t *testing.T) {
	d := stocked(t, 5)
	tx := d.begin()
	d.sql(tx, "update 3 set n = 50 where id = 3", "1")
	d.sqlCode(tx, "update 3 set n = 1 / (id - 4)", impl.ErrZero)
	d.sqlCode(tx, "delete 3 where id < 4 or name", impl.ErrType)
	d.sql(tx, "insert 3 9 9 'ab'", "1")
	d.commit(tx)
	d.seen(3, row(0, 0), row(1, 1), row(2, 2), row(3, 50), row(4, 4), row(9, 9))
	e, _ := impl.CrashEngine(d.e, nil)
	e, code := impl.RestartEngine(e)
	d.next("RestartEngine", e, code, impl.OK)
	d.seen(3, row(0, 0), row(1, 1), row(2, 2), row(3, 50), row(4, 4), row(9, 9))
}

// TestStatementsAtTheEndOfTheLog: each change takes two records of the room; the first one that finds less is refused,
// and there is room to undo those ahead of it, and all else.
func TestStatementsAtTheEndOfTheLog(t *testing.T) {
	for n := range 12 {
		for text, rows := range map[string]int{"update 1 set n = 7": 2, "update 2 set name = null": 2, "delete 2": 2, "delete 1 where id = 2": 1, "update 2 set n = 5 where n = 6": 1,
			"select 1": 0, "delete 1 where 0": 0, "insert 1 9 1 'a'": 1, "insert 2 0 null null": 1} {
			d, txs := crowded(t, n)
			tx := pick(stmtOf(t, text).Table == 1, txs[0], txs[1])
			was, place := len(d.e.Store.Log), d.last(tx)
			e, _, code := checkMeaning(t, text, d.e, tx, stmtOf(t, text))
			want := pick(2*rows > n, impl.ErrFull, impl.OK)
			d.next(fmt.Sprintf("%s, room for %d", text, n), e, code, want)
			if want == impl.ErrFull {
				checkUndoneTo(t, text, d.e.Store.Log, was, n/2, place)
			} else if len(d.e.Store.Log) != was+rows {
				t.Errorf("%s: %d records behind it", text, len(d.e.Store.Log)-was)
			}
			checkUndone(t, text, d.e)
		}
	}
}

// TestTheMostRowsOfOneStatement: of a log without other records 29 changes, and what undoes them.
func TestTheMostRowsOfOneStatement(t *testing.T) {
	for _, n := range []int{28, 29, 30, 31, 32} {
		for _, text := range []string{"update 3 set n = n + 1", "delete 3"} {
			d := stocked(t, n)
			tx := d.begin()
			if n <= 29 {
				d.sql(tx, text, fmt.Sprint(n))
				d.abort(tx)
				checkStock(t, text, d.e, n)
				continue
			}
			d.sqlCode(tx, text, impl.ErrFull)
			checkUndoneTo(t, text, d.e.Store.Log, 1, 29, 1)
			checkStock(t, text, d.e, n)
			d.sqlCode(tx, "insert 1 1 1 'a'", pick(n == 32, impl.ErrOver, impl.ErrFull))
			e, a, code := impl.ExecSql(d.e, tx, "select 3")
			if d.next("select", e, code, impl.OK); a.Count != n {
				t.Errorf("%d rows, want %d", a.Count, n)
			}
			d.abort(tx)
			if len(d.e.Store.Log) != impl.MaxLog {
				t.Errorf("%d records", len(d.e.Store.Log))
			}
		}
	}
}

// TestTablesFullOfRows: a new row has no place there, but rows that are there are changed in theirs.
func TestTablesFullOfRows(t *testing.T) {
	d := stocked(t, 32)
	one, two := d.begin(), d.begin()
	for _, text := range []string{"insert 1 1 1 'a'", "insert 2 1000 null null", "insert 3 32 1 'a'"} {
		d.sqlCode(one, text, impl.ErrOver)
	}
	d.sqlCode(one, "insert 3 31 1 'a'", impl.ErrKey)
	d.sql(one, "update 3 set n = 0 where id < 20 and not id < 11", "9")
	d.sql(one, "delete 3 where id = 17", "1")
	// The slot is kept for the one who emptied it, until it is over.
	d.sqlCode(two, "insert 1 2 1 'a'", impl.ErrOver)
	d.sql(one, "insert 2 1 1 'a'", "1")
	d.wantPlace("the slot of row 17", 4, 1)
	d.sqlCode(one, "insert 2 2 1 'a'", impl.ErrOver)
	d.sql(one, "delete 2", "1")
	d.commit(one)
	d.sql(two, "insert 1 1 1 'a'", "1")
	d.wantPlace("the slot of row 17 again", 4, 1)
}

// rowBarred has two open ones; the other holds row id of table 3, but not the table: an engine that did not begin new. It
// waits for tx, or for nobody.
func rowBarred(t *testing.T, id int, waits bool) (d *doer, other, tx int) {
	t.Helper()
	d = stocked(t, 6)
	other, tx = d.begin(), d.begin()
	d.put(tx, 1, row(1, 1))
	d.e.Locks.Held = append(d.e.Locks.Held, lock(other, 3, id, impl.LkX))
	if waits {
		d.e.Locks.Waits = waiting(other, tx)
	}
	if !impl.EngineOK(d.e) {
		t.Fatal("the engine is not right")
	}
	return d, other, tx
}

// TestARowThatAnotherOneHolds: it is met behind the scan, so what was done to the rows ahead of it is undone.
func TestARowThatAnotherOneHolds(t *testing.T) {
	for id := range 6 {
		for _, text := range []string{"update 3 set n = 100", "delete 3"} {
			d, other, tx := rowBarred(t, id, false)
			was, place := len(d.e.Store.Log), d.last(tx)
			d.sqlCode(tx, text, impl.ErrWait)
			checkUndoneTo(t, text, d.e.Store.Log, was, id, place)
			if !slices.Equal(d.e.Locks.Waits, waiting(tx, other)) {
				t.Errorf("%s: waits %v", text, d.e.Locks.Waits)
			}
			d.scan(tx, 1, row(1, 1))
			d.abort(other)
			d.sql(tx, text, "6")
		}
	}
}

// TestARowThatLeadsRound: the transaction is aborted at that row, so that there is none to go back in: of that the code
// is told.
func TestARowThatLeadsRound(t *testing.T) {
	for id := range 6 {
		for _, text := range []string{"update 3 set n = 100", "delete 3"} {
			d, other, tx := rowBarred(t, id, true)
			was := len(d.e.Store.Log)
			d.sqlCode(tx, text, impl.ErrTx)
			if log := d.e.Store.Log; len(log) != was+2*id+2 || log[len(log)-1] != end(1, len(log), tx, len(log)-1) || isOpen(d.e, tx) {
				t.Errorf("%s: %d records behind it, %v", text, len(log)-was, d.e.Txs)
			}
			checkLocks(t, text, d.e.Locks, held(lock(other, 3, id, impl.LkX)))
			d.seen(1)
			checkStock(t, text, d.e, 6)
		}
	}
}

// TestThePowerGoesInAStatement: wherever it goes, the code is ErrDown, also where a row ahead had changes to be undone;
// behind a restart nothing of it is there.
func TestThePowerGoesInAStatement(t *testing.T) {
	t.Parallel()
	texts := []string{"insert 1 9 99 'z'", "insert 3 1 99 'z'", "select 3", "select 1", "update 3 set n = 99", "update 3 set n = 99 where id = 30", "delete 3", "delete 3 where id < 9",
		"update 3 set n = 1 / (id - 20)", "delete 3 where 100 / (id - 2)"}
	for pages := range 4 {
		d := stocked(t, 31)
		first := d.begin()
		d.put(first, 3, row(29, 290))
		d.commit(first)
		one := d.begin()
		for no := range pages {
			d.put(one, 3, row(no*4+1, no))
		}
		for _, text := range texts {
			for _, keep := range manyKeeps() {
				name := fmt.Sprintf("%s, %d pages, keep %v", text, pages, keep)
				e := armedEngine(d.e, keep...)
				got, a, code := checkCalled(t, name, e, one, stmtOf(t, text))
				if flushes := pages > 0 || text[0] == 'u' && text != "update 3 set n = 99 where id = 30" || text[0] == 'd'; !flushes {
					if code == impl.ErrDown || !got.Up || !got.Store.Disk.Armed {
						t.Errorf("%s: code %d, though nothing is flushed", name, code)
					}
					continue
				}
				if code != impl.ErrDown || got.Up || len(got.Txs) != 0 || len(got.Locks.Held)+len(got.Locks.Waits) != 0 || !sameAnswer(a, impl.Answer{}) {
					t.Fatalf("%s: code %d, %s, %.1000s", name, code, tellAnswer(a), tellEngine(got))
				}
				again, _, code := impl.ExecSql(got, one, text)
				if code != impl.ErrDown || !sameEngine(again, got) {
					t.Errorf("%s, again: code %d", name, code)
				}
				up := &doer{t, got}
				e, code = impl.RestartEngine(got)
				up.next(name+", RestartEngine", e, code, impl.OK)
				want := rowsOf(0, 31)
				want[29] = row(29, 290)
				if tables := tablesNow(t, e); !slices.Equal(tables[3], want) || len(tables[1])+len(tables[2]) > 0 {
					t.Errorf("%s: behind a restart %v", name, tables)
				}
			}
		}
	}
}

// TestThePowerGoesAsAStatementIsAborted: at a deadlock all is undone, and if the power goes then the code is ErrDown.
func TestThePowerGoesAsAStatementIsAborted(t *testing.T) {
	d, one := spread(t, 7)
	two := 2
	d.getCode(two, 3, 1, impl.ErrWait)
	for _, text := range []string{"insert 3 29 1 'a'", "select 3", "update 3 set n = 1", "delete 3"} {
		if _, _, code := checkCalled(t, text, d.e, one, stmtOf(t, text)); code != impl.ErrDeadlock {
			t.Errorf("%s: code %d", text, code)
		}
		for _, keep := range manyKeeps() {
			name := fmt.Sprintf("%s, keep %v", text, keep)
			if e, _, code := checkCalled(t, name, armedEngine(d.e, keep...), one, stmtOf(t, text)); code != impl.ErrDown || e.Up {
				t.Errorf("%s: code %d", name, code)
			}
		}
	}
}

// TestStatementsOnADiskThatTakesNoMore: a page that must go out with nothing to flush has the disk's own code, and nothing
// is done.
func TestStatementsOnADiskThatTakesNoMore(t *testing.T) {
	for n, want := range map[int]int{500: impl.ErrFull, 499: impl.OK} {
		d, one := manyEngineWrites(t, n)
		d.e.Locks = impl.Locks{}
		for _, text := range []string{"insert 1 9 99 'z'", "select 3", "update 3 set n = 99 where id < 8", "delete 3 where id = 3"} {
			e, _, code := checkMeaning(t, text, d.e, one, stmtOf(t, text))
			if code != want || want == impl.ErrFull && len(e.Store.Log) != len(d.e.Store.Log) {
				t.Errorf("%s, %d writes: code %d, want %d, %d records", text, n, code, want, len(e.Store.Log))
			}
		}
	}
}
