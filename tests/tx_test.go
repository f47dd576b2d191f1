package tests

import (
	"fmt"
	"math"
	"slices"
	"testing"

	"loop.example/g00332/impl"
)

// doer does calls that must be OK, or have a code that is told, and leave a right engine.
type doer struct {
	t *testing.T
	e impl.Engine
}

func newDoer(t *testing.T) *doer { return &doer{t, impl.NewEngine()} }

func (d *doer) next(name string, e impl.Engine, code, want int) {
	d.t.Helper()
	if code != want {
		d.t.Fatalf("%s: code %d, want %d", name, code, want)
	}
	if !impl.EngineOK(e) {
		d.t.Fatalf("%s: the engine is not right: %.2000s", name, tellEngine(e))
	}
	d.e = e
}

func (d *doer) begin() int {
	d.t.Helper()
	e, tx, code := impl.BeginTx(d.e)
	d.next("BeginTx", e, code, impl.OK)
	return tx
}

func (d *doer) put(tx, table int, rows ...impl.Row) {
	d.t.Helper()
	for _, r := range rows {
		d.putCode(tx, table, r, impl.OK)
	}
}

func (d *doer) putCode(tx, table int, r impl.Row, want int) {
	d.t.Helper()
	e, code := impl.PutRow(d.e, tx, table, r)
	d.next(fmt.Sprintf("PutRow(%d, %d, %v)", tx, table, r), e, code, want)
}

func (d *doer) drop(tx, table int, ids ...int) {
	d.t.Helper()
	for _, id := range ids {
		d.dropCode(tx, table, id, impl.OK)
	}
}

func (d *doer) dropCode(tx, table, id, want int) {
	d.t.Helper()
	e, code := impl.DropRow(d.e, tx, table, id)
	d.next(fmt.Sprintf("DropRow(%d, %d, %d)", tx, table, id), e, code, want)
}

func (d *doer) get(tx, table int, want impl.Row) {
	d.t.Helper()
	e, r, code := impl.GetRow(d.e, tx, table, want.Id)
	d.next(fmt.Sprintf("GetRow(%d, %d, %d)", tx, table, want.Id), e, code, impl.OK)
	if r != want {
		d.t.Fatalf("GetRow(%d, %d, %d): %v, want %v", tx, table, want.Id, r, want)
	}
}

func (d *doer) getCode(tx, table, id, want int) {
	d.t.Helper()
	e, r, code := impl.GetRow(d.e, tx, table, id)
	d.next(fmt.Sprintf("GetRow(%d, %d, %d)", tx, table, id), e, code, want)
	if r != (impl.Row{}) {
		d.t.Fatalf("GetRow(%d, %d, %d): %v with a code", tx, table, id, r)
	}
}

func (d *doer) scan(tx, table int, want ...impl.Row) {
	d.t.Helper()
	e, rows, code := impl.ScanRows(d.e, tx, table)
	d.next(fmt.Sprintf("ScanRows(%d, %d)", tx, table), e, code, impl.OK)
	if !slices.Equal(rows, want) {
		d.t.Fatalf("ScanRows(%d, %d): %v, want %v", tx, table, rows, want)
	}
}

func (d *doer) scanCode(tx, table, want int) {
	d.t.Helper()
	e, rows, code := impl.ScanRows(d.e, tx, table)
	d.next(fmt.Sprintf("ScanRows(%d, %d)", tx, table), e, code, want)
	if len(rows) != 0 {
		d.t.Fatalf("ScanRows(%d, %d): %v with a code", tx, table, rows)
	}
}

func (d *doer) commit(tx int) {
	d.t.Helper()
	e, code := impl.CommitTx(d.e, tx)
	d.next(fmt.Sprintf("CommitTx(%d)", tx), e, code, impl.OK)
}

func (d *doer) abort(tx int) {
	d.t.Helper()
	e, code := impl.AbortTx(d.e, tx)
	d.next(fmt.Sprintf("AbortTx(%d)", tx), e, code, impl.OK)
}

func (d *doer) rollback(tx, lsn int) {
	d.t.Helper()
	e, code := impl.RollbackTo(d.e, tx, lsn)
	d.next(fmt.Sprintf("RollbackTo(%d, %d)", tx, lsn), e, code, impl.OK)
}

// last is the Last of an open transaction, 0 of others.
func (d *doer) last(tx int) int {
	for _, x := range d.e.Txs {
		if x.Id == tx {
			return x.Last
		}
	}
	return 0
}

// seen are the rows of a table that one sees who begins now.
func (d *doer) seen(table int, want ...impl.Row) {
	d.t.Helper()
	was := d.e
	tx := d.begin()
	d.scan(tx, table, want...)
	d.e = was
}

func TestBeginTakesTheNextNumber(t *testing.T) {
	d := newDoer(t)
	for i := 1; i <= 10; i++ {
		if tx := d.begin(); tx != i || d.e.Next != i+1 || len(d.e.Store.Log) != i || d.last(i) != i {
			t.Fatalf("BeginTx: %d, Next %d, %d records", tx, d.e.Next, len(d.e.Store.Log))
		}
		if r := d.e.Store.Log[i-1]; r != begin(1, i, i) {
			t.Errorf("the record of a begin: %+v", r)
		}
	}
	was := d.e
	for range 2 {
		e, tx, code := impl.BeginTx(d.e)
		if tx != 0 || code != impl.ErrMany {
			t.Errorf("an 11th: %d, code %d", tx, code)
		}
		checkEngine(t, "an 11th", e, was)
	}
	d.commit(4)
	if tx := d.begin(); tx != 11 || d.e.Txs[9] != (impl.Tx{Id: 11, Last: 12}) {
		t.Errorf("behind a commit: %d, %v", tx, d.e.Txs)
	}
}

func TestNumbersOfTransactionsEnd(t *testing.T) {
	for next := 1; next <= impl.MaxTx+1; next++ {
		e := engineWith(impl.NewEngine(), func(e *impl.Engine) { e.Next = next })
		got, tx, code := impl.BeginTx(e)
		if next == impl.MaxTx+1 {
			if tx != 0 || code != impl.ErrMany {
				t.Errorf("Next %d: %d, code %d", next, tx, code)
			}
			checkEngine(t, "beyond MaxTx", got, e)
			continue
		}
		if tx != next || code != impl.OK || !impl.EngineOK(got) || got.Next != next+1 || got.Txs[0] != (impl.Tx{Id: next, Last: 1}) {
			t.Errorf("Next %d: %d, code %d", next, tx, code)
		}
	}
}

// TestOneRowFromItsPutToItsDrop looks at every record of the log.
func TestOneRowFromItsPutToItsDrop(t *testing.T) {
	d := newDoer(t)
	tx := d.begin()
	d.getCode(tx, 1, 3, impl.ErrNone)
	d.put(tx, 1, row(3, 4))
	d.get(tx, 1, row(3, 4))
	d.put(tx, 1, row(3, 5))
	d.get(tx, 1, row(3, 5))
	d.getCode(tx, 2, 3, impl.ErrNone)
	d.drop(tx, 1, 3)
	d.getCode(tx, 1, 3, impl.ErrNone)
	d.dropCode(tx, 1, 3, impl.ErrNone)
	d.put(tx, 2, row(3, 6))
	d.get(tx, 2, row(3, 6))
	a, b, c := bytesOfRow(1, row(3, 4)), bytesOfRow(1, row(3, 5)), bytesOfRow(2, row(3, 6))
	want := []impl.LogRecord{begin(1, 1, 1), at(update(1, 2, 1, 1, "", a), 0, 0), at(update(1, 3, 1, 2, a, b), 0, 0),
		at(update(1, 4, 1, 3, b, ""), 0, 0), at(update(1, 5, 1, 4, "", c), 0, 0)}
	if !slices.Equal(d.e.Store.Log, want) {
		t.Errorf("the log: %+v", d.e.Store.Log)
	}
	d.commit(tx)
	if last := d.e.Store.Log[5]; last != commit(1, 6, 1, 5) || d.e.Store.Sure != 6 || len(d.e.Txs) != 0 || len(d.e.Locks.Held) != 0 {
		t.Errorf("behind a commit: %+v, Sure %d, %v, %s", last, d.e.Store.Sure, d.e.Txs, tellLocks(d.e.Locks))
	}
	d.seen(1)
	d.seen(2, row(3, 6))
}

// TestARowThatIsAsItWas: an update of a row to itself is one all the same.
func TestARowThatIsAsItWas(t *testing.T) {
	d := newDoer(t)
	tx := d.begin()
	d.put(tx, 1, row(3, 4), row(3, 4))
	if r := d.e.Store.Log[2]; r.Before != r.After || r.Before != bytesOfRow(1, row(3, 4)) {
		t.Errorf("%+v", r)
	}
	d.scan(tx, 1, row(3, 4))
}

func TestEachRightRowIsPutAndGot(t *testing.T) {
	for _, r := range rightRows() {
		for table := 1; table <= impl.MaxTables; table++ {
			d := newDoer(t)
			tx := d.begin()
			d.put(tx, table, r)
			d.get(tx, table, r)
			d.scan(tx, table, r)
			for other := 1; other <= impl.MaxTables; other++ {
				if other != table {
					d.scan(tx, other)
				}
			}
			d.drop(tx, table, r.Id)
			d.scan(tx, table)
		}
	}
}

// TestTablesUpToTheLastSlot: all 32 slots are used; rows are told by Id, whatever table and place they have.
func TestTablesUpToTheLastSlot(t *testing.T) {
	d := newDoer(t)
	tables := make([][]impl.Row, impl.MaxTables+1)
	put := 0
	for put < 32 {
		tx := d.begin()
		for range min(12, 32-put) {
			table, r := 1+put%3, row((put*377)%1001, put)
			d.put(tx, table, r)
			tables[table] = append(tables[table], r)
			put++
		}
		d.commit(tx)
	}
	tx := d.begin()
	for table := 1; table <= impl.MaxTables; table++ {
		rows := tables[table]
		for _, r := range rows {
			d.get(tx, table, r)
		}
		slices.SortFunc(rows, func(a, b impl.Row) int { return a.Id - b.Id })
		d.scan(tx, table, rows...)
	}
	d.putCode(tx, 1, row(1000, 1), impl.ErrOver)
	d.put(tx, 2, impl.Row{Id: tables[2][4].Id})
	d.get(tx, 2, impl.Row{Id: tables[2][4].Id})
}

func TestWhatIsNotCommittedIsHeld(t *testing.T) {
	d := newDoer(t)
	one, two := d.begin(), d.begin()
	d.put(one, 1, row(3, 4))
	d.getCode(two, 1, 3, impl.ErrWait)
	d.scanCode(two, 1, impl.ErrWait)
	d.putCode(two, 1, row(3, 5), impl.ErrWait)
	d.dropCode(two, 1, 3, impl.ErrWait)
	d.getCode(two, 1, 4, impl.ErrNone)
	d.put(two, 1, row(5, 5))
	d.commit(one)
	d.get(two, 1, row(3, 4))
	d.put(two, 1, row(3, 9))
	d.scan(two, 1, row(3, 9), row(5, 5))
	d.abort(two)
	d.seen(1, row(3, 4))
}

func TestAbortedIsUndone(t *testing.T) {
	d := newDoer(t)
	tx := d.begin()
	d.put(tx, 1, row(1, 1), row(2, 2), row(3, 3))
	d.put(tx, 3, row(1, 7))
	d.commit(tx)
	was := slices.Clone(d.e.Store.Log)
	tx = d.begin()
	d.drop(tx, 1, 2)
	d.put(tx, 1, row(3, 30), row(3, 31), row(9, 9), row(2, 20))
	d.drop(tx, 1, 9)
	d.put(tx, 2, row(1, 1))
	d.drop(tx, 3, 1)
	d.scan(tx, 1, row(1, 1), row(2, 20), row(3, 31))
	d.scan(tx, 2, row(1, 1))
	d.scan(tx, 3)
	todo := slices.Clone(d.e.Store.Log[len(was)+1:])
	n, sure := len(d.e.Store.Log), d.e.Store.Sure
	d.abort(tx)
	log := d.e.Store.Log
	if len(log) != n+len(todo)+1 || log[len(log)-1] != end(1, len(log), tx, len(log)-1) || len(d.e.Txs) != 0 || len(d.e.Locks.Held) != 0 {
		t.Errorf("%d records, %v, %s", len(log), d.e.Txs, tellLocks(d.e.Locks))
	}
	for i, u := range slices.Backward(todo) {
		lsn := n + len(todo) - i
		want := impl.LogRecord{Epoch: 1, Lsn: lsn, Tx: tx, Kind: impl.LoClr, Prev: lsn - 1, Next: u.Prev, Page: u.Page, Slot: u.Slot, After: u.Before}
		if log[lsn-1] != want {
			t.Errorf("undone: %+v, want %+v", log[lsn-1], want)
		}
	}
	if d.e.Store.Sure != sure {
		t.Errorf("an abort flushes: Sure is %d, it was %d", d.e.Store.Sure, sure)
	}
	d.seen(1, row(1, 1), row(2, 2), row(3, 3))
	d.seen(2)
	d.seen(3, row(1, 7))
}

func TestOneThatDidNothing(t *testing.T) {
	d := newDoer(t)
	one, two := d.begin(), d.begin()
	d.abort(one)
	d.commit(two)
	if want := []impl.LogRecord{begin(1, 1, 1), begin(1, 2, 2), end(1, 3, 1, 1), commit(1, 4, 2, 2)}; !slices.Equal(d.e.Store.Log, want) {
		t.Errorf("the log: %+v", d.e.Store.Log)
	}
}

// TestBackToEachPlace goes back from the end of eight changes to each of its records, and from there on.
func TestBackToEachPlace(t *testing.T) {
	steps := []func(d *doer, tx int){
		func(d *doer, tx int) { d.put(tx, 1, row(1, 1)) },
		func(d *doer, tx int) { d.put(tx, 1, row(2, 2)) },
		func(d *doer, tx int) { d.put(tx, 1, row(1, 10)) },
		func(d *doer, tx int) { d.drop(tx, 1, 2) },
		func(d *doer, tx int) { d.put(tx, 1, row(3, 3)) },
		func(d *doer, tx int) { d.put(tx, 1, row(2, 20)) },
		func(d *doer, tx int) { d.drop(tx, 1, 1) },
		func(d *doer, tx int) { d.put(tx, 1, row(3, 30)) },
	}
	for back := range len(steps) + 1 {
		d := newDoer(t)
		tx := d.begin()
		var rows [][]impl.Row
		for i := range len(steps) + 1 {
			_, list, _ := impl.ScanRows(d.e, tx, 1)
			rows = append(rows, list)
			if i < len(steps) {
				steps[i](d, tx)
			}
		}
		locks := tellLocks(d.e.Locks)
		d.rollback(tx, back+1)
		d.scan(tx, 1, rows[back]...)
		d.e.Locks.Held = slices.DeleteFunc(d.e.Locks.Held, func(k impl.Lock) bool { return k.Mode == impl.LkS })
		if tellLocks(d.e.Locks) != locks || len(d.e.Store.Log) != len(steps)+1+len(steps)-back {
			t.Errorf("back to %d: %d records, %s", back+1, len(d.e.Store.Log), tellLocks(d.e.Locks))
		}
		d.rollback(tx, d.last(tx))
		for i := back; i < len(steps); i++ {
			steps[i](d, tx)
		}
		d.scan(tx, 1, rows[len(steps)]...)
		for again := back; again >= 0; again-- {
			d.rollback(tx, again+1)
			d.scan(tx, 1, rows[again]...)
		}
		d.put(tx, 1, row(7, 7))
		n := len(d.e.Store.Log)
		d.abort(tx)
		if len(d.e.Store.Log) != n+2 {
			t.Errorf("back to %d: to abort one update takes %d records", back+1, len(d.e.Store.Log)-n)
		}
		d.seen(1)
	}
}

// TestBackPastWhatIsUndone: a CLR leads past what it undid, and to go back to a CLR keeps what it did.
func TestBackPastWhatIsUndone(t *testing.T) {
	d := newDoer(t)
	tx := d.begin()
	d.put(tx, 1, row(1, 1), row(2, 2), row(3, 3))
	d.rollback(tx, 3)
	if r := d.e.Store.Log[4]; r != at(clr(1, 5, 1, 4, 3, ""), 0, 2) {
		t.Errorf("a CLR: %+v", r)
	}
	d.put(tx, 1, row(4, 4))
	for _, lsn := range []int{5, 4} {
		was := d.e
		d.rollback(tx, lsn)
		d.scan(tx, 1, row(1, 1), row(2, 2))
		if last := d.e.Store.Log[len(d.e.Store.Log)-1]; len(d.e.Store.Log) != 7 || last.Next != 5 {
			t.Errorf("back to %d: %+v", lsn, last)
		}
		d.e = was
	}
	d.rollback(tx, 2)
	d.scan(tx, 1, row(1, 1))
	if n := len(d.e.Store.Log); n != 8 || d.e.Store.Log[6].Next != 5 || d.e.Store.Log[7].Next != 2 {
		t.Errorf("back to 2: %d records, %+v", n, d.e.Store.Log[6:])
	}
	d.rollback(tx, 1)
	d.scan(tx, 1)
	was := d.e.Store
	for lsn := 1; lsn <= 9; lsn++ {
		d.rollback(tx, lsn)
		if len(d.e.Store.Log) != len(was.Log) {
			t.Errorf("nothing is to be undone to %d, there are %d records", lsn, len(d.e.Store.Log))
		}
	}
	d.commit(tx)
	d.seen(1)
}

func TestPlacesThatAreNotThere(t *testing.T) {
	d := newDoer(t)
	one, two := d.begin(), d.begin()
	d.put(one, 1, row(1, 1))
	d.put(two, 2, row(2, 2))
	d.put(one, 1, row(3, 3))
	d.commit(d.begin())
	for tx, own := range map[int][]int{one: {1, 3, 5}, two: {2, 4}} {
		for _, lsn := range append(numberArguments(), 60, 61) {
			if slices.Contains(own, lsn) {
				continue
			}
			e, code := impl.RollbackTo(d.e, tx, lsn)
			if code != impl.ErrNone {
				t.Errorf("RollbackTo(%d, %d): code %d", tx, lsn, code)
			}
			checkEngine(t, fmt.Sprintf("RollbackTo(%d, %d)", tx, lsn), e, d.e)
		}
	}
	// A record of its own behind its Last is none to go back to.
	e := engineWith(someEngine(), func(e *impl.Engine) { e.Txs[0].Last = 4 })
	for _, lsn := range []int{8, 9} {
		if _, code := impl.RollbackTo(e, 2, lsn); code != impl.ErrNone {
			t.Errorf("RollbackTo(2, %d) behind Last: code %d", lsn, code)
		}
	}
}

// txCalls are the calls of an open transaction, with right arguments else.
func txCalls(e impl.Engine, tx int) map[string]func() (impl.Engine, int) {
	return map[string]func() (impl.Engine, int){
		"PutRow":     func() (impl.Engine, int) { return impl.PutRow(e, tx, 1, row(3, 4)) },
		"DropRow":    func() (impl.Engine, int) { return impl.DropRow(e, tx, 1, 3) },
		"GetRow":     func() (impl.Engine, int) { e, _, code := impl.GetRow(e, tx, 1, 3); return e, code },
		"ScanRows":   func() (impl.Engine, int) { e, _, code := impl.ScanRows(e, tx, 1); return e, code },
		"CommitTx":   func() (impl.Engine, int) { return impl.CommitTx(e, tx) },
		"AbortTx":    func() (impl.Engine, int) { return impl.AbortTx(e, tx) },
		"RollbackTo": func() (impl.Engine, int) { return impl.RollbackTo(e, tx, 3) },
	}
}

func TestTransactionsThatAreNotOpen(t *testing.T) {
	d := newDoer(t)
	one, two := d.begin(), d.begin()
	d.begin()
	d.commit(one)
	d.abort(two)
	for _, e := range []impl.Engine{d.e, someEngine()} {
		for _, tx := range []int{math.MinInt, -1, 0, 1, e.Next - 1, e.Next, e.Next + 1, impl.MaxTx, impl.MaxTx + 1, 64, 66, math.MaxInt} {
			if slices.ContainsFunc(e.Txs, func(x impl.Tx) bool { return x.Id == tx }) {
				continue
			}
			for name, call := range txCalls(e, tx) {
				got, code := call()
				if code != impl.ErrTx {
					t.Errorf("%s of %d: code %d", name, tx, code)
				}
				checkEngine(t, fmt.Sprintf("%s of %d", name, tx), got, e)
			}
		}
	}
}
