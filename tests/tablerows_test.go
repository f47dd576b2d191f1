package tests

import (
	"fmt"
	"maps"
	"math"
	"slices"
	"testing"

	"loop.example/g00332/impl"
)

// standing are a table's rows, as the pages stand in frames, else on the disk; a later place is overwritten by an earlier.
func standing(e impl.Engine, table int) []impl.Row {
	byId := map[int]impl.Row{}
	for no := impl.MaxPages - 1; no >= 0; no-- {
		b, _ := impl.DiskRead(e.Store.Disk, pageAt(no))
		p, _ := impl.ReadPage(no, []byte(b))
		for _, f := range e.Store.Frames {
			if f.No == no {
				p = f.Page
			}
		}
		for _, record := range slices.Backward(p.Slots) {
			if of, r, code := impl.ReadRow([]byte(record)); code == impl.OK && of == table {
				byId[r.Id] = r
			}
		}
	}
	var rows []impl.Row
	for _, id := range slices.Sorted(maps.Keys(byId)) {
		rows = append(rows, byId[id])
	}
	return rows
}

func (d *doer) rows(table int, want ...impl.Row) {
	d.t.Helper()
	rows, code := impl.TableRows(d.e, table)
	if code != impl.OK || !slices.Equal(rows, want) {
		d.t.Errorf("TableRows(%d): %v, code %d, want %v", table, rows, code, want)
	}
}

// TestRowsWhoeverPutThem: of open ones, of those that are over, and of those that went back.
func TestRowsWhoeverPutThem(t *testing.T) {
	d := newDoer(t)
	d.rows(1)
	one, two := d.begin(), d.begin()
	d.put(one, 1, row(9, 1), row(2, 2), row(5, 3))
	d.put(two, 2, row(9, 4))
	d.put(two, 3, row(1000, 5), row(0, 6))
	d.rows(1, row(2, 2), row(5, 3), row(9, 1))
	d.rows(2, row(9, 4))
	d.rows(3, row(0, 6), row(1000, 5))
	d.commit(two)
	d.drop(one, 1, 5)
	d.put(one, 1, row(9, 7))
	d.rows(1, row(2, 2), row(9, 7))
	d.rows(3, row(0, 6), row(1000, 5))
	d.rollback(one, 4)
	d.rows(1, row(2, 2), row(9, 1))
	d.abort(one)
	d.rows(1)
	d.rows(2, row(9, 4))
}

// TestRowsOfFramesAndOfTheDisk: a page that has a frame is told by it, be it dirty or not; one that is put out by the
// last write of it.
func TestRowsOfFramesAndOfTheDisk(t *testing.T) {
	for pages := 1; pages <= 7; pages++ {
		d, _ := spread(t, pages)
		want := rowsOf(0, 31)
		for no := range pages {
			want[no*4+1] = row(no*4+1, no)
		}
		want[29] = row(29, 290)
		d.rows(3, want...)
		d.rows(1)
		for no := range impl.MaxPages {
			s, _ := fetchFrom(t, d.e.Store, no)
			(&doer{t, engineWith(d.e, func(e *impl.Engine) { e.Store = s })}).rows(3, want...)
		}
	}
	for name, e := range manyEngines(t) {
		if !e.Up {
			continue
		}
		for table := 1; table <= impl.MaxTables; table++ {
			if rows, code := impl.TableRows(e, table); code != impl.OK || !slices.Equal(rows, standing(e, table)) {
				t.Errorf("%s, table %d: %v, code %d, want %v", name, table, rows, code, standing(e, table))
			}
		}
	}
}

// TestRowsThatStandTwice: the first place counts, by page and slot, be it in a frame or on the disk.
func TestRowsThatStandTwice(t *testing.T) {
	d := twice(t)
	want := []impl.Row{row(5, 3), row(6, 60)}
	d.rows(1, want...)
	d.rows(2, row(5, 70))
	for _, order := range orders([]int{1, 4, 6}) {
		other := &doer{t, d.e}
		for _, no := range order {
			other.e.Store, _ = fetchFrom(t, other.e.Store, no)
			other.rows(1, want...)
		}
	}
	tx := d.begin()
	for _, n := range []int{2, 1} {
		d.drop(tx, 1, 5)
		d.rows(1, row(5, n), row(6, 60))
	}
	d.drop(tx, 1, 5)
	d.rows(1, row(6, 60))
}

// TestRecordsThatAreNobodysRows: they are left out.
func TestRecordsThatAreNobodysRows(t *testing.T) {
	for name, b := range noRows() {
		if len(b) > impl.MaxRecord {
			continue
		}
		e := impl.NewEngine()
		e.Store.Disk.Sectors[pageAt(2)] = bytesOfPage(2, page(0, b, bytesOfRow(2, row(1, 1)), b, ""))
		for table := 1; table <= impl.MaxTables; table++ {
			rows, code := impl.TableRows(e, table)
			if code != impl.OK || len(rows) != pick(table == 2, 1, 0) {
				t.Errorf("%s, table %d: %v, code %d", name, table, rows, code)
			}
		}
	}
}

// TestRowsOfAFullDatabase: 32 slots.
func TestRowsOfAFullDatabase(t *testing.T) {
	d := stocked(t, 32)
	d.rows(3, rowsOf(0, 32)...)
}

// TestTableRowsNeedsNoPower: nothing is put out for it, though the pages that are asked for have no frames.
func TestTableRowsNeedsNoPower(t *testing.T) {
	d, _ := spread(t, 7)
	e := armedEngine(d.e)
	if rows, code := impl.TableRows(e, 3); code != impl.OK || len(rows) != 31 {
		t.Errorf("an armed disk: %d rows, code %d", len(rows), code)
	}
	full, _ := manyEngineWrites(t, 500)
	if rows, code := impl.TableRows(full.e, 3); code != impl.OK || len(rows) != 31 {
		t.Errorf("500 writes: %d rows, code %d", len(rows), code)
	}
}

func TestTableRowsCodes(t *testing.T) {
	for n := range 8 {
		wrong, table, down := n&1 > 0, n&2 > 0, n&4 > 0
		e := pick(down, downEngine(), someEngine())
		if wrong {
			e = spoiltEngine(e)
		}
		want := impl.OK
		switch {
		case wrong:
			want = impl.ErrBad
		case table:
			want = impl.ErrRange
		case down:
			want = impl.ErrDown
		}
		if rows, code := impl.TableRows(e, pick(table, impl.MaxTables+1, 1)); code != want || (len(rows) > 0) != (want == impl.OK) {
			t.Errorf("wrong %v, table %v, down %v: %v, code %d, want %d", wrong, table, down, rows, code, want)
		}
	}
	for _, table := range []int{math.MinInt, -1, 0, 1, 2, 3, 4, 5, 256, 257, math.MaxInt} {
		rows, code := impl.TableRows(stocked(t, 5).e, table)
		want := pick(1 <= table && table <= impl.MaxTables, impl.OK, impl.ErrRange)
		if code != want || len(rows) != pick(table == 3, 5, 0) {
			t.Errorf("table %d: %v, code %d, want %d", table, rows, code, want)
		}
	}
	for name, e := range wrongEngines() {
		for _, table := range []int{0, 1} {
			if rows, code := impl.TableRows(e, table); code != impl.ErrBad || len(rows) > 0 {
				t.Errorf("%s: %v, code %d", name, rows, code)
			}
		}
		if n, code := impl.UndoNeeds(e); code != impl.ErrBad || n != 0 {
			t.Errorf("%s: UndoNeeds %d, code %d", name, n, code)
		}
	}
}

func checkNeeds(t *testing.T, name string, e impl.Engine, want int) {
	t.Helper()
	if n, code := impl.UndoNeeds(e); code != impl.OK || n != want || len(e.Store.Log)+n > impl.MaxLog {
		t.Errorf("%s: UndoNeeds %d, code %d, want %d; %d records", name, n, code, want, len(e.Store.Log))
	}
}

func TestWhatUndoingAllTakes(t *testing.T) {
	for name, x := range map[string]struct {
		e    impl.Engine
		want int
	}{
		"a new engine":            {impl.NewEngine(), 0},
		"not up":                  {downEngine(), 0},
		"10 are open":             {begun(51, 10), 10},
		"29 updates":              {updated(29), 30},
		"a full log":              {filledUp(impl.NewEngine(), 60), 0},
		"some engine":             {someEngine(), 5},
		"a CLR back to the begin": {rightEngines()["a CLR back to the begin"], 4},
		"a CLR back to itself":    {rightEngines()["a CLR back to its update"], 6},
		"a CLR back to one aside": {rightEngines()["a CLR back to one aside"], 5},
	} {
		checkNeeds(t, name, x.e, x.want)
	}
}

// TestUndoNeedsIsJustWhatItTakes: in any order; each step of it takes what it adds.
func TestUndoNeedsIsJustWhatItTakes(t *testing.T) {
	for n := range 4 {
		d, txs := crowded(t, n)
		needs := undoNeeds(d.e)
		checkNeeds(t, "crowded", d.e, needs)
		for _, order := range orders(txs) {
			other := &doer{t, d.e}
			for i, tx := range order {
				if i == 1 {
					was := len(other.e.Store.Log)
					other.rollback(tx, other.e.Store.Log[slices.IndexFunc(other.e.Store.Log, func(r impl.LogRecord) bool { return r.Tx == tx })].Lsn)
					checkNeeds(t, fmt.Sprint(order, " gone back"), other.e, needs-(was-len(d.e.Store.Log))-(len(other.e.Store.Log)-was))
				}
				other.abort(tx)
				checkNeeds(t, fmt.Sprint(order), other.e, needs-(len(other.e.Store.Log)-len(d.e.Store.Log)))
			}
			checkNeeds(t, fmt.Sprint(order, " at the end"), other.e, 0)
		}
		other := &doer{t, d.e}
		other.e.Store = flushTo(t, other.e.Store, len(other.e.Store.Log))
		other.crash()
		checkNeeds(t, "down", other.e, 0)
		other.restart()
		if added := len(other.e.Store.Log) - len(d.e.Store.Log); added != needs {
			t.Errorf("a restart adds %d records, want %d", added, needs)
		}
	}
}

func TestUndoNeedsOfEachStep(t *testing.T) {
	d := newDoer(t)
	one := d.begin()
	checkNeeds(t, "a begin", d.e, 1)
	d.put(one, 1, row(1, 1))
	checkNeeds(t, "a put", d.e, 2)
	two := d.begin()
	d.put(two, 2, row(1, 1), row(1, 2))
	checkNeeds(t, "another one", d.e, 5)
	d.drop(one, 1, 1)
	checkNeeds(t, "a drop", d.e, 6)
	d.check()
	checkNeeds(t, "a checkpoint", d.e, 6)
	d.rollback(two, 4)
	checkNeeds(t, "a going back", d.e, 5)
	d.commit(one)
	checkNeeds(t, "a commit", d.e, 2)
	d.abort(two)
	checkNeeds(t, "an abort", d.e, 0)
}
