package tests

import (
	"fmt"
	"maps"
	"slices"
	"testing"

	"loop.example/g00332/impl"
)

// plainTables are the rows by table and Id; each open transaction has, from its first change on, what was there ahead of
// each of them.
type plainTables struct {
	rows map[[2]int]impl.Row
	was  map[int][]plainChange
}

type plainChange struct {
	lsn   int
	key   [2]int
	row   impl.Row
	there bool
}

func (p *plainTables) change(tx, lsn, table, id int, r *impl.Row) {
	key := [2]int{table, id}
	old, there := p.rows[key]
	p.was[tx] = append(p.was[tx], plainChange{lsn, key, old, there})
	if r == nil {
		delete(p.rows, key)
	} else {
		p.rows[key] = *r
	}
}

func (p *plainTables) back(tx, lsn int) {
	list := p.was[tx]
	for len(list) > 0 && list[len(list)-1].lsn > lsn {
		c := list[len(list)-1]
		list = list[:len(list)-1]
		if c.there {
			p.rows[c.key] = c.row
		} else {
			delete(p.rows, c.key)
		}
	}
	p.was[tx] = list
}

func (p *plainTables) table(table int) []impl.Row {
	var list []impl.Row
	for _, key := range slices.SortedFunc(maps.Keys(p.rows), func(a, b [2]int) int { return a[1] - b[1] }) {
		if key[0] == table {
			list = append(list, p.rows[key])
		}
	}
	return list
}

// engineRun has an engine, and what it must be, by the document's rules and by the rows alone.
type engineRun struct {
	t      *testing.T
	x      dice
	e      impl.Engine
	plain  *plainEngine
	tables plainTables
	codes  map[string]int
	most   int
}

// tx is one that is open, mostly.
func (run *engineRun) tx() int {
	if n := len(run.e.Txs); n > 0 && run.x.below(30) > 0 {
		return run.e.Txs[run.x.below(n)].Id
	}
	return run.x.below(run.e.Next + 2)
}

func (run *engineRun) row(id int) impl.Row {
	r := impl.Row{Id: id}
	if run.x.below(4) > 0 {
		r.N = number(run.x.below(2000) - 1000)
	}
	if run.x.below(4) > 0 {
		r.Name = word("abcdefghij"[:run.x.below(11)])
	}
	return r
}

// step does one thing, to the engine and to what it must be.
func (run *engineRun) step() string {
	x := &run.x
	tx, table, id := run.tx(), 1+x.below(3), x.below(run.most)
	switch kind := x.below(40); {
	case kind < 5:
		e, tx, code := impl.BeginTx(run.e)
		wantTx, want := run.plain.begin()
		return run.done(fmt.Sprint("BeginTx ", tx), e, code, want, tx == wantTx)
	case kind < 18:
		r := run.row(id)
		e, code := impl.PutRow(run.e, tx, table, r)
		want := run.plain.set(tx, table, id, bytesOfRow(table, r))
		if code == impl.OK {
			run.tables.change(tx, len(e.Store.Log), table, id, &r)
		}
		return run.done(fmt.Sprintf("PutRow %d, %d, %v", tx, table, r), e, code, want, true)
	case kind < 24:
		e, code := impl.DropRow(run.e, tx, table, id)
		want := run.plain.set(tx, table, id, "")
		if code == impl.OK {
			run.tables.change(tx, len(e.Store.Log), table, id, nil)
		}
		return run.done(fmt.Sprintf("DropRow %d, %d, %d", tx, table, id), e, code, want, true)
	case kind < 29:
		e, r, code := impl.GetRow(run.e, tx, table, id)
		wantRow, want := run.plain.get(tx, table, id)
		stands, there := run.tables.rows[[2]int{table, id}]
		right := r == wantRow && (code != impl.OK || there && r == stands) && (code != impl.ErrNone || !there)
		return run.done(fmt.Sprintf("GetRow %d, %d, %d", tx, table, id), e, code, want, right)
	case kind < 31:
		e, rows, code := impl.ScanRows(run.e, tx, table)
		wantRows, want := run.plain.scan(tx, table)
		right := slices.Equal(rows, wantRows) && (code != impl.OK || slices.Equal(rows, run.tables.table(table)))
		return run.done(fmt.Sprintf("ScanRows %d, %d", tx, table), e, code, want, right)
	case kind < 33:
		lsn := x.below(len(run.e.Store.Log) + 2)
		e, code := impl.RollbackTo(run.e, tx, lsn)
		want := run.plain.rollback(tx, lsn)
		if code == impl.OK {
			run.tables.back(tx, lsn)
		}
		return run.done(fmt.Sprintf("RollbackTo %d, %d", tx, lsn), e, code, want, true)
	default:
		return run.other(kind, tx)
	}
}

func (run *engineRun) other(kind, tx int) string {
	x := &run.x
	switch {
	case kind < 35:
		e, code := impl.CommitTx(run.e, tx)
		want := run.plain.commit(tx)
		if code == impl.OK {
			delete(run.tables.was, tx)
		}
		return run.done(fmt.Sprint("CommitTx ", tx), e, code, want, true)
	case kind < 38:
		e, code := impl.AbortTx(run.e, tx)
		want := run.plain.abort(tx)
		if code == impl.OK {
			run.tables.back(tx, 0)
		}
		return run.done(fmt.Sprint("AbortTx ", tx), e, code, want, true)
	case kind < 39 && run.e.Up:
		no := x.below(impl.MaxPages)
		s, alive, code := impl.EvictPage(run.e.Store, no)
		if run.plain.pool.disk.armed || !alive {
			return "nothing"
		}
		_, want := run.plain.pool.evict(no)
		return run.done(fmt.Sprint("EvictPage ", no), engineWith(run.e, func(e *impl.Engine) { e.Store = s }), code, want, true)
	case x.below(12) == 0:
		keep := x.keep(8)
		run.plain.pool.disk.armed, run.plain.pool.disk.keep = true, keep
		return run.done("arm", engineWith(run.e, func(e *impl.Engine) { e.Store.Disk.Armed, e.Store.Disk.Keep = true, keep }), 0, 0, true)
	}
	return "nothing"
}

func (run *engineRun) done(name string, e impl.Engine, code, want int, right bool) string {
	run.t.Helper()
	if code != want || !right {
		run.t.Fatalf("%s: code %d, want %d, the rest is right: %v", name, code, want, right)
	}
	if code == impl.ErrDeadlock {
		for tx := range run.tables.was {
			if run.plain.open(tx) == nil {
				run.tables.back(tx, 0)
			}
		}
	}
	run.e = e
	var call string
	fmt.Sscan(name, &call)
	run.codes[fmt.Sprint(call, " ", code)]++
	return name
}

// newEngineRun begins with an engine that is new, or has rows of table 3 in some or nearly all of its slots.
func newEngineRun(t *testing.T, n int, codes map[string]int) *engineRun {
	run := &engineRun{t: t, x: dice(n), codes: codes, tables: plainTables{map[[2]int]impl.Row{}, map[int][]plainChange{}}}
	run.most = 3 + run.x.below(40)
	stock := run.x.below(3) * (5 + run.x.below(11))
	run.e = stocked(t, stock).e
	run.plain = plainEngineOf(run.e)
	for id := range stock {
		run.tables.rows[[2]int{3, id}] = row(id, id)
	}
	return run
}

// TestRunsOfAnEngine: whatever is done, the engine is right, and just what the document says; it ends soon behind the
// power's going.
func TestRunsOfAnEngine(t *testing.T) {
	t.Parallel()
	codes, longest := map[string]int{}, 0
	for n := range 400 {
		run := newEngineRun(t, n, codes)
		for i, left := 0, 110; i < left; i++ {
			if up := run.e.Up; !up {
				left = min(left, i+5)
			}
			name := fmt.Sprintf("run %d, step %d, %s", n, i, run.step())
			if !impl.EngineOK(run.e) {
				t.Fatalf("%s: not right", name)
			}
			run.plain.check(t, name, run.e)
			longest = max(longest, len(run.e.Store.Log))
		}
		undoAll(t, run)
	}
	for _, call := range []string{"PutRow", "DropRow", "GetRow", "ScanRows"} {
		for _, code := range []int{impl.OK, impl.ErrWait, impl.ErrDeadlock, impl.ErrTx, impl.ErrDown} {
			if codes[fmt.Sprint(call, " ", code)] == 0 {
				t.Errorf("%s never had code %d", call, code)
			}
		}
	}
	for _, x := range []string{"PutRow 12", "PutRow 7", "DropRow 7", "DropRow 5", "GetRow 5", "BeginTx 6", "BeginTx 7", "BeginTx 15", "CommitTx 0", "CommitTx 15",
		"AbortTx 0", "AbortTx 15", "RollbackTo 0", "RollbackTo 5", "RollbackTo 15", "EvictPage 0"} {
		if codes[x] == 0 {
			t.Errorf("%s: never", x)
		}
	}
	if longest != impl.MaxLog {
		t.Errorf("the longest log has %d records", longest)
	}
}

// undoAll: at the end of a run each open transaction is aborted, and there is room for all of it.
func undoAll(t *testing.T, run *engineRun) {
	t.Helper()
	if !run.e.Up {
		return
	}
	e := engineWith(run.e, func(e *impl.Engine) { e.Store.Disk.Armed, e.Store.Disk.Keep = false, nil })
	for len(e.Txs) > 0 {
		tx := e.Txs[run.x.below(len(e.Txs))].Id
		next, code := impl.AbortTx(e, tx)
		if code != impl.OK || !impl.EngineOK(next) {
			t.Fatalf("AbortTx %d at the end: code %d", tx, code)
		}
		run.tables.back(tx, 0)
		e = next
	}
	if len(e.Store.Log)+2 > impl.MaxLog || e.Next > impl.MaxTx {
		return
	}
	d := &doer{t, e}
	for table := 1; table <= 3; table++ {
		d.seen(table, run.tables.table(table)...)
	}
}
