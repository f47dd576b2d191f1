package tests

import (
	"fmt"
	"slices"
	"testing"

	"loop.example/g00332/impl"
)

func armedEngine(e impl.Engine, keep ...int) impl.Engine {
	return engineWith(e, func(e *impl.Engine) { e.Store.Disk.Armed, e.Store.Disk.Keep = true, keep })
}

// powerCall is a call, as the program does it and as the plain engine does.
type powerCall struct {
	call  func(e impl.Engine) (impl.Engine, int)
	plain func(p *plainEngine) int
}

// powerCalls are all calls that may lose the power, of one transaction that has row id of table 3.
func powerCalls(tx, id, lsn int) map[string]powerCall {
	return map[string]powerCall{
		"PutRow": {func(e impl.Engine) (impl.Engine, int) { return impl.PutRow(e, tx, 3, row(id, 99)) },
			func(p *plainEngine) int { return p.set(tx, 3, id, bytesOfRow(3, row(id, 99))) }},
		"PutRow of a new row": {func(e impl.Engine) (impl.Engine, int) { return impl.PutRow(e, tx, 1, row(9, 99)) },
			func(p *plainEngine) int { return p.set(tx, 1, 9, bytesOfRow(1, row(9, 99))) }},
		"DropRow": {func(e impl.Engine) (impl.Engine, int) { return impl.DropRow(e, tx, 3, id) },
			func(p *plainEngine) int { return p.set(tx, 3, id, "") }},
		"DropRow of none": {func(e impl.Engine) (impl.Engine, int) { return impl.DropRow(e, tx, 2, id) },
			func(p *plainEngine) int { return p.set(tx, 2, id, "") }},
		"GetRow": {func(e impl.Engine) (impl.Engine, int) {
			e, r, code := impl.GetRow(e, tx, 3, id)
			return noRow(e, r, code)
		},
			func(p *plainEngine) int { _, code := p.get(tx, 3, id); return code }},
		"ScanRows": {func(e impl.Engine) (impl.Engine, int) {
			e, rows, code := impl.ScanRows(e, tx, 2)
			return noRow(e, impl.Row{Id: len(rows)}, code)
		}, func(p *plainEngine) int { _, code := p.scan(tx, 2); return code }},
		"CommitTx": {func(e impl.Engine) (impl.Engine, int) { return impl.CommitTx(e, tx) },
			func(p *plainEngine) int { return p.commit(tx) }},
		"AbortTx": {func(e impl.Engine) (impl.Engine, int) { return impl.AbortTx(e, tx) },
			func(p *plainEngine) int { return p.abort(tx) }},
		"RollbackTo": {func(e impl.Engine) (impl.Engine, int) { return impl.RollbackTo(e, tx, lsn) },
			func(p *plainEngine) int { return p.rollback(tx, lsn) }},
	}
}

// noRow makes an answer wrong that has a row beside a code.
func noRow(e impl.Engine, r impl.Row, code int) (impl.Engine, int) {
	if code != impl.OK && r != (impl.Row{}) {
		return e, -1
	}
	return e, code
}

// checkGone: the power goes in the call, and the engine is as the chapter tells it.
func checkGone(t *testing.T, name string, e impl.Engine, c powerCall) {
	t.Helper()
	got, code := c.call(e)
	p := plainEngineOf(e)
	if want := c.plain(p); code != impl.ErrDown || want != impl.ErrDown {
		t.Fatalf("%s: code %d, the plain engine's %d", name, code, want)
	}
	p.check(t, name, got)
	if got.Up || len(got.Txs) != 0 || len(got.Locks.Held)+len(got.Locks.Waits) != 0 || got.Next != e.Next || !impl.EngineOK(got) {
		t.Errorf("%s: %.1000s", name, tellEngine(got))
	}
	s := got.Store
	log, _ := impl.ReadLog(s.Disk, e.Store.Epoch)
	if !slices.Equal(s.Log, log) || s.Sure != len(log) || len(s.Frames) != 0 || s.Hand != 0 || s.Epoch != e.Store.Epoch || s.Disk.Armed || len(s.Disk.Cache) != 0 {
		t.Errorf("%s: %.1000s", name, tellStore(s))
	}
	if len(log) < e.Store.Sure || !slices.Equal(log[:e.Store.Sure], e.Store.Log[:e.Store.Sure]) {
		t.Errorf("%s: %d records were sure, %d are read", name, e.Store.Sure, len(log))
	}
	for of, call := range txCalls(got, 1) {
		after, code := call()
		if code != impl.ErrDown {
			t.Errorf("%s, then %s: code %d", name, of, code)
		}
		checkEngine(t, name+", then "+of, after, got)
	}
	if after, tx, code := impl.BeginTx(got); tx != 0 || code != impl.ErrDown || !sameEngine(after, got) {
		t.Errorf("%s, then BeginTx: %d, code %d", name, tx, code)
	}
}

// spread has two open ones, of which the first has changed a row of each of the first pages, and the second one row of
// the last page.
func spread(t *testing.T, pages int) (d *doer, one int) {
	t.Helper()
	d = stocked(t, 31)
	one, two := d.begin(), d.begin()
	d.put(two, 3, row(29, 290))
	for no := range pages {
		d.put(one, 3, row(no*4+1, no))
	}
	return d, one
}

func manyKeeps() [][]int {
	return append(keepsOf(4), nil, slices.Repeat([]int{1}, 80), slices.Repeat([]int{0, 1}, 20), []int{1, 1, 1, 1, 1, 0, 1, 1}, []int{0, 0, 0, 0, 0, -1, 7})
}

func TestPowerGoesInEachCall(t *testing.T) {
	t.Parallel()
	for pages := 1; pages <= 7; pages++ {
		d, one := spread(t, pages)
		for name, c := range powerCalls(one, 1, 1) {
			if pages < 5 && (name == "AbortTx" || name == "RollbackTo") {
				continue // no page that was changed must go out for it
			}
			for _, keep := range manyKeeps() {
				checkGone(t, fmt.Sprintf("%s, %d pages, keep %v", name, pages, keep), armedEngine(d.e, keep...), c)
			}
		}
	}
}

// TestPowerGoesLateInAnUndoing: all is sure ahead of it, so that the first flush is that of a page with CLRs.
func TestPowerGoesLateInAnUndoing(t *testing.T) {
	d, one := spread(t, 7)
	s, alive, code := impl.FlushLog(d.e.Store, len(d.e.Store.Log))
	if !alive || code != impl.OK {
		t.Fatalf("FlushLog: %v, code %d", alive, code)
	}
	d.e.Store = s
	for _, name := range []string{"AbortTx", "RollbackTo"} {
		for lsn := range 5 {
			if lsn == 0 || lsn == 2 || lsn == 3 {
				continue // not of its records
			}
			c := powerCalls(one, 1, lsn)[name]
			for _, keep := range manyKeeps() {
				checkGone(t, fmt.Sprintf("%s to %d, keep %v", name, lsn, keep), armedEngine(d.e, keep...), c)
			}
		}
	}
}

// TestPowerGoesInAScan: the rows that were met ahead of it are not told.
func TestPowerGoesInAScan(t *testing.T) {
	for _, id := range []int{0, 13, 30} {
		d := stocked(t, 31)
		tx := d.begin()
		d.put(tx, 3, row(id, 99))
		if _, rows, code := impl.ScanRows(armedEngine(d.e), tx, 3); code != impl.ErrDown || len(rows) != 0 {
			t.Errorf("row %d is changed: %v, code %d", id, rows, code)
		}
		if _, rows, code := impl.ScanRows(d.e, tx, 3); code != impl.OK || len(rows) != 31 {
			t.Errorf("row %d is changed: %d rows, code %d", id, len(rows), code)
		}
	}
}

// TestPowerStaysWhereNothingIsFlushed: an armed disk goes at a sync alone.
func TestPowerStaysWhereNothingIsFlushed(t *testing.T) {
	d := stocked(t, 31)
	tx := d.begin()
	e := armedEngine(d.e)
	for name, c := range powerCalls(tx, 1, 1) {
		if name == "CommitTx" {
			continue
		}
		got, code := c.call(e)
		p := plainEngineOf(e)
		if want := c.plain(p); code != want || code == impl.ErrDown {
			t.Errorf("%s: code %d, want %d", name, code, want)
		}
		p.check(t, name, got)
		if !got.Store.Disk.Armed {
			t.Errorf("%s: it is not armed any more", name)
		}
	}
	if got, tx, code := impl.BeginTx(e); tx != 2 || code != impl.OK || !got.Store.Disk.Armed {
		t.Errorf("BeginTx: %d, code %d", tx, code)
	}
	checkGone(t, "CommitTx", e, powerCalls(tx, 1, 1)["CommitTx"])
}

// TestPowerGoesAsADeadlockIsUndone: then the code is ErrDown.
func TestPowerGoesAsADeadlockIsUndone(t *testing.T) {
	d, one := spread(t, 7)
	two := 2
	d.getCode(two, 3, 1, impl.ErrWait)
	calls := powerCalls(one, 29, 1)
	calls["ScanRows"] = powerCall{func(e impl.Engine) (impl.Engine, int) { e, _, code := impl.ScanRows(e, one, 3); return e, code },
		func(p *plainEngine) int { _, code := p.scan(one, 3); return code }}
	for _, name := range []string{"PutRow", "DropRow", "GetRow", "ScanRows"} {
		c := calls[name]
		if _, code := c.call(d.e); code != impl.ErrDeadlock {
			t.Errorf("%s: code %d", name, code)
		}
		for _, keep := range manyKeeps() {
			checkGone(t, fmt.Sprintf("%s, keep %v", name, keep), armedEngine(d.e, keep...), c)
		}
	}
}

// TestACommitThatIsSure: with all writes kept its record is on the disk, with none it is not.
func TestACommitThatIsSure(t *testing.T) {
	d := newDoer(t)
	tx := d.begin()
	d.put(tx, 1, row(1, 1))
	for n := range 4 {
		down, code := impl.CommitTx(armedEngine(d.e, slices.Repeat([]int{1}, n)...), tx)
		want := append(slices.Clone(d.e.Store.Log), commit(1, 3, tx, 2))[:n]
		if code != impl.ErrDown || !slices.Equal(down.Store.Log, want) {
			t.Errorf("%d writes are kept: code %d, %+v", n, code, down.Store.Log)
		}
	}
}

func TestEnginesThatAreNotUp(t *testing.T) {
	for name, e := range rightEngines() {
		if e.Up {
			continue
		}
		for _, tx := range []int{-1, 0, 1, 2, 4, 60, 61} {
			calls := txCalls(e, tx)
			calls["BeginTx"] = func() (impl.Engine, int) { e, _, code := impl.BeginTx(e); return e, code }
			for of, call := range calls {
				got, code := call()
				if code != impl.ErrDown {
					t.Errorf("%s, %s of %d: code %d", name, of, tx, code)
				}
				checkEngine(t, name+", "+of, got, e)
			}
		}
	}
}

// manyEngineWrites has an engine whose disk has that many writes, and a page that must go out with nothing to flush.
func manyEngineWrites(t *testing.T, writesOfLog int) (*doer, int) {
	t.Helper()
	d, one := spread(t, 7)
	s := d.e.Store
	for len(s.Frames) > 0 {
		s = evictFrom(t, s, s.Frames[0].No)
	}
	for _, no := range []int{7, 6, 5} {
		s, _ = fetchFrom(t, s, no)
	}
	s = flushTo(t, s, len(s.Log))
	s.Frames[0].Dirty, s.Frames[0].First = true, 3
	d.e.Store = s
	d.e.Store.Disk.Cache = append(d.e.Store.Disk.Cache, writes(writesOfLog-len(d.e.Store.Disk.Cache), 60, 68)...)
	if !impl.EngineOK(d.e) || len(d.e.Store.Disk.Cache) != writesOfLog {
		t.Fatalf("the engine is not right, or has %d writes", len(d.e.Store.Disk.Cache))
	}
	return d, one
}

// TestADiskThatTakesNoMore: of a page that must go out, with nothing to flush ahead of it, the disk's own code is told;
// nothing is half done then.
func TestADiskThatTakesNoMore(t *testing.T) {
	d, one := manyEngineWrites(t, 500)
	for name, c := range powerCalls(one, 1, 1) {
		e, code := c.call(d.e)
		if name == "CommitTx" {
			if code != impl.OK || len(e.Store.Disk.Cache) != 0 {
				t.Errorf("%s: code %d", name, code)
			}
			continue
		}
		if code != impl.ErrFull || !impl.EngineOK(e) || len(e.Store.Log) != len(d.e.Store.Log) || !slices.Equal(e.Txs, d.e.Txs) {
			t.Errorf("%s: code %d, %d records", name, code, len(e.Store.Log))
		}
		if name == "AbortTx" || name == "RollbackTo" {
			checkEngine(t, name, e, d.e)
		}
	}
	d, one = manyEngineWrites(t, 499)
	for name, c := range powerCalls(one, 1, 1) {
		e, code := c.call(d.e)
		p := plainEngineOf(d.e)
		if want := c.plain(p); code != want || !impl.EngineOK(e) {
			t.Errorf("%s, 499 writes: code %d, want %d", name, code, want)
		}
		p.check(t, name+", 499 writes", e)
	}
}
