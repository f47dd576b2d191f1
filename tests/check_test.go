package tests

import (
	"fmt"
	"slices"
	"testing"

	"loop.example/g00332/impl"
)

func (d *doer) check() {
	d.t.Helper()
	e, code := impl.TakeCheck(d.e)
	d.next("TakeCheck", e, code, impl.OK)
}

func (d *doer) evict(no int) {
	d.t.Helper()
	d.e.Store = evictFrom(d.t, d.e.Store, no)
}

// outDirty puts out all pages that are dirty.
func (d *doer) outDirty() {
	d.t.Helper()
	list, _ := impl.DirtyPages(d.e.Store)
	for _, no := range list {
		d.evict(no)
	}
}

func (d *doer) crash(keep ...int) {
	d.t.Helper()
	e, code := impl.CrashEngine(d.e, keep)
	d.next("CrashEngine", e, code, impl.OK)
}

func (d *doer) restart() {
	d.t.Helper()
	e, code := impl.RestartEngine(d.e)
	d.next("RestartEngine", e, code, impl.OK)
}

// tablesOf are all rows of all tables; the engine is up.
func tablesOf(t *testing.T, name string, e impl.Engine) [impl.MaxTables][]impl.Row {
	t.Helper()
	var tables [impl.MaxTables][]impl.Row
	for i := range tables {
		rows, code := impl.TableRows(e, i+1)
		if code != impl.OK {
			t.Fatalf("%s: TableRows of %d: code %d", name, i+1, code)
		}
		tables[i] = rows
	}
	return tables
}

func checkTables(t *testing.T, name string, e impl.Engine, want [impl.MaxTables][]impl.Row) {
	t.Helper()
	got := tablesOf(t, name, e)
	for i := range got {
		if !slices.Equal(got[i], want[i]) {
			t.Fatalf("%s: table %d has %v, want %v", name, i+1, got[i], want[i])
		}
	}
}

// checkpointed is what a checkpoint leaves, of an engine that is up, has room for it, and whose power stays: all writes
// are done, and the log is sure with one record more.
func checkpointed(e impl.Engine) impl.Engine {
	return engineWith(e, func(e *impl.Engine) {
		s := &e.Store
		first := map[int]int{}
		for _, f := range s.Frames {
			if f.Dirty {
				first[f.No] = f.First
			}
		}
		var pages, txs [][2]int
		for no := range impl.MaxPages {
			if first[no] > 0 {
				pages = append(pages, [2]int{no, first[no]})
			}
		}
		for _, x := range e.Txs {
			txs = append(txs, [2]int{x.Id, x.Last})
		}
		s.Log = append(s.Log, check(s.Epoch, len(s.Log)+1, pairs(pages...)+pairs(txs...)))
		for _, w := range s.Disk.Cache {
			s.Disk.Sectors[w.At] = w.Data
		}
		for _, r := range s.Log[s.Sure:] {
			s.Disk.Sectors[impl.LogAt+r.Lsn-1] = bytesOfRecord(r)
		}
		s.Disk.Cache, s.Sure = nil, len(s.Log)
	})
}

// TestWhatACheckpointTells looks at its record, and at all that it makes sure.
func TestWhatACheckpointTells(t *testing.T) {
	d := stocked(t, 31)
	d.check()
	if r := d.e.Store.Log[0]; r != check(1, 1, pairs()+pairs()) || d.e.Store.Sure != 1 {
		t.Errorf("of nothing: %+v", r)
	}
	one, two := d.begin(), d.begin()
	d.put(two, 3, row(29, 290))
	d.put(one, 3, row(22, 220), row(13, 130))
	d.put(two, 3, row(28, 280))
	d.rollback(one, 2)
	d.check()
	want := check(1, 10, pairs([2]int{3, 8}, [2]int{5, 9}, [2]int{7, 7})+pairs([2]int{one, 9}, [2]int{two, 7}))
	if r := d.e.Store.Log[9]; r != want || d.e.Store.Sure != 10 || len(d.e.Store.Disk.Cache) != 0 {
		t.Errorf("of three pages and two transactions: %+v %q, want %q", r, r.After, want.After)
	}
	d.evict(7)
	if len(d.e.Store.Disk.Cache) != 1 {
		t.Fatalf("a page that was put out: %d writes", len(d.e.Store.Disk.Cache))
	}
	d.abort(two)
	d.check()
	s := d.e.Store
	want = check(1, 14, pairs([2]int{3, 8}, [2]int{5, 9}, [2]int{7, 11})+pairs([2]int{one, 9}))
	if r := s.Log[13]; r != want || s.Sure != 14 || len(s.Disk.Cache) != 0 {
		t.Errorf("of a page that was put out and changed again: %+v %q, want %q", r, r.After, want.After)
	}
	if log, _ := impl.ReadLog(s.Disk, 1); !slices.Equal(log, s.Log) {
		t.Errorf("%d records are on the disk, of %d", len(log), len(s.Log))
	}
	checkDiskPage(t, "a page that was put out", s.Disk, 7, page(7, bytesOfRow(3, row(28, 280)), bytesOfRow(3, row(29, 290)), bytesOfRow(3, row(30, 30)), ""))
	d.commit(one)
	for no := range impl.MaxPages {
		if slices.ContainsFunc(d.e.Store.Frames, func(f impl.Frame) bool { return f.No == no }) {
			d.evict(no)
		}
	}
	d.check()
	if r := d.e.Store.Log[15]; r != check(1, 16, pairs()+pairs()) || len(d.e.Store.Disk.Cache) != 0 {
		t.Errorf("of nothing any more: %+v", r)
	}
}

// TestACheckpointOfTenTransactions: their numbers may be up to MaxTx, and their Lasts anywhere.
func TestACheckpointOfTenTransactions(t *testing.T) {
	for name, e := range map[string]impl.Engine{"the first": begun(1, 10), "the last": begun(51, 10)} {
		got, code := impl.TakeCheck(e)
		var txs [][2]int
		for _, x := range e.Txs {
			txs = append(txs, [2]int{x.Id, x.Last})
		}
		if code != impl.OK || got.Store.Log[10] != check(1, 11, pairs()+pairs(txs...)) || !impl.EngineOK(got) {
			t.Errorf("%s: code %d, %+v", name, code, got.Store.Log[10])
		}
	}
}

// TestACheckpointChangesNoTable: nor a frame, a lock or a transaction.
func TestACheckpointChangesNoTable(t *testing.T) {
	for name, e := range manyEngines(t) {
		if !e.Up || e.Store.Disk.Armed || roomAt(e) < 1 {
			continue
		}
		got, code := impl.TakeCheck(e)
		if code != impl.OK || !impl.EngineOK(got) {
			t.Errorf("%s: code %d", name, code)
			continue
		}
		checkEngine(t, name, got, checkpointed(e))
		checkTables(t, name, got, tablesOf(t, name, e))
	}
}

// roomAt is what the log has beyond what it takes to undo all.
func roomAt(e impl.Engine) int {
	n, _ := impl.UndoNeeds(e)
	return impl.MaxLog - len(e.Store.Log) - n
}

func TestRoomForACheckpoint(t *testing.T) {
	for n := range 4 {
		d, _ := crowded(t, n)
		got, code := impl.TakeCheck(d.e)
		if want := pick(n < 1, impl.ErrFull, impl.OK); code != want || !impl.EngineOK(got) {
			t.Errorf("room for %d: code %d, want %d", n, code, want)
		}
		if n < 1 {
			checkEngine(t, "room for none", got, d.e)
			continue
		}
		checkEngine(t, fmt.Sprint("room for ", n), got, checkpointed(d.e))
		checkUndone(t, fmt.Sprint("room for ", n), got)
	}
	for name, x := range map[string]struct {
		e    impl.Engine
		want int
	}{
		"a full log":               {filledUp(impl.NewEngine(), 60), impl.ErrFull},
		"59 records":               {filledUp(impl.NewEngine(), 59), impl.OK},
		"58 records":               {filledUp(impl.NewEngine(), 58), impl.OK},
		"10 are open, no room":     {filledUp(begun(1, 10), 40), impl.ErrFull},
		"10 are open, room for 1":  {filledUp(begun(1, 10), 39), impl.OK},
		"29 updates":               {updated(29), impl.ErrFull},
		"28 updates, no room":      {filledUp(updated(28), 2), impl.ErrFull},
		"28 updates, room for one": {filledUp(updated(28), 1), impl.OK},
		"not up, a full log":       {engineWith(filledUp(impl.NewEngine(), 60), func(e *impl.Engine) { e.Up = false }), impl.ErrDown},
	} {
		got, code := impl.TakeCheck(x.e)
		if code != x.want {
			t.Errorf("%s: code %d, want %d", name, code, x.want)
		}
		if x.want != impl.OK {
			checkEngine(t, name, got, x.e)
		}
	}
}

func TestTakeCheckCodes(t *testing.T) {
	for name, e := range rightEngines() {
		got, code := impl.TakeCheck(e)
		if !e.Up {
			if code != impl.ErrDown {
				t.Errorf("%s: code %d", name, code)
			}
			checkEngine(t, name, got, e)
		}
		got, code = impl.TakeCheck(spoiltEngine(e))
		if code != impl.ErrBad {
			t.Errorf("%s, not right: code %d", name, code)
		}
		checkEngine(t, name+", not right", got, impl.Engine{})
	}
	for name, e := range wrongEngines() {
		if got, code := impl.TakeCheck(e); code != impl.ErrBad || tellEngine(got) != tellEngine(impl.Engine{}) {
			t.Errorf("%s: code %d", name, code)
		}
	}
}

func plainCheck() powerCall {
	return powerCall{impl.TakeCheck, func(p *plainEngine) int { return p.takeCheck() }}
}

// TestPowerGoesAtACheckpoint: at its first sync, be there records to flush or pages alone, or nothing.
func TestPowerGoesAtACheckpoint(t *testing.T) {
	d, one := spread(t, 6)
	engines := map[string]impl.Engine{"records to flush": d.e}
	d.put(one, 3, row(25, 250))
	d.e.Store = flushTo(t, d.e.Store, len(d.e.Store.Log))
	d.evict(6)
	engines["a page alone"] = d.e
	d.e.Store = changed(d.e.Store, func(s *impl.Store) { s.Disk, _, _ = impl.DiskSync(s.Disk) })
	engines["nothing to write"] = d.e
	engines["a new engine"] = impl.NewEngine()
	for name, e := range engines {
		for _, keep := range manyKeeps() {
			checkGone(t, fmt.Sprintf("%s, keep %v", name, keep), armedEngine(e, keep...), plainCheck())
		}
		got, code := impl.TakeCheck(e)
		p := plainEngineOf(e)
		if want := p.takeCheck(); code != want || code != impl.OK {
			t.Errorf("%s: code %d, want %d", name, code, want)
		}
		p.check(t, name, got)
	}
	if len(engines["a page alone"].Store.Disk.Cache) != 1 {
		t.Error("there is no page alone")
	}
}

// TestACheckpointIsNotHeldUp: of writes that are not sure a disk takes no more than 500, but a sync leaves none of them.
func TestACheckpointIsNotHeldUp(t *testing.T) {
	for _, n := range []int{499, 500} {
		d, _ := manyEngineWrites(t, n)
		engines := map[string]impl.Engine{"all sure": d.e}
		d.begin()
		engines["all but one sure"] = d.e
		for name, e := range engines {
			got, code := impl.TakeCheck(e)
			if code != impl.OK {
				t.Errorf("%d writes, %s: code %d", n, name, code)
			}
			checkEngine(t, fmt.Sprintf("%d writes, %s", n, name), got, checkpointed(e))
		}
	}
}
