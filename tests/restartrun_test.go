package tests

import (
	"fmt"
	"maps"
	"slices"
	"testing"

	"loop.example/g00332/impl"
)

// restartRun is a run of an engine whose power goes, and comes again.
type restartRun struct {
	*engineRun
}

// committed are the tables without what open ones did: no two of them changed one row.
func (p *plainTables) committed() [impl.MaxTables][]impl.Row {
	other := plainTables{maps.Clone(p.rows), maps.Clone(p.was)}
	for tx := range p.was {
		other.back(tx, 0)
	}
	return other.all()
}

func (p *plainTables) all() [impl.MaxTables][]impl.Row {
	var tables [impl.MaxTables][]impl.Row
	for i := range tables {
		tables[i] = p.table(i + 1)
	}
	return tables
}

// lost takes away what open ones did when the power went; of the one that was being committed the log decides.
func (run *restartRun) lost(name string, committing bool) {
	run.t.Helper()
	for tx := range maps.Clone(run.tables.was) {
		sure := slices.ContainsFunc(run.e.Store.Log, func(r impl.LogRecord) bool { return r.Tx == tx && r.Kind == impl.LoCommit })
		if sure && !committing {
			run.t.Fatalf("%s: transaction %d is committed, though nobody did that", name, tx)
		}
		if !sure {
			run.tables.back(tx, 0)
		}
		delete(run.tables.was, tx)
	}
}

func (run *restartRun) crash() string {
	keep := run.x.keep(8)
	e, code := impl.CrashEngine(run.e, keep)
	return run.done(fmt.Sprint("CrashEngine ", keep), e, code, run.plain.crash(keep), true)
}

func (run *restartRun) arm() string {
	keep := run.x.keep(4)
	e, code := impl.ArmEngine(run.e, keep)
	return run.done(fmt.Sprint("ArmEngine ", keep), e, code, run.plain.arm(keep), true)
}

func (run *restartRun) restart() string {
	e, code := impl.RestartEngine(run.e)
	return run.done("RestartEngine", e, code, run.plain.restart(), true)
}

func (run *restartRun) check() string {
	e, code := impl.TakeCheck(run.e)
	return run.done("TakeCheck", e, code, run.plain.takeCheck(), true)
}

func (run *restartRun) stepUp() string {
	switch kind := run.x.below(60); {
	case kind < 4:
		return run.check()
	case kind < 5:
		return run.crash()
	case kind < 6:
		return run.arm()
	case kind < 7:
		return run.restart()
	}
	return run.step()
}

func (run *restartRun) stepDown() string {
	switch kind := run.x.below(10); {
	case kind < 2:
		return run.arm()
	case kind < 3:
		return run.crash()
	case kind < 4:
		return run.check()
	case kind < 5:
		return run.step()
	}
	return run.restart()
}

func (run *restartRun) next() string {
	if !run.e.Up {
		return run.stepDown()
	}
	name := run.stepUp()
	if !run.e.Up {
		var call string
		fmt.Sscan(name, &call)
		run.lost(name, call == "CommitTx")
	}
	return name
}

// checkNow: the engine is right, and just what the rules say; what it has in its tables is what was put there.
func (run *restartRun) checkNow(name string) {
	t := run.t
	t.Helper()
	if !impl.EngineOK(run.e) {
		t.Fatalf("%s: not right", name)
	}
	run.plain.check(t, name, run.e)
	checkNeeds(t, name, run.e, undoNeeds(run.e))
	if run.e.Up {
		checkTables(t, name, run.e, run.tables.all())
	}
}

// checkFuture: whatever a crash keeps now, the restart behind it finds what was committed; so it does behind a checkpoint,
// behind one that was cut, and again.
func (run *restartRun) checkFuture(name string) {
	t, x := run.t, &run.x
	t.Helper()
	want := run.tables.committed()
	e := run.e
	if checked, code := impl.TakeCheck(engineWith(e, func(e *impl.Engine) { e.Store.Disk.Armed, e.Store.Disk.Keep = false, nil })); code == impl.OK && x.below(2) == 0 {
		checkTables(t, name+", a checkpoint", checked, run.tables.all())
		e, name = checked, name+", a checkpoint"
	}
	for i := range 3 {
		keep := x.keep(len(e.Store.Disk.Cache) + 1)
		down, code := impl.CrashEngine(e, keep)
		if code != impl.OK || !impl.EngineOK(down) {
			t.Fatalf("%s, crash %d: code %d", name, i, code)
		}
		if down, code = cutSometimes(x, down); code == impl.ErrMany {
			return
		}
		if !impl.EngineOK(down) || down.Up {
			t.Fatalf("%s, crash %d: cut, the engine is not right", name, i)
		}
		up, code := impl.RestartEngine(down)
		if code == impl.ErrMany {
			return
		}
		if code != impl.OK {
			t.Fatalf("%s, crash %d: RestartEngine: code %d", name, i, code)
		}
		checkUp(t, name, up)
		checkTables(t, fmt.Sprintf("%s, crash %d keeps %v", name, i, keep), up, want)
		checkTables(t, fmt.Sprintf("%s, crash %d, cut later", name, i), restarted(t, name, cutLater(x, down, up)), want)
		if i > 0 && !slices.Equal(up.Store.Log, e.Store.Log) {
			t.Fatalf("%s, crash %d: a restart of one in which nothing is open changes the log", name, i)
		}
		e = up
	}
}

// cutSometimes is an engine that is not up, and perhaps one more restart of it that was cut.
func cutSometimes(x *dice, down impl.Engine) (impl.Engine, int) {
	if x.below(2) == 0 {
		return down, impl.OK
	}
	armed, _ := impl.ArmEngine(down, x.keep(2))
	return impl.RestartEngine(armed)
}

// cutLater is what is left of a restart that was cut behind its header: some of the records that it added, and each page
// as it was ahead of it, or as it was put out, if that is not ahead of these.
func cutLater(x *dice, down, up impl.Engine) impl.Engine {
	n := len(down.Store.Log) + x.below(len(up.Store.Log)-len(down.Store.Log)+1)
	d := cloneDisk(down.Store.Disk)
	d.Sectors[0] = header(up.Store.Epoch)
	for _, r := range up.Store.Log[:n] {
		d.Sectors[impl.LogAt+r.Lsn-1] = bytesOfRecord(r)
	}
	for no := range impl.MaxPages {
		b, _ := impl.DiskRead(up.Store.Disk, pageAt(no))
		if p, code := impl.ReadPage(no, []byte(b)); code == impl.OK && p.Lsn <= n && x.below(2) == 0 {
			d.Sectors[pageAt(no)] = b
		}
	}
	return downWith(d)
}

func newRestartRun(t *testing.T, n int, codes map[string]int) *restartRun {
	return &restartRun{newEngineRun(t, n, codes)}
}

func TestRunsOfRestarts(t *testing.T) {
	t.Parallel()
	codes, longest, epochs := map[string]int{}, 0, 0
	for n := range 300 {
		run := newRestartRun(t, n+1000, codes)
		for i := range 120 {
			name := fmt.Sprintf("run %d, step %d, %s", n, i, run.next())
			run.checkNow(name)
			if run.x.below(12) == 0 && run.e.Up {
				run.checkFuture(name)
			}
			longest, epochs = max(longest, len(run.e.Store.Log)), max(epochs, run.e.Store.Epoch)
		}
	}
	for _, x := range []string{"TakeCheck 0", "TakeCheck 7", "TakeCheck 15", "CrashEngine 0", "ArmEngine 0", "RestartEngine 0", "RestartEngine 9", "RestartEngine 15",
		"CommitTx 0", "CommitTx 15", "AbortTx 0", "AbortTx 15", "RollbackTo 0", "PutRow 0", "PutRow 15", "DropRow 0"} {
		if codes[x] == 0 {
			t.Errorf("%s: never", x)
		}
	}
	if longest != impl.MaxLog || epochs < 8 {
		t.Errorf("the longest log has %d records, the last epoch is %d", longest, epochs)
	}
}

// story is an engine in the middle of work: of three tables, with transactions that are committed, aborted, gone back and
// open, pages put out and not, and part of the log sure.
func story(t *testing.T) *doer {
	t.Helper()
	d := newDoer(t)
	one, two, three := d.begin(), d.begin(), d.begin()
	d.put(one, 1, row(1, 1), row(2, 2), row(3, 3), row(4, 4))
	d.put(two, 2, row(1, 1), row(2, 2))
	d.put(one, 3, row(7, 7))
	d.commit(one)
	d.put(three, 3, row(8, 8), row(7, 70))
	four := d.begin()
	d.drop(four, 1, 2)
	d.put(four, 1, row(3, 30), row(5, 50))
	d.outDirty()
	place := d.last(three)
	d.put(three, 3, row(9, 9))
	d.drop(three, 3, 8)
	d.rollback(three, place)
	d.commit(four)
	d.abort(two)
	five := d.begin()
	d.put(five, 2, row(4, 4), row(5, 5))
	d.drop(five, 1, 1)
	d.outDirty()
	d.put(five, 2, row(5, 55))
	return d
}

// TestAStoryThatACrashEnds: just what was committed is there, whatever part of the writes is kept.
func TestAStoryThatACrashEnds(t *testing.T) {
	want := [impl.MaxTables][]impl.Row{{row(1, 1), row(3, 30), row(4, 4), row(5, 50)}, nil, {row(7, 7)}}
	for name, e := range map[string]impl.Engine{"no checkpoint": story(t).e, "a checkpoint": func() impl.Engine { d := story(t); d.check(); d.put(5, 2, row(6, 6)); return d.e }()} {
		d := &doer{t, e}
		for range 2 {
			n := len(d.e.Store.Disk.Cache)
			if n > 8 {
				t.Fatalf("%s: %d writes", name, n)
			}
			for _, keep := range append(keepsOf(n), nil, []int{1, 1, 1, 1, 1, 1, 1, 1, 1, 1}, []int{2, 2}, []int{-1, -1}) {
				other := &doer{t, d.e}
				for i := range 3 {
					other.crash(keep...)
					other.restart()
					checkUp(t, name, other.e)
					checkTables(t, fmt.Sprintf("%s, keep %v, crash %d", name, keep, i), other.e, want)
				}
			}
			d.e.Store = flushTo(t, d.e.Store, len(d.e.Store.Log))
		}
	}
}

// TestACommitInDoubt: with the writes of its log kept up to some record, it is there if all are, and is not otherwise.
func TestACommitInDoubt(t *testing.T) {
	d := story(t)
	five := d.e.Txs[len(d.e.Txs)-1].Id
	without := [impl.MaxTables][]impl.Row{{row(1, 1), row(3, 30), row(4, 4), row(5, 50)}, nil, {row(7, 7)}}
	with := [impl.MaxTables][]impl.Row{{row(3, 30), row(4, 4), row(5, 50)}, {row(4, 4), row(5, 55)}, {row(7, 7)}}
	ahead := len(d.e.Store.Disk.Cache)
	records := len(d.e.Store.Log) + 1 - d.e.Store.Sure
	for n := range ahead + records + 2 {
		for _, one := range []int{1, -7} {
			armed, _ := impl.ArmEngine(d.e, slices.Repeat([]int{one}, n))
			down, code := impl.CommitTx(armed, five)
			if code != impl.ErrDown {
				t.Fatalf("keep %d: code %d", n, code)
			}
			up := restarted(t, fmt.Sprint("keep ", n), down)
			checkTables(t, fmt.Sprint("keep ", n), up, pick(n >= ahead+records, with, without))
		}
	}
	// A hole in the log ends it, whatever is kept behind the hole.
	for hole := range records {
		keep := slices.Repeat([]int{1}, ahead+records)
		keep[ahead+hole] = 0
		armed, _ := impl.ArmEngine(d.e, keep)
		down, _ := impl.CommitTx(armed, five)
		up := restarted(t, fmt.Sprint("a hole at ", hole), down)
		checkTables(t, fmt.Sprint("a hole at ", hole), up, without)
		// What was kept behind the hole is of an older epoch, and does not come back.
		again := &doer{t, up}
		tx := again.begin()
		again.put(tx, 2, row(77, 7))
		again.commit(tx)
		again.crash()
		again.restart()
		want := without
		want[1] = []impl.Row{row(77, 7)}
		checkTables(t, fmt.Sprint("a hole at ", hole, ", again"), again.e, want)
	}
}

// TestRestartsWithAndWithoutACheckpoint: wherever checkpoints are taken, the tables behind a restart are the same.
func TestRestartsWithAndWithoutACheckpoint(t *testing.T) {
	for where := range 64 {
		d := newDoer(t)
		mark := func(i int) {
			if where>>i&1 > 0 {
				d.check()
			}
		}
		mark(0)
		one, two := d.begin(), d.begin()
		d.put(one, 1, row(1, 1), row(2, 2), row(3, 3), row(4, 4), row(5, 5))
		mark(1)
		d.put(two, 2, row(1, 1))
		d.drop(one, 1, 2)
		mark(2)
		d.outDirty()
		d.commit(one)
		mark(3)
		three := d.begin()
		d.put(three, 1, row(1, 10), row(6, 6))
		d.put(two, 2, row(2, 2))
		mark(4)
		d.abort(two)
		d.outDirty()
		d.drop(three, 1, 3)
		mark(5)
		d.e.Store = flushTo(t, d.e.Store, len(d.e.Store.Log))
		d.crash()
		d.restart()
		want := [impl.MaxTables][]impl.Row{{row(1, 1), row(3, 3), row(4, 4), row(5, 5)}}
		checkTables(t, fmt.Sprintf("checkpoints %06b", where), d.e, want)
		tx := d.begin()
		d.put(tx, 1, row(9, 9))
		mark(5)
		d.commit(tx)
		want[0] = append(want[0], row(9, 9))
		d.crash()
		d.restart()
		checkTables(t, fmt.Sprintf("checkpoints %06b, again", where), d.e, want)
	}
}
