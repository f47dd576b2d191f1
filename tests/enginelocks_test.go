package tests

import (
	"fmt"
	"slices"
	"testing"

	"loop.example/g00332/impl"
)

// rowCalls are the calls that lock, with the modes of the table and of the row that the document tells (0: no row's).
func rowCalls(e impl.Engine, tx, table, id int) map[string]struct {
	modes [2]int
	call  func() (impl.Engine, int)
} {
	type of = struct {
		modes [2]int
		call  func() (impl.Engine, int)
	}
	return map[string]of{
		"PutRow":   {[2]int{impl.LkIX, impl.LkX}, func() (impl.Engine, int) { return impl.PutRow(e, tx, table, row(id, 4)) }},
		"DropRow":  {[2]int{impl.LkIX, impl.LkX}, func() (impl.Engine, int) { return impl.DropRow(e, tx, table, id) }},
		"GetRow":   {[2]int{impl.LkIS, impl.LkS}, func() (impl.Engine, int) { e, _, code := impl.GetRow(e, tx, table, id); return e, code }},
		"ScanRows": {[2]int{impl.LkS, 0}, func() (impl.Engine, int) { e, _, code := impl.ScanRows(e, tx, table); return e, code }},
	}
}

func locksOf(tx, table, id int, modes [2]int) []impl.Lock {
	list := []impl.Lock{lock(tx, table, -1, modes[0])}
	if modes[1] > 0 {
		list = append(list, lock(tx, table, id, modes[1]))
	}
	return list
}

func TestWhatEachCallLocks(t *testing.T) {
	d := stocked(t, 3)
	d.begin()
	tx := d.begin()
	for name, x := range rowCalls(d.e, tx, 3, 2) {
		e, code := x.call()
		if code != impl.OK {
			t.Errorf("%s: code %d", name, code)
		}
		checkLocks(t, name, e.Locks, impl.Locks{Held: locksOf(tx, 3, 2, x.modes)})
	}
	for name, x := range rowCalls(d.e, tx, 2, 2) {
		e, code := x.call()
		if want := map[string]int{"DropRow": impl.ErrNone, "GetRow": impl.ErrNone}[name]; code != want {
			t.Errorf("%s: code %d", name, code)
		}
		checkLocks(t, name+" of none", e.Locks, impl.Locks{Held: locksOf(tx, 2, 2, x.modes)})
	}
}

// TestEachLockAgainstEachOther: the other one holds a mode of the table, or of the row; of what is refused nothing is
// done, but what was locked ahead stays, and who is refused waits.
func TestEachLockAgainstEachOther(t *testing.T) {
	for _, k := range []impl.Lock{lock(1, 3, -1, impl.LkIS), lock(1, 3, -1, impl.LkIX), lock(1, 3, -1, impl.LkS), lock(1, 3, -1, impl.LkX),
		lock(1, 3, 2, impl.LkS), lock(1, 3, 2, impl.LkX), lock(1, 3, 1, impl.LkX), lock(1, 2, 2, impl.LkX), lock(1, 2, -1, impl.LkX)} {
		d := stocked(t, 3)
		d.begin()
		tx := d.begin()
		d.e.Locks = held(k)
		for name, x := range rowCalls(d.e, tx, 3, 2) {
			name = fmt.Sprintf("%s against %v", name, k)
			e, code := x.call()
			p, want := &plainLocks{held: []impl.Lock{k}}, impl.OK
			for _, asked := range locksOf(tx, 3, 2, x.modes) {
				if want == impl.OK {
					want = p.take(asked)
				}
			}
			if code != want {
				t.Errorf("%s: code %d, want %d", name, code, want)
			}
			checkLocks(t, name, e.Locks, p.asLocks())
			if code == impl.ErrWait {
				checkEngine(t, name, e, engineWith(d.e, func(e *impl.Engine) { e.Locks = p.asLocks() }))
			}
		}
	}
}

// TestWhoAsksWaitsNoMore: what one waited for ahead is gone with the next lock it asks for.
func TestWhoAsksWaitsNoMore(t *testing.T) {
	d := stocked(t, 3)
	one, two, three := d.begin(), d.begin(), d.begin()
	d.put(one, 3, row(0, 10))
	d.put(two, 3, row(1, 11))
	d.getCode(three, 3, 0, impl.ErrWait)
	if !slices.Equal(d.e.Locks.Waits, waiting(three, one)) {
		t.Errorf("waits %v", d.e.Locks.Waits)
	}
	d.getCode(three, 3, 1, impl.ErrWait)
	if !slices.Equal(d.e.Locks.Waits, waiting(three, two)) {
		t.Errorf("waits %v", d.e.Locks.Waits)
	}
	d.scanCode(three, 3, impl.ErrWait)
	if !slices.Equal(d.e.Locks.Waits, waiting(three, one, three, two)) {
		t.Errorf("waits %v", d.e.Locks.Waits)
	}
	d.abort(two)
	if !slices.Equal(d.e.Locks.Waits, waiting(three, one)) {
		t.Errorf("waits behind an abort: %v", d.e.Locks.Waits)
	}
	d.get(three, 3, row(2, 2))
	if len(d.e.Locks.Waits) != 0 {
		t.Errorf("waits %v", d.e.Locks.Waits)
	}
	d.scanCode(three, 3, impl.ErrWait)
	d.commit(one)
	if len(d.e.Locks.Waits) != 0 {
		t.Errorf("waits behind a commit: %v", d.e.Locks.Waits)
	}
	d.scan(three, 3, row(0, 10), row(1, 1), row(2, 2))
}

// TestGoingBackKeepsLocks, and waits.
func TestGoingBackKeepsLocks(t *testing.T) {
	d := stocked(t, 3)
	one, two := d.begin(), d.begin()
	d.put(one, 3, row(0, 10))
	d.put(two, 3, row(1, 11))
	d.getCode(two, 3, 0, impl.ErrWait)
	locks := d.e.Locks
	d.rollback(one, 1)
	checkLocks(t, "back", d.e.Locks, locks)
	d.rollback(two, 2)
	checkLocks(t, "who waits goes back", d.e.Locks, locks)
	d.getCode(two, 3, 0, impl.ErrWait)
}

// deadlocked: one holds row 0 and waits for row 1; two holds rows 1 and 2, has put and dropped, and is to ask for row 0.
func deadlocked(t *testing.T) (d *doer, one, two int) {
	t.Helper()
	d = stocked(t, 6)
	one, two = d.begin(), d.begin()
	d.put(two, 3, row(1, 11))
	d.drop(two, 3, 2)
	d.put(one, 3, row(0, 10))
	d.put(two, 3, row(1, 12))
	d.put(two, 2, row(9, 9))
	d.getCode(one, 3, 1, impl.ErrWait)
	return d, one, two
}

func TestDeadlockAborts(t *testing.T) {
	for name := range rowCalls(impl.Engine{}, 0, 0, 0) {
		d, one, two := deadlocked(t)
		was := d.e
		e, code := rowCalls(d.e, two, 3, 0)[name].call()
		d.next(name, e, code, impl.ErrDeadlock)
		log := d.e.Store.Log
		if len(d.e.Txs) != 1 || d.e.Txs[0].Id != one || len(log) != len(was.Store.Log)+5 || log[len(log)-1] != end(1, len(log), two, len(log)-1) {
			t.Errorf("%s: %v, %d records", name, d.e.Txs, len(log))
		}
		mine, _ := impl.LocksOfTx(was.Locks, one)
		checkLocks(t, name, d.e.Locks, impl.Locks{Held: mine})
		for _, call := range txCalls(d.e, two) {
			if _, code := call(); code != impl.ErrTx {
				t.Errorf("%s: the aborted one goes on, code %d", name, code)
			}
		}
		d.get(one, 3, row(1, 1))
		d.scan(one, 3, row(0, 10), row(1, 1), row(2, 2), row(3, 3), row(4, 4), row(5, 5))
		d.scan(one, 2)
	}
}

// TestDeadlockAnswersNothing: with the code there is no row, and there are none.
func TestDeadlockAnswersNothing(t *testing.T) {
	d, _, two := deadlocked(t)
	if _, r, code := impl.GetRow(d.e, two, 3, 0); code != impl.ErrDeadlock || r != (impl.Row{}) {
		t.Errorf("GetRow: %v, code %d", r, code)
	}
	if _, rows, code := impl.ScanRows(d.e, two, 3); code != impl.ErrDeadlock || len(rows) != 0 {
		t.Errorf("ScanRows: %v, code %d", rows, code)
	}
}

// TestDeadlockAtTheTable: the first lock that is asked for leads round, not the second one.
func TestDeadlockAtTheTable(t *testing.T) {
	d := stocked(t, 2)
	one, two := d.begin(), d.begin()
	d.scan(one, 1)
	d.scan(two, 2)
	d.putCode(one, 2, row(1, 1), impl.ErrWait)
	d.putCode(two, 1, row(1, 1), impl.ErrDeadlock)
	checkLocks(t, "behind it", d.e.Locks, held(lock(one, 1, -1, impl.LkS)))
	d.put(one, 2, row(1, 1))
}

// TestDeadlockWithoutRoom: there is room to abort, as there always is.
func TestDeadlockWithoutRoom(t *testing.T) {
	d, txs := crowded(t, 0)
	d.getCode(txs[0], 3, 7, impl.ErrWait)
	e, code := impl.DropRow(d.e, txs[2], 3, 1)
	d.next("DropRow", e, code, impl.ErrDeadlock)
	if len(d.e.Txs) != 2 || roomOf(d.e) != 0 {
		t.Errorf("%v, room for %d", d.e.Txs, roomOf(d.e))
	}
	checkUndone(t, "behind a deadlock", d.e)
}

// manyLocks holds n locks of one transaction: of table 1, and of rows from 0 on.
func manyLocks(t *testing.T, n int) (*doer, int) {
	t.Helper()
	d := stocked(t, 2)
	tx := d.begin()
	d.getCode(tx, 1, 0, impl.ErrNone)
	for id := 1; len(d.e.Locks.Held) < n; id++ {
		d.getCode(tx, 1, id, impl.ErrNone)
	}
	return d, tx
}

func TestNoRoomForLocks(t *testing.T) {
	for n := 57; n <= impl.MaxLocks; n++ {
		for _, table := range []int{1, 2} {
			d, tx := manyLocks(t, n)
			other := d.begin()
			for _, who := range []int{tx, other} {
				for name, x := range rowCalls(d.e, who, table, 100) {
					e, code := x.call()
					p, want := &plainLocks{held: slices.Clone(d.e.Locks.Held)}, impl.OK
					for _, asked := range locksOf(who, table, 100, x.modes) {
						if want == impl.OK {
							want = p.take(asked)
						}
					}
					name = fmt.Sprintf("%s of %d, table %d, %d locks", name, who, table, n)
					if want == impl.OK && code != impl.OK && code != impl.ErrNone || want != impl.OK && code != want {
						t.Errorf("%s: code %d, want %d", name, code, want)
					}
					checkLocks(t, name, e.Locks, p.asLocks())
					if want == impl.ErrFull {
						checkEngine(t, name, e, engineWith(d.e, func(e *impl.Engine) { e.Locks = p.asLocks() }))
					}
				}
			}
		}
	}
}

// TestNoRoomForWaits: ErrFull comes ahead of ErrDeadlock, and then nobody is aborted.
func TestNoRoomForWaits(t *testing.T) {
	d, one, two := deadlocked(t)
	three := d.begin()
	for n := 97; n <= 100; n++ {
		d.e.Locks.Waits = slices.Concat(waiting(one, two), slices.Repeat(waiting(three, two), n-1))
		for name, x := range rowCalls(d.e, two, 3, 0) {
			e, code := x.call()
			if want := pick(n == 100, impl.ErrFull, impl.ErrDeadlock); code != want || !impl.EngineOK(e) {
				t.Errorf("%s, %d waits: code %d, want %d", name, n, code, want)
			}
			if len(e.Txs) != pick(n == 100, 3, 2) {
				t.Errorf("%s, %d waits: %v", name, n, e.Txs)
			}
		}
	}
}

// TestStrongerLocks: a lock that one has by a greater one is not taken again; a greater one is, beside the lesser.
func TestStrongerLocks(t *testing.T) {
	d := stocked(t, 3)
	one, two := d.begin(), d.begin()
	d.get(one, 3, row(1, 1))
	d.get(two, 3, row(1, 1))
	d.putCode(one, 3, row(1, 2), impl.ErrWait)
	d.commit(two)
	d.put(one, 3, row(1, 2))
	want := []impl.Lock{lock(one, 3, -1, impl.LkIS), lock(one, 3, 1, impl.LkS), lock(one, 3, -1, impl.LkIX), lock(one, 3, 1, impl.LkX)}
	checkLocks(t, "put behind got", d.e.Locks, held(want...))
	d.get(one, 3, row(1, 2))
	d.drop(one, 3, 1)
	checkLocks(t, "got behind put", d.e.Locks, held(want...))
	d.scan(one, 3, row(0, 0), row(2, 2))
	checkLocks(t, "scanned behind put", d.e.Locks, held(append(want, lock(one, 3, -1, impl.LkS))...))
}
