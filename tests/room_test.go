package tests

import (
	"fmt"
	"testing"

	"loop.example/g00332/impl"
)

// undoNeeds counts the updates that are not undone, of each open transaction, by what was done with them.
func undoNeeds(e impl.Engine) int {
	n := 0
	for _, x := range e.Txs {
		n += 1 + len(openUpdates(e.Store.Log[:x.Last], x.Id))
	}
	return n
}

// openUpdates goes from the first record on: each CLR takes away the last update that is left.
func openUpdates(log []impl.LogRecord, tx int) []impl.LogRecord {
	var list []impl.LogRecord
	for _, r := range log {
		switch {
		case r.Tx != tx:
		case r.Kind == impl.LoBegin:
			list = nil
		case r.Kind == impl.LoUpdate:
			list = append(list, r)
		case r.Kind == impl.LoClr:
			list = list[:len(list)-1]
		}
	}
	return list
}

func roomOf(e impl.Engine) int { return impl.MaxLog - len(e.Store.Log) - undoNeeds(e) }

// crowded has three open transactions with updates to be undone (one of them went back and did more), and a log with
// room for just n records more than what it takes to undo all.
func crowded(t *testing.T, n int) (*doer, []int) {
	t.Helper()
	d := stocked(t, 10)
	one, two, three := d.begin(), d.begin(), d.begin()
	d.put(one, 1, row(1, 1), row(2, 2), row(1, 3))
	d.put(two, 2, row(1, 1))
	d.drop(one, 3, 1)
	place := d.last(two)
	d.drop(two, 3, 2)
	d.put(two, 2, row(5, 5))
	d.rollback(two, place)
	d.put(two, 2, row(6, 6))
	d.put(three, 3, row(7, 70))
	for roomOf(d.e) > n+2 {
		d.commit(d.begin())
	}
	if roomOf(d.e) == n+1 {
		d.check()
	}
	if roomOf(d.e) == n+2 {
		d.commit(d.begin())
	}
	if got := roomOf(d.e); got != n || !impl.EngineOK(d.e) {
		t.Fatalf("room for %d, want %d", got, n)
	}
	return d, []int{one, two, three}
}

// orders are all orders of a list.
func orders(list []int) [][]int {
	if len(list) == 0 {
		return [][]int{nil}
	}
	var all [][]int
	for i, x := range list {
		var rest []int
		rest = append(append(rest, list[:i]...), list[i+1:]...)
		for _, o := range orders(rest) {
			all = append(all, append([]int{x}, o...))
		}
	}
	return all
}

// checkUndone aborts all open ones, in each order: none is refused, and the tables are as they were stocked.
func checkUndone(t *testing.T, name string, e impl.Engine) {
	t.Helper()
	var txs []int
	for _, x := range e.Txs {
		txs = append(txs, x.Id)
	}
	needs := undoNeeds(e)
	for _, order := range orders(txs) {
		d := &doer{t, e}
		for _, tx := range order {
			d.abort(tx)
		}
		if got := len(d.e.Store.Log) - len(e.Store.Log); got != needs || len(d.e.Store.Log) > impl.MaxLog {
			t.Errorf("%s, %v: to undo takes %d records, want %d, of %d", name, order, got, needs, len(d.e.Store.Log))
		}
		checkStock(t, name, d.e, 10)
	}
}

// checkStock reads the pages as they stand in frames, else on the disk.
func checkStock(t *testing.T, name string, e impl.Engine, n int) {
	t.Helper()
	rows := 0
	s := e.Store
	for no := range impl.MaxPages {
		next, p, alive, code := impl.FetchPage(s, no)
		if !alive || code != impl.OK {
			t.Fatalf("%s: FetchPage: %v, code %d", name, alive, code)
		}
		s = next
		for slot, record := range p.Slots {
			if record == "" {
				continue
			}
			if id := no*impl.MaxSlots + slot; record != bytesOfRow(3, row(id, id)) {
				t.Errorf("%s: page %d, slot %d has %q", name, no, slot, record)
			}
			rows++
		}
	}
	if rows != n {
		t.Errorf("%s: %d rows, want %d", name, rows, n)
	}
}

func TestNoUndoingWantsForRoom(t *testing.T) {
	for n := range 12 {
		d, _ := crowded(t, n)
		checkUndone(t, fmt.Sprint("room for ", n), d.e)
	}
}

// TestRoomForAChange: with less than two records nothing is begun, put or dropped; with two it is, and with three.
func TestRoomForAChange(t *testing.T) {
	for n := range 6 {
		d, txs := crowded(t, n)
		for _, tx := range txs {
			for name, call := range map[string]func() (impl.Engine, int){
				"BeginTx":              func() (impl.Engine, int) { e, _, code := impl.BeginTx(d.e); return e, code },
				"PutRow of a new row":  func() (impl.Engine, int) { return impl.PutRow(d.e, tx, 1, row(100+tx, 4)) },
				"PutRow of one there":  func() (impl.Engine, int) { return impl.PutRow(d.e, tx, 3, row(4, 4)) },
				"PutRow of one's own":  func() (impl.Engine, int) { return impl.PutRow(d.e, txs[2], 3, row(7, 71)) },
				"DropRow of one there": func() (impl.Engine, int) { return impl.DropRow(d.e, tx, 3, 4) },
				"DropRow of one's own": func() (impl.Engine, int) { return impl.DropRow(d.e, txs[1], 2, 6) },
			} {
				name = fmt.Sprintf("%s of %d, room for %d", name, tx, n)
				e, code := call()
				if want := pick(n < 2, impl.ErrFull, impl.OK); code != want || !impl.EngineOK(e) {
					t.Errorf("%s: code %d, want %d", name, code, want)
				}
				if got := len(e.Store.Log) - len(d.e.Store.Log); got != pick(n < 2, 0, 1) {
					t.Errorf("%s: %d records are added", name, got)
				}
				checkUndone(t, name, e)
			}
		}
	}
}

// TestFullKeepsWhatWasLockedAndFetched: a row that is there is fetched ahead of the code, a free slot's page is not.
func TestFullKeepsWhatWasLockedAndFetched(t *testing.T) {
	d, txs := crowded(t, 1)
	e, code := impl.PutRow(d.e, txs[2], 3, row(4, 5))
	if code != impl.ErrFull {
		t.Errorf("PutRow of one there: code %d", code)
	}
	got, _, _ := impl.GetRow(d.e, txs[2], 3, 4)
	if tellStore(e.Store) != tellStore(got.Store) {
		t.Errorf("PutRow of one there: %.2000s\nwant %.2000s", tellStore(e.Store), tellStore(got.Store))
	}
	e, code = impl.PutRow(d.e, txs[2], 2, row(77, 5))
	if code != impl.ErrFull {
		t.Errorf("PutRow of a new row: code %d", code)
	}
	got, _, _ = impl.GetRow(d.e, txs[2], 2, 77)
	if tellStore(e.Store) != tellStore(got.Store) {
		t.Errorf("PutRow of a new row: %.2000s\nwant %.2000s", tellStore(e.Store), tellStore(got.Store))
	}
	want := append(d.e.Locks.Held, lock(txs[2], 2, -1, impl.LkIX), lock(txs[2], 2, 77, impl.LkX))
	checkLocks(t, "PutRow of a new row", e.Locks, impl.Locks{Held: want})
}

// TestGoingBackWithoutRoom: what is undone takes no more than was kept for it, and leaves room for the rest.
func TestGoingBackWithoutRoom(t *testing.T) {
	for n := range 3 {
		d, txs := crowded(t, n)
		for _, tx := range txs {
			for lsn := 1; lsn <= len(d.e.Store.Log); lsn++ {
				e, code := impl.RollbackTo(d.e, tx, lsn)
				if code == impl.ErrNone {
					continue
				}
				name := fmt.Sprintf("RollbackTo(%d, %d), room for %d", tx, lsn, n)
				if code != impl.OK || !impl.EngineOK(e) || roomOf(e) != n {
					t.Fatalf("%s: code %d, room for %d", name, code, roomOf(e))
				}
				checkUndone(t, name, e)
			}
		}
	}
}

func TestCommitsWithoutRoom(t *testing.T) {
	for _, order := range orders([]int{0, 1, 2}) {
		d, txs := crowded(t, 0)
		for _, i := range order {
			d.commit(txs[i])
		}
		if len(d.e.Txs) != 0 || d.e.Store.Sure != len(d.e.Store.Log) {
			t.Errorf("%v: %d of %d are sure", order, d.e.Store.Sure, len(d.e.Store.Log))
		}
	}
}

// TestUpToTheLastSector: of a log that just one transaction fills nothing is left when it is undone.
func TestUpToTheLastSector(t *testing.T) {
	d := stocked(t, 10)
	tx := d.begin()
	puts := 0
	for {
		e, code := impl.PutRow(d.e, tx, 1+puts%2, row(puts%11, puts))
		if code == impl.ErrFull {
			break
		}
		d.next("PutRow", e, code, impl.OK)
		puts++
	}
	if puts != 29 || len(d.e.Store.Log) != 30 {
		t.Errorf("%d rows are put", puts)
	}
	for lsn := len(d.e.Store.Log); lsn > 0; lsn-- {
		back := &doer{t, d.e}
		back.rollback(tx, lsn)
		if got := len(back.e.Store.Log); got != 30+30-lsn {
			t.Errorf("back to %d: %d records", lsn, got)
		}
		back.abort(tx)
		if got := len(back.e.Store.Log); got != impl.MaxLog {
			t.Errorf("back to %d, then all: %d records", lsn, got)
		}
		checkStock(t, fmt.Sprint("back to ", lsn), back.e, 10)
		if _, _, code := impl.BeginTx(back.e); code != impl.ErrFull {
			t.Errorf("a begin behind the last sector: code %d", code)
		}
	}
}
