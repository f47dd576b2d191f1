package tests

import (
	"fmt"
	"slices"
	"testing"

	"loop.example/g00332/impl"
)

// lockingTexts are statements of table 3, with the locks that they take where nobody bars them: of rows 0 to 2.
func lockingTexts(tx int) map[string][]impl.Lock {
	table := func(mode int) impl.Lock { return lock(tx, 3, -1, mode) }
	row := func(id int) impl.Lock { return lock(tx, 3, id, impl.LkX) }
	return map[string][]impl.Lock{
		"insert 3 7 1 'a'":                   {table(impl.LkIX), row(7)},
		"insert 3 2 1 'a'":                   {table(impl.LkIX), row(2)},
		"select 3":                           {table(impl.LkS)},
		"select 3 where 0":                   {table(impl.LkS)},
		"select 3 where name":                {table(impl.LkS)},
		"update 3 set n = n + 1":             {table(impl.LkX), row(0), row(1), row(2)},
		"update 3 set n = n + 1 where n = 1": {table(impl.LkX), row(1)},
		"update 3 set n = 1 where 0":         {table(impl.LkX)},
		"update 3 set n = 1 / (n - 2)":       {table(impl.LkX), row(0), row(1)},
		"update 3 set n = 1 / n":             {table(impl.LkX)},
		"delete 3":                           {table(impl.LkX), row(0), row(1), row(2)},
		"delete 3 where id = 2":              {table(impl.LkX), row(2)},
		"delete 3 where null":                {table(impl.LkX)},
		"delete 3 where 1 / (n - 1)":         {table(impl.LkX), row(0)},
	}
}

func TestWhatStatementsLock(t *testing.T) {
	d := stocked(t, 3)
	d.begin()
	tx := d.begin()
	for text, want := range lockingTexts(tx) {
		e, _, _ := checkMeaning(t, text, d.e, tx, stmtOf(t, text))
		checkLocks(t, text, e.Locks, impl.Locks{Held: want})
		// What one has already is not taken again.
		e, _, _ = checkMeaning(t, text, e, tx, stmtOf(t, text))
		checkLocks(t, text+", again", e.Locks, impl.Locks{Held: want})
	}
}

// TestStatementsAgainstEachLock: another one holds a mode of the table, or of a row; who is refused waits for it, and what
// was locked ahead stays.
func TestStatementsAgainstEachLock(t *testing.T) {
	refused := map[string]int{}
	for _, k := range []impl.Lock{lock(1, 3, -1, impl.LkIS), lock(1, 3, -1, impl.LkIX), lock(1, 3, -1, impl.LkS), lock(1, 3, -1, impl.LkX),
		lock(1, 3, 0, impl.LkX), lock(1, 3, 2, impl.LkS), lock(1, 3, 2, impl.LkX), lock(1, 3, 7, impl.LkX), lock(1, 2, 2, impl.LkX), lock(1, 2, -1, impl.LkX)} {
		for text, list := range lockingTexts(2) {
			d := stocked(t, 3)
			d.begin()
			tx := d.begin()
			d.e.Locks = held(k)
			p, want := &plainLocks{held: []impl.Lock{k}}, impl.OK
			for _, asked := range list {
				if want == impl.OK {
					want = p.take(asked)
				}
			}
			name := fmt.Sprintf("%s against %v", text, k)
			e, a, code := checkMeaning(t, name, d.e, tx, stmtOf(t, text))
			checkLocks(t, name, e.Locks, p.asLocks())
			if want != impl.OK && code != want || want == impl.OK && code == impl.ErrWait || code != impl.OK && a.Count > 0 {
				t.Errorf("%s: code %d, want %d", name, code, want)
			}
			if code == impl.ErrWait {
				refused[text]++
				if d.e = e; d.e.Locks.Waits[0] != (impl.Wait{Tx: 2, For: 1}) || len(d.e.Locks.Waits) != 1 {
					t.Errorf("%s: waits %v", name, d.e.Locks.Waits)
				}
				checkStock(t, name, d.e, 3)
			}
		}
	}
	for text := range lockingTexts(2) {
		if refused[text] < 2 {
			t.Errorf("%s was refused %d times", text, refused[text])
		}
	}
}

// TestWhatAnotherOneHolds: by statements alone, in an engine that began new.
func TestWhatAnotherOneHolds(t *testing.T) {
	waits := map[string][]string{
		"insert 3 7 1 'a'":             {"select 3", "update 3 set n = 1", "delete 3 where id = 0", "insert 3 7 2 'b'"},
		"select 3":                     {"insert 3 9 1 'a'", "insert 3 0 1 'a'", "update 3 set n = 1 where 0", "delete 3"},
		"update 3 set n = 5 where n=1": {"select 3", "select 3 where id = 0", "insert 3 9 1 'a'", "update 3 set n = 1", "delete 3 where 0"},
		"delete 3 where 0":             {"select 3", "insert 3 9 1 'a'", "update 3 set n = 1", "delete 3"},
	}
	free := map[string][]string{
		"insert 3 7 1 'a'": {"insert 3 8 1 'a'", "select 1", "delete 2"},
		"select 3":         {"select 3", "select 3 where id = 1 order name desc", "insert 1 1 1 'a'"},
		"delete 3 where 0": {"insert 1 1 1 'a'", "select 2", "update 1 set n = 1"},
	}
	for first, others := range waits {
		for _, other := range others {
			d := stocked(t, 3)
			one, two := d.begin(), d.begin()
			e, _, code := checkMeaning(t, first, d.e, one, stmtOf(t, first))
			d.next(first, e, code, impl.OK)
			d.sqlCode(two, other, impl.ErrWait)
			if !slices.Equal(d.e.Locks.Waits, waiting(two, one)) {
				t.Errorf("%s behind %s: waits %v", other, first, d.e.Locks.Waits)
			}
			d.abort(one)
			e, _, code = checkMeaning(t, other, d.e, two, stmtOf(t, other))
			if code != impl.OK && code != impl.ErrKey {
				t.Errorf("%s behind %s, which went: code %d", other, first, code)
			}
			checkLocks(t, other, e.Locks, impl.Locks{Held: e.Locks.Held})
		}
	}
	for first, others := range free {
		for _, other := range others {
			d := stocked(t, 3)
			one, two := d.begin(), d.begin()
			for tx, text := range map[int]string{one: first, two: other} {
				e, _, code := checkMeaning(t, text, d.e, tx, stmtOf(t, text))
				d.next(text, e, code, impl.OK)
			}
		}
	}
}

// TestStatementsThatWouldWaitForThemselves: all that the transaction did is undone, with what it did ahead of the
// statement, and it holds nothing.
func TestStatementsThatWouldWaitForThemselves(t *testing.T) {
	for _, text := range []string{"insert 3 0 9 'z'", "insert 3 50 9 'z'", "select 3", "update 3 set n = 9", "update 3 set n = 9 where 0", "delete 3", "delete 3 where 1 / 0"} {
		d := stocked(t, 6)
		one, two := d.begin(), d.begin()
		d.sql(two, "insert 1 1 1 'a'", "1")
		d.sql(two, "update 2 set n = 1", "0")
		d.sql(two, "insert 1 2 2 'b'", "1")
		d.sql(one, "delete 3 where id = 3", "1")
		d.sql(two, "update 1 set n = n + 1 where id = 2", "1")
		d.sqlCode(one, "select 1", impl.ErrWait)
		n := len(d.e.Store.Log)
		d.sqlCode(two, text, impl.ErrDeadlock)
		if log := d.e.Store.Log; len(log) != n+4 || log[n+3] != end(1, n+4, two, n+3) || isOpen(d.e, two) || len(d.e.Txs) != 1 {
			t.Errorf("%s: %d records behind it, %v", text, len(log)-n, d.e.Txs)
		}
		mine, _ := impl.LocksOfTx(d.e.Locks, one)
		checkLocks(t, text, d.e.Locks, impl.Locks{Held: mine})
		d.sqlCode(two, text, impl.ErrTx)
		d.sql(one, "select 1", "0")
		d.sql(one, "insert 2 1 null null", "1")
	}
}

// TestADeadlockAtTheInsertedRow: the table fits, the row does not.
func TestADeadlockAtTheInsertedRow(t *testing.T) {
	d := newDoer(t)
	one, two := d.begin(), d.begin()
	d.sql(one, "insert 1 1 1 'a'", "1")
	d.sql(two, "insert 1 2 2 'b'", "1")
	d.sqlCode(one, "insert 1 2 3 'c'", impl.ErrWait)
	d.sqlCode(two, "insert 1 1 4 'd'", impl.ErrDeadlock)
	d.sql(one, "insert 1 2 3 'c'", "1")
	d.sql(one, "select 1", "2 (1 1 'a') (2 3 'c')")
}

// TestStatementsWithoutRoomForLocks: with MaxLocks there is ErrFull, at the table or at a row.
func TestStatementsWithoutRoomForLocks(t *testing.T) {
	codes := map[string]int{}
	for n := 55; n <= impl.MaxLocks; n++ {
		d, tx := manyLocks(t, n)
		other := d.begin()
		for _, who := range []int{tx, other} {
			for text, list := range lockingTexts(who) {
				p, want := &plainLocks{held: slices.Clone(d.e.Locks.Held)}, impl.OK
				for _, asked := range list {
					// There are rows 0 and 1 alone.
					if want == impl.OK && (asked.Row != 2 || text[:6] == "insert") {
						want = p.take(asked)
					}
				}
				name := fmt.Sprintf("%s of %d, %d locks", text, who, n)
				e, _, code := checkMeaning(t, name, d.e, who, stmtOf(t, text))
				checkLocks(t, name, e.Locks, p.asLocks())
				if (code == impl.ErrFull) != (want == impl.ErrFull) {
					t.Errorf("%s: code %d, want %d", name, code, want)
				}
				if code == impl.ErrFull {
					codes[text[:6]]++
					checkStock(t, name, e, 2)
				}
			}
		}
	}
	if codes["insert"] == 0 || codes["select"] == 0 || codes["update"] == 0 || codes["delete"] == 0 {
		t.Errorf("ErrFull came %v times", codes)
	}
}

// TestStatementsWithoutRoomForWaits: ErrFull comes ahead of ErrDeadlock, and then nobody is aborted.
func TestStatementsWithoutRoomForWaits(t *testing.T) {
	d, one, two := deadlocked(t)
	three := d.begin()
	for n := 97; n <= 100; n++ {
		d.e.Locks.Waits = slices.Concat(waiting(one, two), slices.Repeat(waiting(three, two), n-1))
		for _, text := range []string{"insert 3 0 1 'a'", "select 3", "update 3 set n = 1", "delete 3"} {
			e, _, code := checkMeaning(t, text, d.e, two, stmtOf(t, text))
			if want := pick(n == 100, impl.ErrFull, impl.ErrDeadlock); code != want || len(e.Txs) != pick(n == 100, 3, 2) {
				t.Errorf("%s, %d waits: code %d, want %d", text, n, code, want)
			}
		}
	}
}
