package tests

import (
	"fmt"
	"math"
	"slices"
	"testing"

	"loop.example/g00332/impl"
)

func named(id, n int, name string) impl.Row {
	return impl.Row{Id: id, N: number(n), Name: word(name)}
}

// sameButEngine: with the code of an act all is as it was, but for what its own call changed in the engine.
func sameButEngine(a, b impl.World) bool {
	a.Engine, b.Engine = impl.Engine{}, impl.Engine{}
	return sameWorld(a, b)
}

func TestBegin(t *testing.T) {
	p := newPlayer(t)
	p.begin(1)
	p.sessions("one", 0, 1, 0)
	p.act(beginAct(1), impl.ErrTwice)
	p.begin(0, 2)
	p.sessions("all", 2, 1, 3)
	for session := range 3 {
		was := p.w
		p.act(beginAct(session), impl.ErrTwice)
		checkWorld(t, "twice", p.w, was)
	}
	p.abort(1)
	p.begin(1)
	p.sessions("again", 2, 4, 3)
	if txs := p.w.Engine.Txs; len(txs) != 3 {
		t.Errorf("open are %v", txs)
	}
}

// TestBeginsThatTheEngineRefuses: the world is as it was.
func TestBeginsThatTheEngineRefuses(t *testing.T) {
	for name, of := range map[string]struct {
		e    impl.Engine
		code int
	}{
		"MaxTx":              {engineWith(impl.NewEngine(), func(e *impl.Engine) { e.Next = impl.MaxTx }), impl.OK},
		"above MaxTx":        {engineWith(impl.NewEngine(), func(e *impl.Engine) { e.Next = impl.MaxTx + 1 }), impl.ErrMany},
		"room for two":       {filledUp(impl.NewEngine(), impl.MaxLog-2), impl.OK},
		"room for one":       {filledUp(impl.NewEngine(), impl.MaxLog-1), impl.ErrFull},
		"room for none":      {filledUp(impl.NewEngine(), impl.MaxLog), impl.ErrFull},
		"above, and no room": {engineWith(filledUp(impl.NewEngine(), impl.MaxLog), func(e *impl.Engine) { e.Next = impl.MaxTx + 1 }), impl.ErrMany},
	} {
		p := &player{t, withEngine(of.e)}
		was := p.w
		p.act(beginAct(2), of.code)
		if of.code != impl.OK {
			checkWorld(t, name, p.w, was)
		} else {
			p.sessions(name, 0, 0, of.e.Next)
		}
	}
}

// TestWhatComesBehindOpen: just the rows that are gone, new or other, each by Id, behind what is there.
func TestWhatComesBehindOpen(t *testing.T) {
	p := newPlayer(t)
	p.begin(2)
	want := []impl.Change{}
	has := func(name string, more ...impl.Change) {
		t.Helper()
		want = append(want, more...)
		p.has(name, want, nil, nil)
	}
	p.tells(2, "insert 1 9 90 'i'", "1")
	has("insert", put(2, 1, named(9, 90, "i")))
	p.tells(2, "insert 1 3 30 'c'", "1")
	has("insert ahead", put(2, 1, named(3, 30, "c")))
	p.sql(2, "insert 1 5 50 'e'", "insert 2 5 1 'x'")
	has("insert between, and of another table", put(2, 1, named(5, 50, "e")), put(2, 2, named(5, 1, "x")))
	p.tells(2, "select 1 order n desc", "3 (9 90 'i') (5 50 'e') (3 30 'c')")
	has("select")
	p.tells(2, "select 1 where n", "3 (3 30 'c') (5 50 'e') (9 90 'i')")
	p.tells(2, "update 1 set n = 50 where id < 9", "2")
	has("update: what is as it was is no change", put(2, 1, named(3, 50, "c")))
	p.tells(2, "update 1 set name = 'i'", "3")
	has("update", put(2, 1, named(3, 50, "i")), put(2, 1, named(5, 50, "i")))
	p.tells(2, "update 1 set n = n", "3")
	has("update of nothing")
	p.tells(2, "update 1 set n = null where id = 100", "0")
	p.tells(2, "delete 1 where id = 100", "0")
	has("none is meant")
	p.tells(2, "update 1 set n = 0 - id", "3")
	has("by Id", put(2, 1, named(3, -3, "i")), put(2, 1, named(5, -5, "i")), put(2, 1, named(9, -9, "i")))
	p.tells(2, "delete 1 where n < -3", "2")
	has("gone, as they were", gone(2, 1, named(5, -5, "i")), gone(2, 1, named(9, -9, "i")))
	p.tells(2, "insert 1 9 -9 'i'", "1")
	has("there again", put(2, 1, named(9, -9, "i")))
	p.tells(2, "delete 1", "2")
	has("all gone", gone(2, 1, named(3, -3, "i")), gone(2, 1, named(9, -9, "i")))
	p.tells(2, "select 1", "0")
	p.tells(2, "select 2", "1 (5 1 'x')")
	has("in the end")
	p.sessions("in the end", 0, 0, 1)
}

// TestEachSeesItsOwn: what was committed, and what it did itself; that of others is barred as long as they are open.
func TestEachSeesItsOwn(t *testing.T) {
	p := newPlayer(t)
	p.begin(0, 1)
	p.sql(0, "insert 1 1 1 'a'")
	p.sql(1, "insert 1 2 2 'b'", "insert 2 2 2 'b'")
	p.has("both", []impl.Change{put(0, 1, named(1, 1, "a")), put(1, 1, named(2, 2, "b")), put(1, 2, named(2, 2, "b"))}, nil, nil)
	p.sqlCode(0, "select 1", impl.ErrWait)
	p.sqlCode(0, "insert 1 2 7 'c'", impl.ErrWait)
	p.commit(1)
	p.tells(0, "select 1", "2 (1 1 'a') (2 2 'b')")
	p.sqlCode(0, "insert 1 2 7 'c'", impl.ErrKey)
	p.tells(0, "update 1 set n = n + 10", "2")
	p.begin(1)
	p.sqlCode(1, "select 1", impl.ErrWait)
	p.tells(1, "select 2", "1 (2 2 'b')")
	p.abort(0)
	p.tells(1, "select 1", "1 (2 2 'b')")
	p.has("in the end", nil, []impl.Change{put(1, 1, named(2, 2, "b")), put(1, 2, named(2, 2, "b"))}, nil)
}

// TestStatementsThatAWorldRefuses: what was locked, waits and was fetched stays; nothing else is changed.
func TestStatementsThatAWorldRefuses(t *testing.T) {
	p := newPlayer(t)
	p.begin(0, 1)
	p.sql(0, "insert 1 1 1 'a'", "insert 1 2 2 'b'", "insert 1 3 0 'c'", "insert 2 1 1 'a'")
	p.sql(1, "insert 3 1 1 'a'")
	for text, code := range map[string]int{
		"insert 1 2 9 'z'": impl.ErrKey, "insert 3 1 2 'z'": impl.ErrWait, "select 3": impl.ErrWait, "update 3 set n = 1": impl.ErrWait, "delete 3": impl.ErrWait,
		"update 1 set n = 6 / n": impl.ErrZero, "update 1 set n = name": impl.ErrType, "update 1 set n = 1000000000 + n": impl.ErrOver,
		"delete 1 where 6 / n": impl.ErrZero, "select 1 where name": impl.ErrType, "select 1 where 0 - name": impl.ErrType} {
		was := p.w
		p.sqlCode(0, text, code)
		if !sameButEngine(p.w, was) {
			t.Errorf("%s: %.1000s", text, tellWorld(p.w))
		}
		if code == impl.ErrWait && !slices.Equal(p.w.Engine.Locks.Waits, waiting(1, 2)) {
			t.Errorf("%s: waits %v", text, p.w.Engine.Locks.Waits)
		}
	}
	p.tells(0, "select 1", "3 (1 1 'a') (2 2 'b') (3 0 'c')")
	for name, s := range wrongStmts() {
		was := p.w
		w, answer, code := impl.WorldStep(p.w, sqlAct(0, s))
		if code != impl.ErrBad || !sameAnswer(answer, impl.Answer{}) {
			t.Errorf("%s: code %d", name, code)
		}
		checkWorld(t, name, w, was)
	}
}

// TestPagesAndLogsThatAreFull: neither a row nor a record has room.
func TestPagesAndLogsThatAreFull(t *testing.T) {
	p := &player{t, withEngine(stocked(t, 32).e)}
	for id := range 32 {
		p.w.Done = append(p.w.Done, put(0, 3, row(id, id)))
	}
	p.begin(0)
	was := p.w
	p.sqlCode(0, "insert 1 1 1 'a'", impl.ErrOver)
	if !sameButEngine(p.w, was) {
		t.Error("a full page changes the world")
	}
	p.sqlCode(0, "update 3 set n = 0 - 1", impl.ErrFull)
	if !sameButEngine(p.w, was) || len(p.w.Engine.Store.Log) != 59 {
		t.Errorf("a full log: %d records", len(p.w.Engine.Store.Log))
	}
	p.abort(0)
	p.act(beginAct(0), impl.ErrFull)
	p.act(checkAct(), impl.ErrFull)
	if rows := plainFold(3, p.w.Done); !slices.Equal(rows, tablesNow(t, p.w.Engine)[3]) {
		t.Error("the table is not what it was")
	}
}

// locked is a world in which session 0 waits for what session 1 changed; session 2 has changes too.
func locked(t *testing.T) *player {
	t.Helper()
	p := newPlayer(t)
	p.begin(2)
	p.sql(2, "insert 1 1 1 'a'", "insert 2 1 1 'b'")
	p.commit(2)
	p.begin(0, 1, 2)
	p.sql(0, "update 1 set n = 5")
	p.sql(2, "insert 3 7 7 'q'")
	p.sql(1, "delete 2", "insert 2 4 4 'd'")
	p.sql(0, "insert 1 2 2 'c'")
	p.sqlCode(0, "select 2", impl.ErrWait)
	return p
}

// TestWhatADeadlockLeaves: of its session no transaction, and no Open; all of the others.
func TestWhatADeadlockLeaves(t *testing.T) {
	one, two, three := named(1, 5, "a"), named(2, 2, "c"), named(7, 7, "q")
	done := []impl.Change{put(2, 1, named(1, 1, "a")), put(2, 2, named(1, 1, "b"))}
	for _, text := range []string{"select 1", "insert 1 1 9 'z'", "insert 1 2 9 'z'", "insert 1 77 9 'z'", "update 1 set n = 1", "delete 1"} {
		p := locked(t)
		p.has("ahead", []impl.Change{put(0, 1, one), put(2, 3, three), gone(1, 2, named(1, 1, "b")), put(1, 2, named(4, 4, "d")), put(0, 1, two)}, done, nil)
		p.sqlCode(1, text, impl.ErrDeadlock)
		p.sessions(text, 2, 0, 4)
		p.has(text, []impl.Change{put(0, 1, one), put(2, 3, three), put(0, 1, two)}, done, nil)
		p.act(sqlAct(1, stmtOf(t, text)), impl.ErrTx)
		p.act(abortAct(1), impl.ErrTx)
		p.act(commitAct(1), impl.ErrTx)
		p.tells(0, "select 2", "1 (1 1 'b')")
		p.begin(1)
		p.sessions(text, 2, 5, 4)
		p.sqlCode(1, text, impl.ErrWait)
		p.commit(0)
		p.commit(2)
		p.has(text, nil, append(slices.Clone(done), put(0, 1, one), put(0, 1, two), put(2, 3, three)), nil)
	}
}

// TestADeadlockBehindTheScan: of an engine that did not begin new. The transaction is aborted; whatever code is told, the
// session has none.
func TestADeadlockBehindTheScan(t *testing.T) {
	for id := range 6 {
		d, other, tx := rowBarred(t, id, true)
		w := impl.World{Engine: d.e, Sessions: []int{0, tx, other}, Open: []impl.Change{put(1, 1, row(1, 1)), put(2, 1, row(2, 2)), put(1, 1, row(3, 3))}}
		got, _, code := checkStep(t, "barred", w, sqlAct(1, stmtOf(t, "delete 3")))
		if code == impl.OK || !impl.WorldOK(got) || !slices.Equal(got.Sessions, []int{0, 0, other}) || !slices.Equal(got.Open, []impl.Change{put(2, 1, row(2, 2))}) {
			t.Errorf("row %d: code %d, sessions %v, open %v", id, code, got.Sessions, got.Open)
		}
	}
}

// TestCommitsAndAborts: what goes to Done, and in which order.
func TestCommitsAndAborts(t *testing.T) {
	rows := func(session int) []impl.Change {
		return []impl.Change{put(session, 1, row(session, 1)), put(session, 2, row(session, 2)), put(session, 1, row(session, 3))}
	}
	for _, order := range orders([]int{0, 1, 2}) {
		for kept := range 8 {
			p := newPlayer(t)
			p.begin(0, 1, 2)
			for i := range 3 {
				for session := range 3 {
					table := []int{1, 2, 1}[i]
					if i == 2 {
						p.sqlCode(session, fmt.Sprintf("insert 1 %d 3 'ab'", session), impl.ErrKey)
						p.w.Open = append(p.w.Open, rows(session)[2])
						continue
					}
					p.sql(session, fmt.Sprintf("insert %d %d %d 'ab'", table, session, i+1))
				}
			}
			var done []impl.Change
			left := slices.Clone(p.w.Open)
			for _, session := range order {
				if kept>>session&1 > 0 {
					p.act(commitAct(session), impl.OK)
					done = append(done, rows(session)...)
				} else {
					p.act(abortAct(session), impl.OK)
				}
				left = slices.DeleteFunc(left, func(c impl.Change) bool { return c.Session == session })
				p.has(fmt.Sprint(order, kept), left, done, nil)
				if p.w.Sessions[session] != 0 {
					t.Fatalf("session %d has %d", session, p.w.Sessions[session])
				}
			}
			p.sessions("in the end", 0, 0, 0)
		}
	}
}

// TestACommitOfNothing: nor does an abort of nothing change anything but the engine.
func TestACommitOfNothing(t *testing.T) {
	for _, end := range []impl.WorldAct{commitAct(1), abortAct(1)} {
		p := &player{t, busyWorld(t)}
		was := p.w
		p.begin(1)
		p.act(end, impl.OK)
		if !sameButEngine(p.w, was) {
			t.Errorf("act %d: %.1000s", end.Kind, tellWorld(p.w))
		}
	}
}

// TestATransactionOfTwoSessions: what is over for one is over for both, so a right world comes of a right one.
func TestATransactionOfTwoSessions(t *testing.T) {
	w := worldWith(busyWorld(t), func(w *impl.World) { w.Sessions[1] = w.Sessions[2] })
	for _, a := range []impl.WorldAct{commitAct(1), commitAct(2), abortAct(1), abortAct(2)} {
		got, _, code := checkStep(t, "of two", w, a)
		if code != impl.OK || !impl.WorldOK(got) || !slices.Equal(got.Sessions, []int{w.Sessions[0], 0, 0}) {
			t.Errorf("%s: code %d, sessions %v", tellAct(a), code, got.Sessions)
		}
	}
}

func TestEvict(t *testing.T) {
	p := newPlayer(t)
	p.begin(0)
	for id := range 9 {
		p.sql(0, fmt.Sprintf("insert 1 %d 1 'a'", id))
	}
	frames := func() (list []int) {
		for _, f := range p.w.Engine.Store.Frames {
			list = append(list, f.No)
		}
		return list
	}
	for _, no := range []int{math.MinInt, -1, impl.MaxPages, impl.MaxPages + 1, 256, math.MaxInt} {
		was := p.w
		p.act(evictAct(no), impl.ErrRange)
		checkWorld(t, fmt.Sprint("page ", no), p.w, was)
	}
	met := 0
	for no := range impl.MaxPages {
		was, there := p.w, slices.Contains(frames(), no)
		p.act(evictAct(no), pick(there, impl.OK, impl.ErrNone))
		if !sameButEngine(p.w, was) || slices.Contains(frames(), no) || !there && !sameWorld(p.w, was) {
			t.Errorf("page %d: %.1000s", no, tellWorld(p.w))
		}
		met += pick(there, 1, 0)
	}
	if met != impl.MaxFrames || len(frames()) != 0 {
		t.Errorf("%d pages went, left are %v", met, frames())
	}
	p.tells(0, "select 1 where id < 2", "2 (0 1 'a') (1 1 'a')")
	p.sessions("behind it", 1, 0, 0)
}

func TestWorldCheck(t *testing.T) {
	p := &player{t, busyWorld(t)}
	was := p.w
	p.act(checkAct(), impl.OK)
	log := p.w.Engine.Store.Log
	if !sameButEngine(p.w, was) || log[len(log)-1].Kind != impl.LoCheck || p.w.Engine.Store.Sure != len(log) {
		t.Errorf("a checkpoint: %.1000s", tellWorld(p.w))
	}
}

// TestADiskOfAWorldThatTakesNoMore: an act that the disk refuses leaves its session as it was.
func TestADiskOfAWorldThatTakesNoMore(t *testing.T) {
	d, one := manyEngineWrites(t, 500)
	p := &player{t, withEngine(d.e)}
	p.w.Open = []impl.Change{put(0, 3, row(1, 0)), put(1, 3, row(29, 290))}
	if p.w.Sessions[0] != one {
		t.Fatal("another session")
	}
	was := p.w
	p.act(abortAct(0), impl.ErrFull)
	checkWorld(t, "an abort", p.w, was)
	p.act(evictAct(7), impl.ErrFull)
	checkWorld(t, "a page that goes out", p.w, was)
	p.sqlCode(0, "insert 1 1 1 'a'", impl.ErrFull)
	if !sameButEngine(p.w, was) {
		t.Error("an insert changes the world")
	}
	p.act(commitAct(0), impl.OK)
	p.has("a commit", was.Open[1:], was.Open[:1], nil)
}
