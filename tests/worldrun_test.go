package tests

import (
	"fmt"
	"maps"
	"slices"
	"testing"

	"loop.example/g00332/impl"
)

// told is a statement that was OK, and what it told.
type told struct {
	stmt   impl.Stmt
	answer impl.Answer
}

// rowsById are the rows of all tables, by table and Id; a row that is nil is gone.
type rowsById map[[2]int]*impl.Row

func (r rowsById) with(others ...rowsById) rowsById {
	r = maps.Clone(r)
	for _, other := range others {
		maps.Copy(r, other)
	}
	return r
}

func (r rowsById) table(table int) []impl.Row {
	var list []impl.Row
	for key, r := range r {
		if key[0] == table && r != nil {
			list = append(list, *r)
		}
	}
	slices.SortFunc(list, func(a, b impl.Row) int { return a.Id - b.Id })
	return list
}

func (r rowsById) all() [impl.MaxTables][]impl.Row {
	var tables [impl.MaxTables][]impl.Row
	for i := range tables {
		tables[i] = r.table(i + 1)
	}
	return tables
}

// work is what a session did since its begin.
type work struct {
	open bool
	tx   int
	rows rowsById
	told []told
}

// worldRun has a world that began new, and what its tables must be by the meanings of the statements alone: what was
// committed, and what each session did since its begin.
type worldRun struct {
	t       *testing.T
	x       dice
	w       impl.World
	acts    []impl.WorldAct
	codes   []int
	met     map[string]int
	done    rowsById
	works   [impl.MaxSessions]work
	doubt   work
	serial  []told
	powered bool
}

// newWorldRun is of a run with or without acts that take the power away.
func newWorldRun(t *testing.T, n int, powered bool, met map[string]int) *worldRun {
	return &worldRun{t: t, x: dice(n), w: impl.NewWorld(), met: met, powered: powered, done: rowsById{}}
}

func (run *worldRun) stmt() impl.Stmt {
	x := &run.x
	if x.below(8) == 0 {
		return x.stmt(1 + x.below(5))
	}
	table, k := 1+x.below(pick(x.below(3) == 0, 3, 1)), x.below(8)
	texts := []string{
		fmt.Sprintf("insert %d %d %d 'a'", table, k, x.below(9)-4), fmt.Sprintf("insert %d %d null null", table, x.below(30)), fmt.Sprintf("insert %d %d %d ''", table, x.below(20), k),
		fmt.Sprintf("select %d", table), fmt.Sprintf("select %d where n < %d order n desc", table, k), fmt.Sprintf("select %d where 9 / (id - %d) order name", table, k),
		fmt.Sprintf("update %d set n = n + 1 where id < %d", table, k), fmt.Sprintf("update %d set n = 9 / (id - %d) where id < 9", table, k), fmt.Sprintf("update %d set name = 'zz' where n = %d", table, k),
		fmt.Sprintf("delete %d where id = %d", table, k), fmt.Sprintf("delete %d where n < 0", table), fmt.Sprintf("delete %d where id < 3 or name", table), fmt.Sprintf("delete %d where n is null", table),
	}
	return stmtOf(run.t, texts[x.below(len(texts))])
}

func (run *worldRun) session() int {
	if run.x.below(25) == 0 {
		return run.x.below(6) - 2
	}
	return run.x.below(impl.MaxSessions)
}

// next is an act that makes sense mostly.
func (run *worldRun) next() impl.WorldAct {
	x, session := &run.x, run.session()
	if !run.w.Engine.Up && x.below(4) > 0 {
		return restartAct(max(0, x.below(6)-3))
	}
	if run.powered && x.below(12) == 0 {
		return []impl.WorldAct{crashAct(x.keep(12)...), armAct(x.keep(12)...), armAct(slices.Repeat([]int{1}, x.below(20))...)}[x.below(3)]
	}
	if session >= 0 && session < 3 && run.w.Sessions[session] == 0 && x.below(10) > 0 {
		return beginAct(session)
	}
	switch kind := x.below(30); {
	case kind < 4:
		return commitAct(session)
	case kind < 6:
		return abortAct(session)
	case kind < 8:
		return evictAct(x.below(10) - 1)
	case kind < 9:
		return checkAct()
	case kind < 10:
		return impl.WorldAct{Kind: x.below(12), Session: session, N: x.below(3), Stmt: run.stmt(), Keep: x.keep(3)}
	}
	return sqlAct(session, run.stmt())
}

// step does an act, and notes what it must have done.
func (run *worldRun) step(a impl.WorldAct) string {
	run.t.Helper()
	was := run.w
	name := fmt.Sprintf("act %d: %s", len(run.acts), tellAct(a))
	w, answer, code := checkStep(run.t, name, was, a)
	run.w, run.acts, run.codes = w, append(run.acts, a), append(run.codes, code)
	run.met[fmt.Sprint("kind ", a.Kind, " ", code)]++
	if a.Kind >= 1 && a.Kind <= 4 && a.Session >= 0 && a.Session < 3 {
		run.note(name, was, a, answer, code)
	}
	if was.Engine.Up && !w.Engine.Up {
		run.works = [impl.MaxSessions]work{}
	}
	if a.Kind == impl.WoRestart && code == impl.OK {
		run.found(name, was)
	}
	return name
}

func (run *worldRun) note(name string, was impl.World, a impl.WorldAct, answer impl.Answer, code int) {
	run.t.Helper()
	mine := &run.works[a.Session]
	switch {
	case a.Kind == impl.WoBegin && code == impl.OK:
		*mine = work{open: true, tx: run.w.Sessions[a.Session], rows: rowsById{}}
	case a.Kind == impl.WoSql && was.Engine.Up && mine.open:
		run.checkMeant(name, mine, a.Stmt, answer, code)
	case a.Kind == impl.WoCommit && code == impl.OK:
		run.commit(mine)
	case a.Kind == impl.WoCommit && was.Engine.Up && code == impl.ErrDown:
		run.doubt = *mine
	case a.Kind == impl.WoAbort && code == impl.OK:
		*mine = work{}
	}
}

func (run *worldRun) commit(mine *work) {
	run.done = run.done.with(mine.rows)
	run.serial = append(run.serial, mine.told...)
	*mine = work{}
}

// checkMeant: an answer is that of what was committed ahead and of the session's own statements; a statement that is
// refused is so by its meaning there, or by what others hold, or for want of room.
func (run *worldRun) checkMeant(name string, mine *work, s impl.Stmt, answer impl.Answer, code int) {
	run.t.Helper()
	was := run.done.with(mine.rows).table(s.Table)
	now, want, meant := plainDenote(was, s)
	switch code {
	case impl.OK:
		if meant != impl.OK || !sameAnswer(answer, want) {
			run.t.Fatalf("%s: %s, but on %v it means code %d, %s", name, tellAnswer(answer), was, meant, tellAnswer(want))
		}
		mine.told = append(mine.told, told{s, answer})
		for _, r := range was {
			mine.rows[[2]int{s.Table, r.Id}] = nil
		}
		for _, r := range now {
			mine.rows[[2]int{s.Table, r.Id}] = &r
		}
		run.met[fmt.Sprint("meant ", s.Kind, " ", answer.Count > 0)]++
	case impl.ErrDeadlock:
		*mine = work{}
	case impl.ErrWait, impl.ErrFull, impl.ErrDown, impl.ErrOver, impl.ErrBad:
	default:
		if code != meant {
			run.t.Fatalf("%s: code %d, but on %v it means code %d", name, code, was, meant)
		}
	}
}

// found: the first restart that ends finds just what was committed, and perhaps what was being committed; which of them,
// the log that the crash left tells.
func (run *worldRun) found(name string, was impl.World) {
	run.t.Helper()
	with := run.done.with(run.doubt.rows)
	tables := tablesOf(run.t, name, run.w.Engine)
	kept := slices.ContainsFunc(was.Engine.Store.Log, func(r impl.LogRecord) bool { return run.doubt.open && r.Tx == run.doubt.tx && r.Kind == impl.LoCommit })
	for i, rows := range tables {
		if want := pick(kept, with, run.done).table(i + 1); !slices.Equal(rows, want) {
			run.t.Fatalf("%s: table %d is %v, want %v", name, i+1, rows, want)
		}
	}
	run.met[fmt.Sprint("in doubt ", run.doubt.open, ", kept ", kept)]++
	if kept {
		run.commit(&run.doubt)
	}
	run.doubt = work{}
}

// check: tables are what was committed and what is open, and so are the changes of the world.
func (run *worldRun) check(name string) {
	t, w := run.t, run.w
	t.Helper()
	if !impl.WorldOK(w) || w.Lost {
		t.Fatalf("%s: right %v, lost %v", name, impl.WorldOK(w), w.Lost)
	}
	all := run.done
	for session, mine := range run.works {
		if (w.Sessions[session] != 0) != mine.open {
			t.Fatalf("%s: session %d has %d", name, session, w.Sessions[session])
		}
		all = all.with(mine.rows)
	}
	if w.Engine.Up {
		checkTables(t, name, w.Engine, all.all())
	}
	for table := 1; table <= impl.MaxTables; table++ {
		if rows, code := impl.FoldChanges(w.Done, table); code != impl.OK || !slices.Equal(rows, run.done.table(table)) {
			t.Fatalf("%s: Done of table %d is %v, code %d, want %v", name, table, rows, code, run.done.table(table))
		}
		if rows, _ := impl.FoldChanges(slices.Concat(w.Done, w.Open), table); !slices.Equal(rows, all.table(table)) {
			t.Fatalf("%s: Done and Open of table %d are %v, want %v", name, table, rows, all.table(table))
		}
	}
}

// checkSerial: the statements of those that were committed, one transaction behind the other in the order of the commits,
// mean what they told, and lead to what was committed.
func (run *worldRun) checkSerial(name string) {
	run.t.Helper()
	var tables [impl.MaxTables + 1][]impl.Row
	for i, one := range run.serial {
		now, answer, code := plainDenote(tables[one.stmt.Table], one.stmt)
		if code != impl.OK || !sameAnswer(answer, one.answer) {
			run.t.Fatalf("%s, statement %d of those that were committed: code %d, %s, told was %s", name, i, code, tellAnswer(answer), tellAnswer(one.answer))
		}
		tables[one.stmt.Table] = now
	}
	for table := 1; table <= impl.MaxTables; table++ {
		if want := run.done.table(table); !slices.Equal(tables[table], want) {
			run.t.Fatalf("%s: table %d one at a time is %v, want %v", name, table, tables[table], want)
		}
	}
	run.met["serial"] += len(run.serial)
}

// checkWhole: the acts in one run lead to the same.
func (run *worldRun) checkWhole(name string) {
	run.t.Helper()
	w, codes, code := impl.WorldRun(run.acts)
	if code != impl.OK || !slices.Equal(codes, run.codes) {
		run.t.Fatalf("%s: code %d, codes %v, want %v", name, code, codes, run.codes)
	}
	checkWorld(run.t, name, w, run.w)
}

// TestOneAtATime: whatever sessions do, each answer is that of what was committed ahead and of the session's own
// statements; in the end tables are what was committed, in the order of the commits, and what is open.
func TestOneAtATime(t *testing.T) {
	t.Parallel()
	met := map[string]int{}
	for n := range 150 {
		run := newWorldRun(t, 5000+n, false, met)
		for range impl.MaxActs {
			run.check(fmt.Sprintf("run %d, %s", n, run.step(run.next())))
		}
		run.checkSerial(fmt.Sprint("run ", n))
		run.checkWhole(fmt.Sprint("run ", n))
	}
	for what, least := range map[string]int{
		"meant 1 true": 500, "meant 1 false": 100, "meant 2 true": 500, "meant 3 true": 100, "meant 4 true": 100, "serial": 1000,
		"kind 1 0": 500, "kind 2 4": 20, "kind 1 7": 5, "kind 1 9": 20, "kind 2 13": 200, "kind 2 14": 50, "kind 2 17": 20, "kind 2 11": 20, "kind 2 10": 20, "kind 2 7": 20, "kind 2 19": 20,
		"kind 3 0": 200, "kind 4 0": 200, "kind 5 0": 50, "kind 5 5": 50, "kind 5 4": 20, "kind 6 0": 20, "kind 6 7": 5, "kind 9 9": 3, "kind 10 3": 3,
	} {
		if met[what] < least {
			t.Errorf("%s: %d times", what, met[what])
		}
	}
}
