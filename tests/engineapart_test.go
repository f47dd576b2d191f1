package tests

import (
	"fmt"
	"slices"
	"testing"

	"loop.example/g00332/impl"
)

// otherEngine is e in other memory, with other things behind the ends of its lists.
func otherEngine(e impl.Engine) impl.Engine {
	e.Store, e.Locks = otherStore(e.Store), otherLocks(e.Locks)
	e.Txs = append(slices.Clone(e.Txs), slices.Repeat([]impl.Tx{{Id: 77, Last: 77}}, 9)...)[:len(e.Txs)]
	return e
}

// wholeEngine has the lists up to their room.
func wholeEngine(e impl.Engine) impl.Engine {
	e.Store, e.Locks, e.Txs = wholeStore(e.Store), wholeLocks(e.Locks), e.Txs[:cap(e.Txs)]
	return e
}

func spoilEngine(e impl.Engine) {
	spoilStore(e.Store)
	spoilLocks(e.Locks)
	spoil(e.Txs, impl.Tx{Id: 7777})
}

type engineAnswer struct {
	name   string
	engine impl.Engine
	row    impl.Row
	rows   []impl.Row
	n      int
	is     bool
	code   int
}

func (a engineAnswer) tell() string {
	return fmt.Sprintf("%s: %s row %v rows %v n %d is %v code %d", a.name, tellEngine(a.engine), a.row, a.rows, a.n, a.is, a.code)
}

func (a engineAnswer) spoil() {
	spoilEngine(a.engine)
	spoil(a.rows, row(7777, 7777))
}

// asked are the numbers that a call is asked with.
type asked struct{ tx, table, id, lsn int }

// engineAnswers are those of all calls that take an engine.
func engineAnswers(e impl.Engine, q asked) []engineAnswer {
	var list []engineAnswer
	add := func(name string, a engineAnswer) {
		a.name = name
		list = append(list, a)
	}
	add("EngineOK", engineAnswer{is: impl.EngineOK(e)})
	next, n, code := impl.BeginTx(e)
	add("BeginTx", engineAnswer{engine: next, n: n, code: code})
	next, code = impl.PutRow(e, q.tx, q.table, row(q.id, 5))
	add("PutRow", engineAnswer{engine: next, code: code})
	next, code = impl.DropRow(e, q.tx, q.table, q.id)
	add("DropRow", engineAnswer{engine: next, code: code})
	next, r, code := impl.GetRow(e, q.tx, q.table, q.id)
	add("GetRow", engineAnswer{engine: next, row: r, code: code})
	next, rows, code := impl.ScanRows(e, q.tx, q.table)
	add("ScanRows", engineAnswer{engine: next, rows: rows, code: code})
	next, code = impl.CommitTx(e, q.tx)
	add("CommitTx", engineAnswer{engine: next, code: code})
	next, code = impl.AbortTx(e, q.tx)
	add("AbortTx", engineAnswer{engine: next, code: code})
	next, code = impl.RollbackTo(e, q.tx, q.lsn)
	add("RollbackTo", engineAnswer{engine: next, code: code})
	return slices.Concat(list, restartAnswers(e, q), execAnswers(e, q))
}

func tellEngineAnswers(list []engineAnswer) string {
	told := ""
	for _, a := range list {
		told += a.tell() + "\n"
	}
	return told
}

func checkEngineApart(t *testing.T, name string, e impl.Engine, q asked) {
	t.Helper()
	mine, copied := otherEngine(e), otherEngine(e)
	list := engineAnswers(mine, q)
	if tellEngine(wholeEngine(mine)) != tellEngine(wholeEngine(copied)) {
		t.Fatalf("%s: an argument is changed, or what stands behind it", name)
	}
	told := tellEngineAnswers(list)
	spoilEngine(mine)
	if tellEngineAnswers(list) != told {
		t.Fatalf("%s: an answer has memory of an argument", name)
	}
	list = engineAnswers(copied, q)
	if tellEngineAnswers(list) != told {
		t.Fatalf("%s: alike arguments have other answers", name)
	}
	whole := engineAnswers(e, q)
	for i, a := range list {
		a.spoil()
		if tellEngineAnswers(list[i+1:]) != tellEngineAnswers(whole[i+1:]) {
			t.Fatalf("%s: the answer of %s has memory of another one", name, a.name)
		}
	}
	if tellEngine(wholeEngine(copied)) != tellEngine(wholeEngine(otherEngine(e))) {
		t.Fatalf("%s: writing into an answer changes an argument", name)
	}
}

// manyEngines are right ones, of many kinds.
func manyEngines(t *testing.T) map[string]impl.Engine {
	t.Helper()
	list := rightEngines()
	full, _ := crowded(t, 1)
	locked, _, _ := deadlocked(t)
	spreadOut, _ := spread(t, 6)
	list["room for one"], list["a deadlock"] = full.e, locked.e
	list["spread"], list["spread, armed"] = spreadOut.e, armedEngine(spreadOut.e, 1, 0, 1, 1)
	list["a row twice"] = twice(t).e
	list["a story"] = story(t).e
	list["a disk with a mixed log"] = downWith(diskOf(1, mixedLog()))
	list["a disk with a mixed log, armed"] = armedEngine(downWith(diskOf(1, mixedLog())), 1)
	list["a disk with a log of no engine"] = downWith(noEngines()["a CLR to nothing"])
	return list
}

func TestEnginesStandApart(t *testing.T) {
	t.Parallel()
	for name, e := range manyEngines(t) {
		for _, q := range []asked{{1, 3, 1, 1}, {2, 2, 2, 4}, {2, 3, 0, 2}, {4, 1, 3, 7}, {0, 1, 1, 0}, {1, 4, -1, 99}} {
			checkEngineApart(t, fmt.Sprintf("%s, asked %v", name, q), e, q)
		}
	}
	for name, e := range wrongEngines() {
		if !slices.Contains([]string{"nothing", "one twice", "a lock of 5", "30 updates", "not up, a frame"}, name) {
			continue
		}
		checkEngineApart(t, name, e, asked{2, 2, 2, 4})
	}
}

// engineLists are the lists of an answer, each with something that spoils it and something that tells it.
func engineLists(a engineAnswer) (spoils []func(), tells []func() string) {
	s := storeAnswer{store: a.engine.Store}
	spoils = append(storeLists(s), func() { spoil(a.engine.Locks.Held, lock(7777, 0, 0, 0)) },
		func() { spoil(a.engine.Locks.Waits, impl.Wait{Tx: 7777}) }, func() { spoil(a.engine.Txs, impl.Tx{Id: 7777}) },
		func() { spoil(a.rows, row(7777, 0)) })
	for i := range listsOf(s) {
		tells = append(tells, func() string { return listsOf(s)[i] })
	}
	tells = append(tells, func() string { return fmt.Sprint(a.engine.Locks.Held) }, func() string { return fmt.Sprint(a.engine.Locks.Waits) },
		func() string { return fmt.Sprint(a.engine.Txs) }, func() string { return fmt.Sprint(a.rows) })
	return spoils, tells
}

func TestListsOfAnEngineStandApart(t *testing.T) {
	q := asked{2, 3, 1, 2}
	for name, e := range manyEngines(t) {
		for of := range engineAnswers(e, q) {
			a := engineAnswers(e, q)[of]
			spoils, tells := engineLists(a)
			var told []string
			for _, tell := range tells {
				told = append(told, tell())
			}
			for i, spoil := range spoils {
				spoil()
				for j, tell := range tells {
					if j > i && tell() != told[j] {
						t.Errorf("%s, %s: list %d shares memory with list %d", a.name, name, i, j)
					}
				}
			}
		}
	}
}

func TestNewEnginesStandApart(t *testing.T) {
	a, b := impl.NewEngine(), impl.NewEngine()
	told := tellEngine(b)
	spoilEngine(a)
	if tellEngine(b) != told || tellEngine(impl.NewEngine()) != told {
		t.Error("two new engines share memory")
	}
}

// engineCalls are calls of all functions of chapter 8.
func engineCalls(t *testing.T) []call {
	t.Helper()
	list := []call{{"NewEngine", func() string { return tellEngine(impl.NewEngine()) }}}
	for _, r := range append(rightRows(), wrongRows()...) {
		for table := range 5 {
			list = append(list, call{"RowBytes", func() string { return tellList(impl.RowBytes(table, r)) }})
		}
	}
	for _, b := range append(noRowBytes(), byteArguments()...) {
		list = append(list, call{"ReadRow", func() string { table, r, code := impl.ReadRow(b); return answers(table, r, code) }})
	}
	for name, e := range manyEngines(t) {
		for _, n := range numberArguments() {
			q := asked{n, 1 + (n&3)%3, n & 7, n}
			list = append(list, call{name, func() string { return tellEngineAnswers(engineAnswers(e, q)) }})
		}
	}
	for name, e := range wrongEngines() {
		list = append(list, call{name, func() string { return tellEngineAnswers(engineAnswers(e, asked{2, 3, 1, 2})) }})
	}
	return list
}
