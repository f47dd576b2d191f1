package tests

import (
	"fmt"
	"math"
	"slices"
	"testing"

	"loop.example/g00332/impl"
)

// tellEngine tells nil and an empty list alike: they are the same value.
func tellEngine(e impl.Engine) string {
	return fmt.Sprintf("up %v next %d txs %v %s %s", e.Up, e.Next, e.Txs, tellLocks(e.Locks), tellStore(e.Store))
}

func checkEngine(t *testing.T, name string, got, want impl.Engine) {
	t.Helper()
	if tellEngine(got) != tellEngine(want) {
		t.Errorf("%s: %.3000s\nwant %.3000s", name, tellEngine(got), tellEngine(want))
	}
}

func cloneEngine(e impl.Engine) impl.Engine {
	e.Store, e.Txs = cloneStore(e.Store), slices.Clone(e.Txs)
	e.Locks = impl.Locks{Held: slices.Clone(e.Locks.Held), Waits: slices.Clone(e.Locks.Waits)}
	return e
}

// engineWith is an engine that differs in what change does to it.
func engineWith(e impl.Engine, change func(e *impl.Engine)) impl.Engine {
	e = cloneEngine(e)
	change(&e)
	return e
}

// at is the record with its page and slot.
func at(r impl.LogRecord, no, slot int) impl.LogRecord {
	r.Page, r.Slot = no, slot
	return r
}

// engineLog has transactions 2 (whose second update is undone) and 4 open; 1 is committed and 5 has its end.
func engineLog() []impl.LogRecord {
	a, b, c, d := bytesOfRow(1, row(1, 1)), bytesOfRow(2, row(2, 2)), bytesOfRow(1, row(3, 3)), bytesOfRow(2, row(4, 4))
	return []impl.LogRecord{
		begin(1, 1, 1), at(update(1, 2, 1, 1, "", a), 0, 0), begin(1, 3, 2), at(update(2, 4, 2, 3, "", b), 1, 1),
		commit(2, 5, 1, 2), begin(2, 6, 4), at(update(2, 7, 4, 6, "", c), 0, 1), at(update(2, 8, 2, 4, "", d), 1, 2),
		at(clr(3, 9, 2, 8, 4, ""), 1, 2), check(3, 10, pairs([2]int{0, 2})+pairs([2]int{2, 9}, [2]int{4, 7})),
		at(update(3, 11, 4, 7, a, ""), 0, 0), begin(3, 12, 5), end(3, 13, 5, 12),
	}
}

// someEngine has all that an engine can have.
func someEngine() impl.Engine {
	log := engineLog()
	d := logDisk(impl.DiskSectors, log[:7])
	d.Sectors[0] = header(3)
	d.Sectors[pageAt(0)] = bytesOfPage(0, page(2, log[1].After, "", "", ""))
	d.Cache = []impl.Pending{write(pageAt(0), bytesOfPage(0, page(7, log[1].After, log[6].After, "", "")))}
	s := impl.Store{Disk: d, Epoch: 3, Log: log, Sure: 7, Hand: 2, Frames: []impl.Frame{
		dirty(1, page(9, "", log[3].After, "", ""), 4), dirty(0, page(11, "", log[6].After, "", ""), 11), clean(5, page(0, "", "", "", ""))}}
	return impl.Engine{Store: s, Up: true, Next: 6, Txs: []impl.Tx{{Id: 2, Last: 9}, {Id: 4, Last: 11}}, Locks: impl.Locks{
		Held: []impl.Lock{lock(2, 2, -1, impl.LkIX), lock(2, 2, 2, impl.LkX), lock(2, 2, 4, impl.LkX), lock(4, 1, -1, impl.LkIX),
			lock(4, 1, 3, impl.LkX), lock(4, 1, 1, impl.LkX)},
		Waits: waiting(2, 4)}}
}

// downEngine has a disk and a log alone.
func downEngine() impl.Engine {
	e := someEngine()
	return impl.Engine{Next: 6, Store: impl.Store{Disk: e.Store.Disk, Epoch: 3, Log: e.Store.Log[:7], Sure: 7}}
}

// begun has n transactions that are open, from least on, each with its begin alone.
func begun(least, n int) impl.Engine {
	e := impl.NewEngine()
	for i := range n {
		e.Store.Log = append(e.Store.Log, begin(1, i+1, least+i))
		e.Txs = append(e.Txs, impl.Tx{Id: least + i, Last: i + 1})
	}
	e.Next = least + n
	return e
}

// updated has one open transaction with that many updates, all of page 0; the log is half full with 29.
func updated(n int) impl.Engine {
	e := begun(1, 1)
	for i := range n {
		e.Store.Log = append(e.Store.Log, update(1, i+2, 1, i+1, "", "x"))
	}
	e.Txs[0].Last = n + 1
	return e
}

// filledUp has that many records more in the log: begins of transactions that are not open.
func filledUp(e impl.Engine, n int) impl.Engine {
	return engineWith(e, func(e *impl.Engine) {
		for range n {
			e.Store.Log = append(e.Store.Log, begin(e.Store.Epoch, len(e.Store.Log)+1, 60))
		}
	})
}

func rightEngines() map[string]impl.Engine {
	some := someEngine()
	with := func(change func(e *impl.Engine)) impl.Engine { return engineWith(some, change) }
	return map[string]impl.Engine{
		"a new engine":               impl.NewEngine(),
		"some engine":                some,
		"not up":                     downEngine(),
		"not up, with nothing":       {Store: impl.NewStore(), Next: 1},
		"not up, MaxTx + 1":          {Store: impl.NewStore(), Next: impl.MaxTx + 1},
		"not up, hand 2":             engineWith(downEngine(), func(e *impl.Engine) { e.Store.Hand = 2 }),
		"not up, armed":              engineWith(downEngine(), func(e *impl.Engine) { e.Store.Disk.Armed = true }),
		"not up, half of it sure":    engineWith(downEngine(), func(e *impl.Engine) { e.Store.Disk.Cache, e.Store.Sure = nil, 3 }),
		"up, no frames":              with(func(e *impl.Engine) { e.Store.Frames = nil }),
		"up, armed":                  with(func(e *impl.Engine) { e.Store.Disk.Armed, e.Store.Disk.Keep = true, []int{1, 0, 1} }),
		"no locks":                   with(func(e *impl.Engine) { e.Locks = impl.Locks{} }),
		"no waits":                   with(func(e *impl.Engine) { e.Locks.Waits = nil }),
		"waits round":                with(func(e *impl.Engine) { e.Locks.Waits = waiting(2, 4, 4, 2) }),
		"no transactions":            with(func(e *impl.Engine) { e.Txs, e.Locks = nil, impl.Locks{} }),
		"one transaction":            with(func(e *impl.Engine) { e.Txs, e.Locks = e.Txs[1:], impl.Locks{} }),
		"a Last at an update":        with(func(e *impl.Engine) { e.Txs[0].Last = 4 }),
		"a Last at a begin":          with(func(e *impl.Engine) { e.Txs[0].Last = 3 }),
		"a CLR back to the begin":    with(func(e *impl.Engine) { e.Store.Log[8].Next = 3 }),
		"a CLR back to its update":   with(func(e *impl.Engine) { e.Store.Log[8].Next = 8 }),
		"a CLR back to one aside":    with(func(e *impl.Engine) { e.Store.Log[7].Prev = 3 }),
		"one that is over is open":   with(func(e *impl.Engine) { e.Txs[0] = impl.Tx{Id: 1, Last: 2}; e.Locks = impl.Locks{} }),
		"Next MaxTx + 1":             with(func(e *impl.Engine) { e.Next = impl.MaxTx + 1 }),
		"10 transactions":            begun(1, 10),
		"9 transactions":             begun(1, 9),
		"10 transactions up to 60":   begun(51, 10),
		"9 transactions up to 60":    begun(52, 9),
		"no room for more":           filledUp(begun(1, 10), 40),
		"room for one more":          filledUp(begun(1, 10), 39),
		"29 updates":                 updated(29),
		"28 updates":                 updated(28),
		"28 updates and one more":    filledUp(updated(28), 1),
		"28 updates and two more":    filledUp(updated(28), 2),
		"a full log, nothing open":   filledUp(impl.NewEngine(), impl.MaxLog),
		"some engine, no room left":  filledUp(some, 42),
		"some engine, a little room": filledUp(some, 40),
	}
}

func wrongEngines() map[string]impl.Engine {
	list := map[string]impl.Engine{
		"nothing":                   {},
		"no store":                  {Up: true, Next: 1},
		"11 transactions":           begun(1, 11),
		"11 transactions up to 60":  begun(50, 11),
		"one record too many":       filledUp(begun(1, 10), 41),
		"a full log, one open":      filledUp(begun(1, 1), impl.MaxLog-1),
		"30 updates":                updated(30),
		"28 updates and three more": filledUp(updated(28), 3),
		"29 updates and one more":   filledUp(updated(29), 1),
		"some engine, no room":      filledUp(someEngine(), 43),
		"a full log":                filledUp(someEngine(), 47),
		"not up, a transaction":     engineWith(downEngine(), func(e *impl.Engine) { e.Txs = []impl.Tx{{Id: 2, Last: 4}} }),
		"not up, a lock":            engineWith(downEngine(), func(e *impl.Engine) { e.Locks = held(lock(2, 1, -1, impl.LkS)) }),
		"not up, a wait":            engineWith(downEngine(), func(e *impl.Engine) { e.Locks.Waits = waiting(2, 4) }),
		"not up, a frame":           engineWith(downEngine(), func(e *impl.Engine) { e.Store.Frames = framesOf(1) }),
		"not up, a frame that is dirty": engineWith(downEngine(), func(e *impl.Engine) {
			e.Store.Frames = []impl.Frame{dirty(0, page(3, "", "", "", ""), 3)}
		}),
		"not up, all as it was": engineWith(someEngine(), func(e *impl.Engine) { e.Up = false }),
	}
	for _, of := range []func() map[string]func(e *impl.Engine){wrongOfTxs, wrongOfLinks, wrongOfEngineLocks} {
		for name, change := range of() {
			list[name] = engineWith(someEngine(), change)
		}
	}
	for name, s := range wrongStores() {
		list["store: "+name] = impl.Engine{Store: s, Up: true, Next: 1}
	}
	for name, l := range wrongLocks() {
		list["locks: "+name] = engineWith(someEngine(), func(e *impl.Engine) { e.Locks = l })
	}
	return list
}

func wrongOfTxs() map[string]func(e *impl.Engine) {
	list := map[string]func(e *impl.Engine){
		"the other way round":       func(e *impl.Engine) { e.Txs[0], e.Txs[1] = e.Txs[1], e.Txs[0] },
		"one twice":                 func(e *impl.Engine) { e.Txs = append(e.Txs, e.Txs[1]) },
		"one twice, at two records": func(e *impl.Engine) { e.Txs = []impl.Tx{{Id: 2, Last: 4}, {Id: 2, Last: 9}, {Id: 4, Last: 11}} },
		"Next is one of them":       func(e *impl.Engine) { e.Next = 4 },
		"Next is below":             func(e *impl.Engine) { e.Next = 3 },
		"Next is the first of them": func(e *impl.Engine) { e.Next = 2 },
		"Next 1":                    func(e *impl.Engine) { e.Next = 1 },
		"no transactions, but locks": func(e *impl.Engine) {
			e.Txs = nil
		},
	}
	for _, n := range []int{math.MinInt, -1, 0, impl.MaxTx + 2, 128, math.MaxInt} {
		list[fmt.Sprint("Next ", n)] = func(e *impl.Engine) { e.Next = n }
		list[fmt.Sprint("nothing open, Next ", n)] = func(e *impl.Engine) { e.Txs, e.Locks, e.Next = nil, impl.Locks{}, n }
	}
	for _, n := range []int{math.MinInt, -1, 0, 1, 3, 6, 60, 61, math.MaxInt} {
		list[fmt.Sprint("a transaction ", n)] = func(e *impl.Engine) { e.Txs[1].Id, e.Locks = n, impl.Locks{} }
	}
	return list
}

func wrongOfLinks() map[string]func(e *impl.Engine) {
	// A CLR may lead to any record ahead of it; all of these are none of transaction 2's, or not of its kinds.
	list := map[string]func(e *impl.Engine){}
	for _, n := range []int{math.MinInt, -1, 0, 1, 2, 5, 6, 7, 10, 11, 12, 13, 14, 60, math.MaxInt} {
		list[fmt.Sprint("a Last of ", n)] = func(e *impl.Engine) { e.Txs[0].Last = n }
	}
	for _, n := range []int{0, 1, 2, 5, 6, 7} {
		list[fmt.Sprint("a CLR's Next ", n)] = func(e *impl.Engine) { e.Store.Log[8].Next = n }
		list[fmt.Sprint("a Prev ", n)] = func(e *impl.Engine) { e.Store.Log[7].Prev = n }
		list[fmt.Sprint("a CLR's Prev ", n)] = func(e *impl.Engine) { e.Store.Log[8].Prev = n }
	}
	list["the begin is another's"] = func(e *impl.Engine) { e.Store.Log[2].Tx = 3 }
	list["an update is another's"] = func(e *impl.Engine) { e.Store.Log[3].Tx = 4 }
	list["the Last is a commit"] = func(e *impl.Engine) { e.Store.Log[10] = commit(3, 11, 4, 7) }
	list["the Last is an end"] = func(e *impl.Engine) { e.Store.Log[10] = end(3, 11, 4, 7) }
	list["a commit within"] = func(e *impl.Engine) { e.Store.Log[6] = commit(2, 7, 4, 6) }
	list["an end within"] = func(e *impl.Engine) { e.Store.Log[6] = end(2, 7, 4, 6) }
	list["a checkpoint within"] = func(e *impl.Engine) { e.Store.Log[10].Prev = 10 }
	list["a CLR back to a commit"] = func(e *impl.Engine) { e.Store.Log[3], e.Store.Log[7].Prev = commit(2, 4, 2, 3), 3 }
	list["a CLR back to an end"] = func(e *impl.Engine) { e.Store.Log[3], e.Store.Log[7].Prev = end(2, 4, 2, 3), 3 }
	list["the record is not there yet"] = func(e *impl.Engine) { e.Store.Log = e.Store.Log[:10] }
	return list
}

func wrongOfEngineLocks() map[string]func(e *impl.Engine) {
	list := map[string]func(e *impl.Engine){}
	for _, tx := range []int{1, 3, 5, 6, impl.MaxTx} {
		list[fmt.Sprint("a lock of ", tx)] = func(e *impl.Engine) { e.Locks.Held = append(e.Locks.Held, lock(tx, 3, 1, impl.LkS)) }
		list[fmt.Sprint("a lock ahead of ", tx)] = func(e *impl.Engine) { e.Locks.Held[0] = lock(tx, 3, 1, impl.LkS) }
		list[fmt.Sprint("a wait of ", tx)] = func(e *impl.Engine) { e.Locks.Waits = waiting(2, 4, tx, 4) }
		list[fmt.Sprint("a wait for ", tx)] = func(e *impl.Engine) { e.Locks.Waits = waiting(2, tx, 2, 4) }
		list[fmt.Sprint("no locks, a wait of ", tx)] = func(e *impl.Engine) { e.Locks = impl.Locks{Waits: waiting(tx, 2)} }
		list[fmt.Sprint("no locks, a wait for ", tx)] = func(e *impl.Engine) { e.Locks = impl.Locks{Waits: waiting(4, tx)} }
	}
	return list
}

func TestNewEngine(t *testing.T) {
	checkEngine(t, "NewEngine", impl.NewEngine(), impl.Engine{Store: impl.NewStore(), Up: true, Next: 1})
}

func TestRightEngines(t *testing.T) {
	for name, e := range rightEngines() {
		if !impl.EngineOK(e) {
			t.Errorf("%s: not right", name)
		}
	}
	for name, e := range wrongEngines() {
		if impl.EngineOK(e) {
			t.Errorf("%s: right", name)
		}
	}
}

// TestRoomOfARightEngine: of open transactions each takes a record for its end, and one for each update to be undone.
func TestRoomOfARightEngine(t *testing.T) {
	for open := range 11 {
		for more := range impl.MaxLog + 1 {
			if len(begun(1, open).Store.Log)+more > impl.MaxLog {
				continue
			}
			if got, want := impl.EngineOK(filledUp(begun(1, open), more)), 2*open+more <= impl.MaxLog; got != want {
				t.Errorf("%d open, %d more: EngineOK %v", open, more, got)
			}
		}
	}
	for updates := range 40 {
		for more := range impl.MaxLog - updates - 1 {
			if got, want := impl.EngineOK(filledUp(updated(updates), more)), 2*(updates+1)+more <= impl.MaxLog; got != want {
				t.Errorf("%d updates, %d more: EngineOK %v", updates, more, got)
			}
		}
	}
	// Of two updates that are undone already nothing is to be undone.
	e := updated(2)
	e.Store.Log = append(e.Store.Log, clr(1, 4, 1, 3, 2, ""), clr(1, 5, 1, 4, 1, ""))
	e.Txs[0].Last = 5
	for more := range impl.MaxLog - 5 {
		if got, want := impl.EngineOK(filledUp(e, more)), 5+1+more <= impl.MaxLog; got != want {
			t.Errorf("all undone, %d more: EngineOK %v", more, got)
		}
	}
}
