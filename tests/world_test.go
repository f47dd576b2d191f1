package tests

import (
	"fmt"
	"maps"
	"math"
	"slices"
	"testing"

	"loop.example/g00332/impl"
)

func TestWorldConstants(t *testing.T) {
	kinds := []int{impl.WoBegin, impl.WoSql, impl.WoCommit, impl.WoAbort, impl.WoEvict, impl.WoCheck, impl.WoCrash, impl.WoArm, impl.WoRestart}
	if !slices.Equal(kinds, []int{1, 2, 3, 4, 5, 6, 7, 8, 9}) || impl.MaxSessions != 3 || impl.MaxActs != 160 {
		t.Error("constants of chapter 15")
	}
}

func TestNewWorld(t *testing.T) {
	checkWorld(t, "NewWorld", impl.NewWorld(), impl.World{Engine: impl.NewEngine(), Sessions: []int{0, 0, 0}})
	if !impl.WorldOK(impl.NewWorld()) {
		t.Error("a new world is not right")
	}
}

// busyWorld has all that a world can have: sessions 0 and 2 are in the middle of work, session 1 committed some.
func busyWorld(t *testing.T) impl.World {
	t.Helper()
	p := newPlayer(t)
	p.begin(1)
	p.sql(1, "insert 1 1 10 'a'", "insert 1 2 20 'b'", "insert 2 5 50 null", "insert 3 7 null 'c'")
	p.commit(1)
	p.begin(2, 0)
	p.sql(2, "update 1 set n = n + 1", "delete 1 where id = 1", "insert 1 9 90 'z'")
	p.sql(0, "insert 3 8 80 'd'", "insert 2 6 60 'e'")
	p.sqlCode(0, "select 1", impl.ErrWait)
	return worldWith(p.w, func(w *impl.World) { w.Doubt = []impl.Change{put(1, 2, row(4, 4)), gone(0, 3, row(7, 7))} })
}

// downWorld is behind a commit that was cut.
func downWorld(t *testing.T) impl.World {
	t.Helper()
	p := &player{t, worldWith(busyWorld(t), func(w *impl.World) { w.Doubt = nil })}
	p.act(armAct(), impl.OK)
	p.act(commitAct(2), impl.ErrDown)
	return p.w
}

// withEngine has the transactions of an engine as its sessions, as far as there are sessions.
func withEngine(e impl.Engine) impl.World {
	w := impl.World{Engine: e, Sessions: []int{0, 0, 0}}
	for i, x := range e.Txs[:min(len(e.Txs), 3)] {
		w.Sessions[i] = x.Id
	}
	return w
}

func manyChanges(n int) []impl.Change {
	var list []impl.Change
	for i := range n {
		list = append(list, impl.Change{Session: i % 3, Table: 1 + i%3, Row: row(i%1001, i), Gone: i%7 == 0})
	}
	return list
}

// partsOfWorlds are the lists of changes that a world has.
func partsOfWorlds() map[string]func(w *impl.World) *[]impl.Change {
	return map[string]func(w *impl.World) *[]impl.Change{
		"Open":  func(w *impl.World) *[]impl.Change { return &w.Open },
		"Done":  func(w *impl.World) *[]impl.Change { return &w.Done },
		"Doubt": func(w *impl.World) *[]impl.Change { return &w.Doubt },
	}
}

func rightWorlds(t *testing.T) map[string]impl.World {
	t.Helper()
	busy, down := busyWorld(t), downWorld(t)
	list := map[string]impl.World{
		"a new world":          impl.NewWorld(),
		"a busy world":         busy,
		"a world that is down": down,
		"lost":                 worldWith(busy, func(w *impl.World) { w.Lost = true }),
		"armed":                worldWith(busy, func(w *impl.World) { w.Engine.Store.Disk.Armed, w.Engine.Store.Disk.Keep = true, []int{1, 0, 1} }),
		"sessions round":       worldWith(busy, func(w *impl.World) { slices.Reverse(w.Sessions) }),
		"no changes":           worldWith(busy, func(w *impl.World) { w.Open, w.Done, w.Doubt = nil, nil, nil }),
		"down, with changes":   worldWith(down, func(w *impl.World) { w.Open, w.Doubt = slices.Clone(busy.Open), nil }),
		"down, lost":           worldWith(down, func(w *impl.World) { w.Lost = true }),
		"open, of a session without a transaction": worldWith(busy, func(w *impl.World) { w.Open = append(w.Open, put(1, 1, row(3, 3))) }),
		"two sessions of one transaction":          worldWith(busy, func(w *impl.World) { w.Sessions[1] = w.Sessions[2] }),
	}
	for name, part := range partsOfWorlds() {
		list[name+" of 1000"] = worldWith(busy, func(w *impl.World) { *part(w) = manyChanges(1000) })
		list[name+" of nothing but 0"] = worldWith(busy, func(w *impl.World) { *part(w) = []impl.Change{{Table: 1}} })
	}
	for name, e := range manyEngines(t) {
		if len(e.Txs) <= 3 {
			list["engine: "+name] = withEngine(e)
		}
	}
	return list
}

// wrongChanges are each not right in one thing.
func wrongChanges() map[string]impl.Change {
	list := map[string]impl.Change{}
	for _, n := range []int{math.MinInt, -1, impl.MaxSessions, 256, math.MaxInt} {
		list[fmt.Sprint("session ", n)] = put(n, 1, row(1, 1))
	}
	for _, n := range wrongTables() {
		list[fmt.Sprint("table ", n)] = put(0, n, row(1, 1))
	}
	for i, r := range wrongRows() {
		list[fmt.Sprint("row ", i)] = put(2, 3, r)
	}
	for name, c := range maps.Clone(list) {
		c.Gone = true
		list["gone, "+name] = c
	}
	list["nothing"] = impl.Change{}
	return list
}

func wrongWorlds(t *testing.T) map[string]impl.World {
	t.Helper()
	busy, down := busyWorld(t), downWorld(t)
	list := map[string]impl.World{
		"nothing":               {},
		"no engine":             {Sessions: []int{0, 0, 0}},
		"four transactions":     withEngine(begun(1, 4)),
		"ten transactions":      withEngine(begun(1, 10)),
		"no sessions":           {Engine: impl.NewEngine()},
		"two sessions":          {Engine: impl.NewEngine(), Sessions: []int{0, 0}},
		"four sessions":         {Engine: impl.NewEngine(), Sessions: []int{0, 0, 0, 0}},
		"busy, two sessions":    worldWith(busy, func(w *impl.World) { w.Sessions = []int{w.Sessions[0], w.Sessions[2]} }),
		"busy, four sessions":   worldWith(busy, func(w *impl.World) { w.Sessions = append(w.Sessions, 0) }),
		"one without a session": worldWith(busy, func(w *impl.World) { w.Sessions[0] = 0 }),
		"all without a session": worldWith(busy, func(w *impl.World) { w.Sessions = []int{0, 0, 0} }),
		"one has the other's":   worldWith(busy, func(w *impl.World) { w.Sessions[0] = w.Sessions[2] }),
		"down, a session":       worldWith(down, func(w *impl.World) { w.Sessions[2] = 2 }),
		"not up, all as it was": worldWith(busy, func(w *impl.World) { w.Engine.Up = false }),
	}
	for _, tx := range []int{math.MinInt, -1, 1, busy.Engine.Next, impl.MaxTx, 64, math.MaxInt} {
		list[fmt.Sprint("a session with ", tx)] = worldWith(busy, func(w *impl.World) { w.Sessions[1] = tx })
		list[fmt.Sprint("new, a session with ", tx)] = worldWith(impl.NewWorld(), func(w *impl.World) { w.Sessions[2] = tx })
	}
	for name, part := range partsOfWorlds() {
		list[name+" of 1001"] = worldWith(busy, func(w *impl.World) { *part(w) = manyChanges(1001) })
		for wrong, c := range wrongChanges() {
			list[name+" of "+wrong] = worldWith(busy, func(w *impl.World) { *part(w) = []impl.Change{c} })
			list[name+", last, of "+wrong] = worldWith(busy, func(w *impl.World) { *part(w) = append(manyChanges(3), c) })
		}
	}
	for name, e := range wrongEngines() {
		list["engine: "+name] = withEngine(e)
	}
	return list
}

func TestRightWorlds(t *testing.T) {
	for name, w := range rightWorlds(t) {
		if !impl.WorldOK(w) || !plainWorldOK(w) {
			t.Errorf("%s: not right", name)
		}
	}
	for name, w := range wrongWorlds(t) {
		if impl.WorldOK(w) || plainWorldOK(w) {
			t.Errorf("%s: right", name)
		}
	}
}

// oneOfEachAct are acts of each kind, and one of no kind.
func oneOfEachAct() []impl.WorldAct {
	return []impl.WorldAct{beginAct(0), sqlAct(0, selectOf(1, lacking, 0, false)), commitAct(0), abortAct(0), evictAct(0), checkAct(), crashAct(1), armAct(1), restartAct(0), restartAct(1), {Kind: 10}}
}

func TestWorldsThatTakeNoAct(t *testing.T) {
	for name, w := range wrongWorlds(t) {
		for _, a := range oneOfEachAct() {
			got, answer, code := impl.WorldStep(w, a)
			if code != impl.ErrBad || !sameWorld(got, impl.World{}) || !sameAnswer(answer, impl.Answer{}) {
				t.Errorf("%s, %s: code %d, %.500s", name, tellAct(a), code, tellWorld(got))
			}
		}
	}
}

// TestEachRightWorldTakesEachAct: also those that did not begin new; a right world comes of each, if it has room for its
// changes.
func TestEachRightWorldTakesEachAct(t *testing.T) {
	t.Parallel()
	texts := []string{"select 1", "select 2 where n order n desc", "insert 1 3 4 'd'", "insert 3 8 null null", "update 1 set n = 7", "update 2 set name = 'q' where id < 6", "delete 1 where id = 2", "delete 3"}
	for name, w := range rightWorlds(t) {
		for session := range 3 {
			acts := []impl.WorldAct{beginAct(session), commitAct(session), abortAct(session)}
			for _, text := range texts {
				acts = append(acts, sqlAct(session, stmtOf(t, text)))
			}
			for _, a := range append(acts, oneOfEachAct()...) {
				next, _, _ := checkStep(t, name, w, a)
				if len(w.Open)+len(w.Done)+len(w.Doubt) < 500 && !impl.WorldOK(next) {
					t.Errorf("%s, %s: the world is not right", name, tellAct(a))
				}
			}
		}
	}
}
