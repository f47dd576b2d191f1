package tests

import (
	"fmt"
	"slices"
	"testing"

	"loop.example/g00332/impl"
)

// auditLogs are logs of each kind of answer: linked, not linked, with each code.
func auditLogs() map[string][]impl.LogRecord {
	list := logArguments()
	list["woven"], list["not linked"] = wovenLog(), []impl.LogRecord{begin(1, 1, 1), begin(1, 2, 1)}
	list["a CLR to nothing"] = []impl.LogRecord{begin(1, 1, 1), clr(1, 2, 1, 1, 0, "a")}
	return list
}

// auditWorlds are right ones and not, up and down, with rows that stand twice, and frames that are not by the log.
func auditWorlds(t *testing.T) map[string]impl.World {
	t.Helper()
	list := apartWorlds(t)
	list["a row twice"], list["held"] = withEngine(twice(t).e), heldWorld(t)
	list["a frame beside the log"] = worldWith(heldWorld(t), func(w *impl.World) {
		w.Engine.Store.Frames[0] = clean(w.Engine.Store.Frames[0].No, page(1, "a", "b", "c", "d"))
	})
	list["not linked"] = withEngine(engineWith(begun(1, 1), func(e *impl.Engine) { e.Store.Log = append(e.Store.Log, begin(1, 2, 1)) }))
	return list
}

// TestAuditsStandApart: no argument is changed, also not behind its end; what stands there, and in which memory an
// argument is, changes no answer.
func TestAuditsStandApart(t *testing.T) {
	for name, w := range auditWorlds(t) {
		mine, copied := otherWorld(w), otherWorld(w)
		told := auditTold(mine)
		if tellWorld(wholeWorld(mine)) != tellWorld(wholeWorld(copied)) {
			t.Fatalf("%s: an argument is changed, or what stands behind it", name)
		}
		if again := auditTold(mine); again != told || auditTold(copied) != told || auditTold(w) != told || auditTold(cloneWorld(w)) != told {
			t.Fatalf("%s: alike arguments have other answers: %s, %s", name, told, again)
		}
	}
	for name, s := range rightStores() {
		mine, copied := otherStore(s), otherStore(s)
		behind, code := impl.PagesBehind(mine)
		if tellStore(wholeStore(mine)) != tellStore(wholeStore(copied)) {
			t.Fatalf("%s: an argument is changed, or what stands behind it", name)
		}
		if again, code2 := impl.PagesBehind(s); again != behind || code2 != code {
			t.Fatalf("%s: alike arguments have other answers", name)
		}
	}
	for name, log := range auditLogs() {
		checkApart(t, "LogLinks, "+name, log, begin(9, 9, 9), 7777, func(log []impl.LogRecord) ([]int, int) {
			linked, code := impl.LogLinks(log)
			return nil, code*2 + pick(linked, 1, 0)
		})
	}
}

// TestNilAndEmptyAreTheSame: in all lists that an audit is given.
func TestNilAndEmptyAreTheSame(t *testing.T) {
	w := impl.NewWorld()
	w.Open, w.Done, w.Doubt = []impl.Change{}, []impl.Change{}, []impl.Change{}
	w.Engine.Txs, w.Engine.Locks = []impl.Tx{}, impl.Locks{Held: []impl.Lock{}, Waits: []impl.Wait{}}
	s := &w.Engine.Store
	s.Log, s.Frames, s.Disk.Cache, s.Disk.Keep = []impl.LogRecord{}, []impl.Frame{}, []impl.Pending{}, []int{}
	if got, want := auditTold(w), auditTold(impl.NewWorld()); got != want {
		t.Errorf("%s, want %s", got, want)
	}
}

// auditCalls are calls of all functions of chapter 16.
func auditCalls(t *testing.T) []call {
	t.Helper()
	var list []call
	for name, w := range auditWorlds(t) {
		list = append(list, call{"the audit of " + name, func() string { return auditTold(w) }})
	}
	for name, log := range auditLogs() {
		list = append(list, call{"LogLinks of " + name, func() string { linked, code := impl.LogLinks(log); return fmt.Sprint(linked, code) }})
	}
	for name, s := range rightStores() {
		list = append(list, call{"PagesBehind of " + name, func() string { behind, code := impl.PagesBehind(s); return fmt.Sprint(behind, code) }})
	}
	for name, s := range wrongStores() {
		list = append(list, call{"PagesBehind of " + name, func() string { behind, code := impl.PagesBehind(s); return fmt.Sprint(behind, code) }})
	}
	for name, e := range wrongEngines() {
		list = append(list, call{"RowsOnce of " + name, func() string { once, code := impl.RowsOnce(e); return fmt.Sprint(once, code) }})
	}
	for name, r := range wrongRecords() {
		log := slices.Concat(wovenLog()[:8], []impl.LogRecord{r})
		list = append(list, call{"LogLinks of " + name, func() string { linked, code := impl.LogLinks(log); return fmt.Sprint(linked, code) }})
	}
	return list
}
