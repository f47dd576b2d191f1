package tests

import (
	"fmt"
	"runtime"
	"slices"
	"strings"
	"sync"
	"testing"
	"time"

	"loop.example/g00332/impl"
)

var behindChange = impl.Change{Session: 77, Table: 77, Row: impl.Row{Id: 77}, Gone: true}

// otherWorld is w in other memory, with other things behind the ends of its lists.
func otherWorld(w impl.World) impl.World {
	w.Engine, w.Sessions = otherEngine(w.Engine), withRoom(w.Sessions, 77)
	w.Open, w.Done, w.Doubt = withRoom(w.Open, behindChange), withRoom(w.Done, behindChange), withRoom(w.Doubt, behindChange)
	return w
}

// wholeWorld has the lists up to their room.
func wholeWorld(w impl.World) impl.World {
	w.Engine, w.Sessions = wholeEngine(w.Engine), w.Sessions[:cap(w.Sessions)]
	w.Open, w.Done, w.Doubt = w.Open[:cap(w.Open)], w.Done[:cap(w.Done)], w.Doubt[:cap(w.Doubt)]
	return w
}

func spoilWorld(w impl.World) {
	spoilEngine(w.Engine)
	spoil(w.Sessions, 7777)
	for _, list := range [][]impl.Change{w.Open, w.Done, w.Doubt} {
		spoil(list, impl.Change{Session: 7777})
	}
}

// otherAct is an act in other memory, with other things behind the ends of its lists.
func otherAct(a impl.WorldAct) impl.WorldAct {
	a.Keep, a.Stmt = withRoom(a.Keep, 77), stmtWithRoom(a.Stmt, constNode(number(77)))
	return a
}

func actMemory(a impl.WorldAct) string {
	return fmt.Sprint(a.Kind, a.Session, a.N, a.Keep[:cap(a.Keep)], stmtMemory(a.Stmt))
}

func spoilAct(a impl.WorldAct) {
	spoil(a.Keep, 7777)
	spoil(a.Stmt.Set.Nodes, impl.ExprNode{Op: 7777})
	spoil(a.Stmt.Where.Nodes, impl.ExprNode{Op: 7777})
}

type worldAnswer struct {
	world  impl.World
	answer impl.Answer
	code   int
}

func stepAnswer(w impl.World, a impl.WorldAct) worldAnswer {
	w, answer, code := impl.WorldStep(w, a)
	return worldAnswer{w, answer, code}
}

func (a worldAnswer) tell() string {
	return fmt.Sprintf("%s, %s, code %d", tellWorld(a.world), tellAnswer(a.answer), a.code)
}

func (a worldAnswer) spoil() {
	spoilWorld(a.world)
	spoil(a.answer.Rows, row(7777, 7777))
}

func checkWorldApart(t *testing.T, name string, w impl.World, a impl.WorldAct) {
	t.Helper()
	mine, act := otherWorld(w), otherAct(a)
	ok := impl.WorldOK(mine)
	got := stepAnswer(mine, act)
	if tellWorld(wholeWorld(mine)) != tellWorld(wholeWorld(otherWorld(w))) || actMemory(act) != actMemory(otherAct(a)) {
		t.Fatalf("%s: an argument is changed, or what stands behind it", name)
	}
	told := got.tell()
	if again := stepAnswer(mine, act); again.tell() != told || impl.WorldOK(mine) != ok {
		t.Fatalf("%s: alike arguments have other answers", name)
	}
	spoilWorld(mine)
	spoilAct(act)
	if got.tell() != told {
		t.Fatalf("%s: an answer has memory of an argument", name)
	}
	copied, act := otherWorld(w), otherAct(a)
	first, second := stepAnswer(copied, act), stepAnswer(copied, act)
	first.spoil()
	if second.tell() != told || stepAnswer(w, a).tell() != told {
		t.Fatalf("%s: an answer has memory of another one", name)
	}
	if tellWorld(wholeWorld(copied)) != tellWorld(wholeWorld(otherWorld(w))) || actMemory(act) != actMemory(otherAct(a)) {
		t.Fatalf("%s: writing into an answer changes an argument", name)
	}
	checkWorldLists(t, name, w, a)
}

// worldLists are the lists of an answer, each with something that spoils it and something that tells it.
func worldLists(a worldAnswer) (spoils []func(), tells []func() string) {
	spoils, tells = engineLists(engineAnswer{engine: a.world.Engine, rows: a.answer.Rows})
	spoils = append(spoils, func() { spoil(a.world.Sessions, 7777) })
	tells = append(tells, func() string { return fmt.Sprint(a.world.Sessions) })
	for _, list := range [][]impl.Change{a.world.Open, a.world.Done, a.world.Doubt} {
		spoils = append(spoils, func() { spoil(list, impl.Change{Session: 7777}) })
		tells = append(tells, func() string { return fmt.Sprint(list) })
	}
	return spoils, tells
}

// checkWorldLists: no two lists of one answer share memory, not behind their ends either.
func checkWorldLists(t *testing.T, name string, w impl.World, a impl.WorldAct) {
	t.Helper()
	count, _ := worldLists(stepAnswer(w, a))
	for one := range count {
		spoils, tells := worldLists(stepAnswer(w, a))
		var told []string
		for _, tell := range tells {
			told = append(told, tell())
		}
		spoils[one]()
		for i, tell := range tells {
			if i != one && tell() != told[i] {
				t.Fatalf("%s: list %d shares memory with list %d", name, one, i)
			}
		}
	}
}

// apartActs are of each kind, with and without codes.
func apartActs(t *testing.T) []impl.WorldAct {
	acts := append(oneOfEachAct(), crashAct(1, 0, 1), armAct(slices.Repeat([]int{1}, 500)...), armAct(slices.Repeat([]int{1}, 501)...), crashAct(slices.Repeat([]int{1}, impl.MaxList+1)...), beginAct(3), sqlAct(0, impl.Stmt{}))
	for session := range 3 {
		acts = append(acts, beginAct(session), commitAct(session), abortAct(session))
		for _, text := range []string{"select 1 where id order n desc", "insert 1 30 1 'a'", "update 1 set n = n + 1 where id", "update 2 set name = 'q'", "delete 1 where id = 2", "delete 3"} {
			acts = append(acts, sqlAct(session, stmtOf(t, text)))
		}
	}
	for no := range impl.MaxPages {
		acts = append(acts, evictAct(no))
	}
	return acts
}

// apartWorlds are right ones and not, up and down, armed and not.
func apartWorlds(t *testing.T) map[string]impl.World {
	list := map[string]impl.World{}
	for _, name := range []string{"a new world", "a busy world", "a world that is down", "armed", "lost", "down, with changes", "Done of 1000", "engine: a story", "two sessions of one transaction"} {
		w, is := rightWorlds(t)[name]
		if !is {
			t.Fatalf("no world is %s", name)
		}
		list[name] = w
	}
	list["nothing"], list["two sessions"] = wrongWorlds(t)["nothing"], wrongWorlds(t)["two sessions"]
	return list
}

func TestWorldsStandApart(t *testing.T) {
	t.Parallel()
	for name, w := range apartWorlds(t) {
		for _, a := range apartActs(t) {
			if len(w.Done) < 500 || a.Kind == impl.WoCommit || a.Kind == impl.WoSql {
				checkWorldApart(t, name+", "+tellAct(a), w, a)
			}
		}
	}
}

func TestNewWorldsStandApart(t *testing.T) {
	a, b := impl.NewWorld(), impl.NewWorld()
	told := tellWorld(b)
	spoilWorld(a)
	if tellWorld(b) != told || tellWorld(impl.NewWorld()) != told {
		t.Error("two new worlds share memory")
	}
}

func TestFoldsStandApart(t *testing.T) {
	for name, list := range foldArguments() {
		for _, table := range []int{0, 1, 3} {
			checkApart(t, "FoldChanges of "+name, list, behindChange, row(7777, 7777), func(list []impl.Change) ([]impl.Row, int) { return impl.FoldChanges(list, table) })
		}
	}
}

func foldArguments() map[string][]impl.Change {
	return map[string][]impl.Change{"none": nil, "one": {put(0, 1, row(1, 1))}, "one, gone": {put(0, 1, row(1, 1)), gone(0, 1, row(1, 1))}, "some": manyChanges(30), "1000": manyChanges(1000),
		"1001": manyChanges(1001), "wrong": {put(0, 1, row(1, 1)), {}}, "too long": make([]impl.Change, impl.MaxList+1)}
}

// TestRunsStandApart: the acts are not changed, and not kept; so with what stands behind their ends.
func TestRunsStandApart(t *testing.T) {
	acts := chronicle(t)
	acts = append(acts, armAct(1, 0, 1), checkAct(), restartAct(1), restartAct(0), armAct(slices.Repeat([]int{1}, 500)...))
	tell := func(list []impl.WorldAct) (impl.World, []int, string) {
		w, codes, code := impl.WorldRun(list)
		return w, codes, fmt.Sprint(tellWorld(w), codes, code)
	}
	var mine, copied []impl.WorldAct
	for _, a := range acts {
		mine, copied = append(mine, otherAct(a)), append(copied, otherAct(a))
	}
	mine, copied = withRoom(mine, impl.WorldAct{Kind: 77}), withRoom(copied, impl.WorldAct{Kind: 77})
	w, codes, told := tell(mine)
	for i, a := range mine[:cap(mine)] {
		if actMemory(a) != actMemory(copied[:cap(copied)][i]) {
			t.Fatalf("act %d is changed, or what stands behind it", i)
		}
	}
	for _, a := range mine {
		spoilAct(a)
	}
	spoil(mine, impl.WorldAct{Kind: 7777})
	if fmt.Sprint(tellWorld(w), codes, 0) != told {
		t.Error("a run has memory of its acts")
	}
	spoil(codes, 7777)
	if got := fmt.Sprint(tellWorld(w)); got != told[:len(got)] {
		t.Error("the codes share memory with the world")
	}
	spoilWorld(w)
	if _, _, again := tell(copied); again != told {
		t.Error("another answer behind the first one was changed")
	}
}

// TestRunsBesideEachOther: however the goroutines run, alike arguments have alike answers.
func TestRunsBesideEachOther(t *testing.T) {
	t.Parallel()
	acts, busy := chronicle(t), busyWorld(t)
	tell := func() string {
		w, codes, code := impl.WorldRun(acts)
		told := fmt.Sprint(tellWorld(w), codes, code)
		for _, a := range apartActs(t)[:20] {
			told += stepAnswer(busy, a).tell()
		}
		return told
	}
	want := tell()
	for _, procs := range []int{1, 2, 8} {
		var all sync.WaitGroup
		list := make([]string, 24)
		for i := range list {
			all.Add(1)
			go func() {
				defer all.Done()
				for range procs {
					runtime.Gosched()
				}
				list[i] = tell()
			}()
		}
		all.Wait()
		for i, got := range list {
			if got != want {
				t.Fatalf("run %d of %d tells another answer", i, procs)
			}
		}
	}
}

// TestNoGoroutineIsLeft: neither behind a run nor behind a step or a console, whatever their codes. It runs alone, as it
// counts.
func TestNoGoroutineIsLeft(t *testing.T) {
	acts, busy, down := chronicle(t), busyWorld(t), downWorld(t)
	text := strings.Join(busyLines(), "\n")
	was := runtime.NumGoroutine()
	for range 50 {
		impl.WorldRun(acts)
		impl.WorldRun(make([]impl.WorldAct, impl.MaxActs+1))
		impl.WorldRun(nil)
		impl.Console(text)
		for _, a := range apartActs(t) {
			impl.WorldStep(busy, a)
			impl.WorldStep(down, a)
			impl.WorldStep(impl.World{}, a)
		}
	}
	// One that is joined may need a moment to be gone.
	for range 200 {
		if runtime.NumGoroutine() <= was {
			return
		}
		time.Sleep(10 * time.Millisecond)
	}
	t.Errorf("%d goroutines are left, %d were there", runtime.NumGoroutine(), was)
}

// worldCalls are calls of all functions of chapter 15.
func worldCalls(t *testing.T) []call {
	all := []call{{"NewWorld", func() string { return tellWorld(impl.NewWorld()) }}}
	for name, list := range foldArguments() {
		for _, table := range numberArguments() {
			all = append(all, call{"FoldChanges of " + name, func() string { return tellList(impl.FoldChanges(list, table)) }})
		}
	}
	for name, w := range apartWorlds(t) {
		all = append(all, call{"WorldOK of " + name, func() string { return answers(impl.WorldOK(w)) }})
		for _, a := range apartActs(t) {
			all = append(all, call{"WorldStep of " + name, func() string { return stepAnswer(w, a).tell() }})
		}
		for _, n := range numberArguments() {
			for kind := range 11 {
				all = append(all, call{"WorldStep of " + name, func() string { return stepAnswer(w, impl.WorldAct{Kind: kind, Session: n, N: n}).tell() }})
			}
		}
	}
	for n := range len(chronicle(t)) + 1 {
		acts := append(chronicle(t)[:n], crashAct(1), restartAct(n%3), restartAct(0))
		all = append(all, call{"WorldRun", func() string { w, codes, code := impl.WorldRun(acts); return fmt.Sprint(tellWorld(w), codes, code) }})
	}
	return all
}
