package tests

import (
	"fmt"
	"slices"
	"testing"

	"loop.example/g00332/impl"
)

// comesBack restarts a world that is down, perhaps cut some times ahead of that; it is false if there is no epoch left.
func comesBack(t *testing.T, name string, x *dice, w impl.World) (impl.World, bool) {
	t.Helper()
	for range x.below(3) {
		n := 1 + x.below(2)
		cut, _, code := checkStep(t, name, w, restartAct(n))
		if code == impl.ErrMany {
			return w, false
		}
		if code != impl.ErrDown || !slices.Equal(cut.Doubt, w.Doubt) || !slices.Equal(cut.Done, w.Done) {
			t.Fatalf("%s, cut with %d: code %d", name, n, code)
		}
		w = cut
	}
	up, _, code := checkStep(t, name, w, restartAct(0))
	if code == impl.ErrMany {
		return w, false
	}
	if code != impl.OK || !impl.WorldOK(up) || up.Lost || len(up.Open)+len(up.Doubt) != 0 {
		t.Fatalf("%s: code %d, right %v, lost %v, open %v, doubt %v", name, code, impl.WorldOK(up), up.Lost, up.Open, up.Doubt)
	}
	return up, true
}

// checkCrashNow: whatever a crash keeps now, the restart behind it finds just what was committed.
func (run *worldRun) checkCrashNow(name string) {
	run.t.Helper()
	keep := run.x.keep(len(run.w.Engine.Store.Disk.Cache) + 1)
	down, _, code := checkStep(run.t, name, run.w, crashAct(keep...))
	if code != impl.OK || len(down.Doubt) != 0 {
		run.t.Fatalf("%s: code %d, doubt %v", name, code, down.Doubt)
	}
	if up, is := comesBack(run.t, name, &run.x, down); is {
		checkTables(run.t, fmt.Sprintf("%s, a crash keeps %v", name, keep), up.Engine, run.done.all())
		run.met["crash"]++
	}
}

// checkCommitNow: a commit that is cut now is there, or is not; nothing else is.
func (run *worldRun) checkCommitNow(name string, session int) {
	run.t.Helper()
	if !run.works[session].open {
		return
	}
	s := run.w.Engine.Store
	most := len(s.Disk.Cache) + len(s.Log) + 1 - s.Sure
	keep := pick(run.x.below(2) == 0, slices.Repeat([]int{1}, run.x.below(most+2)), run.x.keep(most+1))
	armed, _, _ := checkStep(run.t, name, run.w, armAct(keep...))
	down, _, code := checkStep(run.t, name, armed, commitAct(session))
	own, _ := parted(run.w.Open, session)
	if code != impl.ErrDown || !slices.Equal(down.Doubt, own) {
		run.t.Fatalf("%s: code %d, doubt %v, want %v", name, code, down.Doubt, own)
	}
	up, is := comesBack(run.t, name, &run.x, down)
	if !is {
		return
	}
	all := len(keep) >= most && !slices.Contains(keep[:most], 0)
	with := run.done.with(run.works[session].rows)
	tables := fmt.Sprint(tablesOf(run.t, name, up.Engine))
	switch without := fmt.Sprint(run.done.all()); {
	case tables == fmt.Sprint(with.all()):
		run.met["there"]++
	case tables == without && !all:
		run.met["not there"]++
	default:
		run.t.Fatalf("%s, keep %v of %d: %s, without the commit %s", name, keep, most, tables, without)
	}
	if all {
		run.met["all is kept"]++
	}
}

// TestWhereverThePowerGoes: the first restart that ends finds just what was committed, and perhaps what was being
// committed.
func TestWhereverThePowerGoes(t *testing.T) {
	t.Parallel()
	met := map[string]int{}
	for n := range 150 {
		run := newWorldRun(t, 7000+n, true, met)
		for i := range impl.MaxActs {
			name := fmt.Sprintf("run %d, %s", n, run.step(run.next()))
			run.check(name)
			if run.w.Engine.Up && !run.w.Engine.Store.Disk.Armed && i%5 == 0 {
				run.checkCrashNow(name)
				run.checkCommitNow(name, run.x.below(3))
			}
		}
		run.checkSerial(fmt.Sprint("run ", n))
		run.checkWhole(fmt.Sprint("run ", n))
	}
	for what, least := range map[string]int{
		"crash": 1000, "there": 100, "not there": 100, "all is kept": 50, "in doubt true, kept true": 10, "in doubt true, kept false": 20, "in doubt false, kept false": 200, "serial": 500,
		"kind 1 15": 20, "kind 2 15": 50, "kind 3 15": 50, "kind 4 15": 3, "kind 5 15": 5, "kind 6 15": 5, "kind 7 0": 100, "kind 8 0": 100, "kind 9 0": 200, "kind 9 15": 50,
	} {
		if met[what] < least {
			t.Errorf("%s: %d times", what, met[what])
		}
	}
}

// chronicle is a run of all sessions, with pages that go out and checkpoints, in which each act is OK.
func chronicle(t *testing.T) []impl.WorldAct {
	t.Helper()
	acts := []impl.WorldAct{beginAct(0), beginAct(1)}
	add := func(session int, texts ...string) {
		for _, text := range texts {
			acts = append(acts, sqlAct(session, stmtOf(t, text)))
		}
	}
	add(0, "insert 1 1 1 'a'", "insert 1 2 2 'b'", "insert 2 1 1 'a'")
	add(1, "insert 3 1 1 'a'", "insert 3 2 2 'b'")
	acts = append(acts, commitAct(0), beginAct(0))
	add(0, "update 1 set n = n + 10", "insert 1 3 3 'c'")
	acts = append(acts, checkAct(), commitAct(1), beginAct(2))
	add(2, "delete 3 where id = 1", "update 3 set name = 'z'")
	add(0, "delete 1 where id = 2")
	acts = append(acts, commitAct(2), beginAct(2))
	add(2, "insert 2 9 9 'i'", "insert 3 9 null null")
	acts = append(acts, abortAct(2), commitAct(0))
	return acts
}

func TestAChronicle(t *testing.T) {
	acts := chronicle(t)
	w, codes, code := impl.WorldRun(acts)
	if code != impl.OK || len(codes) != len(acts) || slices.ContainsFunc(codes, func(code int) bool { return code != impl.OK }) {
		t.Fatalf("code %d, codes %v", code, codes)
	}
	checkTables(t, "a chronicle", w.Engine, [impl.MaxTables][]impl.Row{{named(1, 11, "a"), named(3, 3, "c")}, {named(1, 1, "a")}, {named(2, 2, "z")}})
	done := []impl.Change{put(0, 1, named(1, 1, "a")), put(0, 1, named(2, 2, "b")), put(0, 2, named(1, 1, "a")), put(1, 3, named(1, 1, "a")), put(1, 3, named(2, 2, "b")),
		gone(2, 3, named(1, 1, "a")), put(2, 3, named(2, 2, "z")),
		put(0, 1, named(1, 11, "a")), put(0, 1, named(2, 12, "b")), put(0, 1, named(3, 3, "c")), gone(0, 1, named(2, 12, "b"))}
	(&player{t, w}).has("a chronicle", nil, done, nil)
}

// TestEachPlaceOfAChronicle: the power goes at each act of it, by a crash or at the next sync, with all that may be kept;
// tables are then what was committed by that act, and perhaps its own commit.
func TestEachPlaceOfAChronicle(t *testing.T) {
	t.Parallel()
	acts := chronicle(t)
	for at := range len(acts) + 1 {
		for _, power := range []func(keep ...int) impl.WorldAct{crashAct, armAct} {
			for _, keep := range append(keepsOf(4), nil, slices.Repeat([]int{1}, 99), slices.Repeat([]int{1, 1, 0}, 33)) {
				run := newWorldRun(t, at, true, map[string]int{})
				for i, a := range acts {
					if i == at {
						run.step(power(keep...))
					}
					name := fmt.Sprintf("place %d, keep %.40s, %s", at, fmt.Sprint(keep), run.step(a))
					run.check(name)
					if !run.w.Engine.Up {
						run.step(restartAct(1 + at%2))
						run.step(restartAct(0))
						run.check(name + ", restarted")
						break
					}
				}
				run.checkSerial(fmt.Sprint("place ", at))
			}
		}
	}
}
