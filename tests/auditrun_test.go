package tests

import (
	"fmt"
	"slices"
	"testing"

	"loop.example/g00332/impl"
)

// noteAudit counts what an audit met, so that a run that asks nothing does not pass.
func noteAudit(met map[string]int, w impl.World) {
	s := w.Engine.Store
	met[fmt.Sprint("up ", w.Engine.Up)]++
	met[fmt.Sprint("frames ", len(s.Frames))]++
	for _, f := range s.Frames {
		met[fmt.Sprint("dirty ", f.Dirty)]++
		disk := pageOnDisk(s.Disk, f.No)
		if f.Dirty && disk.Lsn > 0 {
			met["dirty, and put out once"]++
		}
		if !f.Dirty && disk.Lsn > 0 {
			met["not dirty, with an Lsn"]++
		}
	}
	met["rows"] += len(timesOfRows(s))
	met["the longest log"] = max(met["the longest log"], len(s.Log))
	if !w.Engine.Up && !plainRowsOnce(w.Engine) {
		met["down, a row twice"]++
	}
	for _, r := range s.Log {
		met[fmt.Sprint("record ", r.Kind)]++
	}
}

func checkMet(t *testing.T, met, least map[string]int) {
	t.Helper()
	for what, n := range least {
		if met[what] < n {
			t.Errorf("%s: %d times", what, met[what])
		}
	}
}

// TestNoRowTwiceAndNoPageAhead: of worlds that began new, whatever sessions do, and wherever the power goes.
func TestNoRowTwiceAndNoPageAhead(t *testing.T) {
	t.Parallel()
	met := map[string]int{}
	for n := range 160 {
		run := newWorldRun(t, 9000+n, n%2 == 0, met)
		for range impl.MaxActs {
			name := fmt.Sprintf("run %d, %s", n, run.step(run.next()))
			checkAudit(t, name, run.w, run.x.keep(len(run.w.Engine.Store.Disk.Cache)+1))
			noteAudit(met, run.w)
		}
	}
	checkMet(t, met, map[string]int{
		"meant 1 true": 200, "meant 2 true": 500, "meant 3 true": 100, "meant 4 true": 100, "kind 3 0": 200, "kind 4 0": 200, "kind 5 0": 50, "kind 6 0": 20, "kind 7 0": 50, "kind 8 0": 50, "kind 9 0": 100, "kind 9 15": 20, "kind 2 14": 50,
		"up true": 10000, "up false": 300, "frames 0": 500, "frames 3": 10000, "dirty true": 5000, "dirty false": 5000, "dirty, and put out once": 1000, "not dirty, with an Lsn": 1000, "rows": 30000, "the longest log": impl.MaxLog,
		"record 1": 1000, "record 2": 1000, "record 3": 1000, "record 4": 1000, "record 5": 1000, "record 6": 1000,
	})
}

// refill is a run in which rows move: what is put behind what was dropped comes into other slots than it had, of other
// pages; pages go out one by one, so that the disk has old and new ones beside each other.
// Each act is OK.
func refill(t *testing.T) []impl.WorldAct {
	t.Helper()
	acts := []impl.WorldAct{beginAct(0)}
	add := func(session int, texts ...string) {
		for _, text := range texts {
			acts = append(acts, sqlAct(session, stmtOf(t, text)))
		}
	}
	for id := range 9 {
		add(0, fmt.Sprintf("insert 1 %d %d 'a'", id, id))
	}
	acts = append(acts, commitAct(0), evictAct(2), evictAct(6), beginAct(1))
	add(1, "delete 1 where id = 0 or id = 8", "insert 1 8 80 'b'", "insert 2 8 80 'b'")
	acts = append(acts, evictAct(2), beginAct(2))
	add(2, "insert 3 8 null null")
	acts = append(acts, checkAct(), commitAct(1), abortAct(2), beginAct(2))
	add(2, "update 1 set n = n + 1", "delete 1 where id = 8", "insert 1 9 9 'c'", "insert 1 8 88 'c'")
	return append(acts, evictAct(2), abortAct(2), evictAct(0), evictAct(2), evictAct(1))
}

// TestEachPlaceOfARefill: the power goes at each act, by a crash or at the next sync; nothing is found ahead of it, while
// it is gone, and behind it.
func TestEachPlaceOfARefill(t *testing.T) {
	t.Parallel()
	met := map[string]int{}
	for what, acts := range map[string][]impl.WorldAct{"refill": refill(t), "chronicle": chronicle(t)} {
		for at := range len(acts) + 1 {
			for _, power := range []func(keep ...int) impl.WorldAct{crashAct, armAct} {
				for _, keep := range append(keepsOf(3), nil, slices.Repeat([]int{1}, 99), slices.Repeat([]int{1, 1, 0}, 33)) {
					w := impl.NewWorld()
					step := func(a impl.WorldAct) {
						w, _, _ = impl.WorldStep(w, a)
						checkAudit(t, fmt.Sprintf("%s, place %d, keep %.40s, %s", what, at, fmt.Sprint(keep), tellAct(a)), w, keep)
						noteAudit(met, w)
					}
					for i, a := range acts {
						if i == at {
							step(power(keep...))
						}
						step(a)
						if !w.Engine.Up {
							step(restartAct(at % 3))
							step(restartAct(0))
							break
						}
					}
				}
			}
		}
	}
	checkMet(t, met, map[string]int{"down, a row twice": 10, "up false": 100, "record 3": 1000, "record 6": 1000})
}

// TestARowThatMovedIsTwiceOnTheDisk: that no row stands twice is promised while the world is up alone. The page that an
// undoing puts the row back to was put out, the one that it takes the row from was not, when the power went.
func TestARowThatMovedIsTwiceOnTheDisk(t *testing.T) {
	p := newPlayer(t)
	p.begin(0)
	p.sql(0, "insert 1 0 0 'a'", "insert 1 1 1 'a'", "insert 1 2 2 'a'", "insert 1 3 3 'a'", "insert 1 4 4 'a'")
	p.commit(0)
	p.begin(0)
	p.sql(0, "delete 1 where id = 0 or id = 4", "insert 1 4 44 'a'")
	p.act(evictAct(0), impl.OK)
	checkAudit(t, "moved", p.w, nil)
	p.abort(0)
	p.act(evictAct(1), impl.OK)
	checkAudit(t, "put back", p.w, nil)
	p.act(crashAct(1), impl.OK)
	checkRowsOnce(t, "down", p.w.Engine, false)
	checkNoPageAhead(t, "down", p.w, nil)
	checkTablesHold(t, "down", p.w, true)
	p.act(restartAct(1), impl.ErrDown)
	checkRowsOnce(t, "down again", p.w.Engine, false)
	p.restart()
	checkAudit(t, "up again", p.w, nil)
}

// TestAuditOfANewWorld: what each of them says of the first one there is.
func TestAuditOfANewWorld(t *testing.T) {
	if got, want := auditTold(impl.NewWorld()), "true 0 true 0 true 0 true 0"; got != want {
		t.Errorf("%s, want %s", got, want)
	}
	if got, want := auditTold(impl.World{}), "false 1 true 0 false 1 false 1"; got != want {
		t.Errorf("nothing: %s, want %s", got, want)
	}
}
