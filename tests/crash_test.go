package tests

import (
	"fmt"
	"slices"
	"testing"

	"loop.example/g00332/impl"
)

// leftBy is what a crash leaves: the disk, and the log that is read of it.
func leftBy(e impl.Engine, keep []int) impl.Engine {
	d := afterCrash(cloneDisk(e.Store.Disk), keep)
	log, _ := impl.ReadLog(d, e.Store.Epoch)
	return impl.Engine{Next: e.Next, Store: impl.Store{Disk: d, Epoch: e.Store.Epoch, Log: log, Sure: len(log)}}
}

func longKeeps() [][]int {
	return [][]int{slices.Repeat([]int{1}, 499), slices.Repeat([]int{1}, 500), slices.Repeat([]int{1}, 501), slices.Repeat([]int{0, 5}, 700),
		slices.Repeat([]int{-3}, impl.MaxList-1), slices.Repeat([]int{2, 2, 0}, impl.MaxList)[:impl.MaxList]}
}

func TestWhatACrashLeaves(t *testing.T) {
	t.Parallel()
	for name, e := range manyEngines(t) {
		for _, keep := range append(manyKeeps(), longKeeps()...) {
			got, code := impl.CrashEngine(e, keep)
			if code != impl.OK {
				t.Fatalf("%s, %d to keep: code %d", name, len(keep), code)
			}
			if want := leftBy(e, keep); !sameEngine(got, want) {
				t.Fatalf("%s, keep %v: %.2000s\nwant %.2000s", name, keep, tellEngine(got), tellEngine(want))
			}
		}
	}
}

// TestACrashOfAnEngineThatBeganNew: whatever is kept, the engine is right, and what was sure is in its log.
func TestACrashOfAnEngineThatBeganNew(t *testing.T) {
	d, one := spread(t, 7)
	d.rollback(one, 1)
	d.e.Store = flushTo(t, d.e.Store, len(d.e.Store.Log)-2)
	for no := range impl.MaxPages {
		if slices.ContainsFunc(d.e.Store.Frames, func(f impl.Frame) bool { return f.No == no }) {
			d.evict(no)
		}
	}
	if n := len(d.e.Store.Disk.Cache); n < 1 || n > 8 {
		t.Fatalf("%d writes are not sure", n)
	}
	for _, keep := range append(keepsOf(len(d.e.Store.Disk.Cache)), nil, slices.Repeat([]int{1}, 9)) {
		got, code := impl.CrashEngine(d.e, keep)
		if code != impl.OK || got.Up || !impl.EngineOK(got) {
			t.Fatalf("keep %v: code %d", keep, code)
		}
		if n := d.e.Store.Sure; !slices.Equal(got.Store.Log, d.e.Store.Log[:n]) {
			t.Errorf("keep %v: %d records, want %d", keep, len(got.Store.Log), n)
		}
		again, code := impl.CrashEngine(got, keep)
		if code != impl.OK {
			t.Errorf("again: code %d", code)
		}
		checkEngine(t, "again", again, got)
	}
}

func TestCrashEngineCodes(t *testing.T) {
	long := make([]int, impl.MaxList+1)
	for name, x := range map[string]struct {
		e    impl.Engine
		keep []int
		want int
	}{
		"MaxList":                       {someEngine(), long[:impl.MaxList], impl.OK},
		"MaxList + 1":                   {someEngine(), long, impl.ErrLong},
		"MaxList + 1, not up":           {downEngine(), long, impl.ErrLong},
		"MaxList + 1, not right":        {spoiltEngine(someEngine()), long, impl.ErrLong},
		"MaxList + 1, nothing":          {impl.Engine{}, long, impl.ErrLong},
		"far beyond MaxList":            {someEngine(), make([]int, 100000), impl.ErrLong},
		"not right":                     {spoiltEngine(someEngine()), nil, impl.ErrBad},
		"not right, not up":             {spoiltEngine(downEngine()), nil, impl.ErrBad},
		"nothing":                       {impl.Engine{}, nil, impl.ErrBad},
		"not right, of what is too far": {spoiltEngine(someEngine()), long[:impl.MaxList], impl.ErrBad},
	} {
		got, code := impl.CrashEngine(x.e, x.keep)
		if code != x.want || (code != impl.OK && tellEngine(got) != tellEngine(impl.Engine{})) {
			t.Errorf("%s: code %d, want %d", name, code, x.want)
		}
	}
	for name, e := range wrongEngines() {
		if got, code := impl.CrashEngine(e, []int{1}); code != impl.ErrBad || tellEngine(got) != tellEngine(impl.Engine{}) {
			t.Errorf("%s: code %d", name, code)
		}
	}
}

// TestArmedEngines: nothing but the disk is other, and of that just that it is armed.
func TestArmedEngines(t *testing.T) {
	for name, e := range manyEngines(t) {
		for _, keep := range append(manyKeeps(), longKeeps()[:2]...) {
			got, code := impl.ArmEngine(e, keep)
			if code != impl.OK || !impl.EngineOK(got) {
				t.Fatalf("%s, %d to keep: code %d", name, len(keep), code)
			}
			if !sameEngine(got, armedEngine(e, keep...)) {
				t.Fatalf("%s, keep %v: %.2000s", name, keep, tellEngine(got))
			}
		}
	}
}

func TestArmEngineCodes(t *testing.T) {
	long := make([]int, impl.MaxList+1)
	for name, x := range map[string]struct {
		e    impl.Engine
		keep []int
		want int
	}{
		"500":                    {someEngine(), long[:500], impl.OK},
		"500, not up":            {downEngine(), long[:500], impl.OK},
		"501":                    {someEngine(), long[:501], impl.ErrMany},
		"501, not up":            {downEngine(), long[:501], impl.ErrMany},
		"501, not right":         {spoiltEngine(someEngine()), long[:501], impl.ErrBad},
		"MaxList":                {someEngine(), long[:impl.MaxList], impl.ErrMany},
		"MaxList, not right":     {spoiltEngine(someEngine()), long[:impl.MaxList], impl.ErrBad},
		"MaxList + 1":            {someEngine(), long, impl.ErrLong},
		"MaxList + 1, not right": {spoiltEngine(someEngine()), long, impl.ErrLong},
		"MaxList + 1, nothing":   {impl.Engine{}, long, impl.ErrLong},
		"not right":              {spoiltEngine(someEngine()), nil, impl.ErrBad},
		"not right, not up":      {spoiltEngine(downEngine()), []int{1}, impl.ErrBad},
		"nothing":                {impl.Engine{}, nil, impl.ErrBad},
	} {
		got, code := impl.ArmEngine(x.e, x.keep)
		if code != x.want || (code != impl.OK && tellEngine(got) != tellEngine(impl.Engine{})) {
			t.Errorf("%s: code %d, want %d", name, code, x.want)
		}
	}
	for name, e := range wrongEngines() {
		if got, code := impl.ArmEngine(e, []int{1}); code != impl.ErrBad || tellEngine(got) != tellEngine(impl.Engine{}) {
			t.Errorf("%s: code %d", name, code)
		}
	}
}

// TestAnArmedEngineGoesAtItsNextSync: with what it was armed with last.
func TestAnArmedEngineGoesAtItsNextSync(t *testing.T) {
	d := newDoer(t)
	tx := d.begin()
	d.put(tx, 1, row(1, 1))
	for n := range 4 {
		e := d.e
		for _, keep := range [][]int{{1, 1, 1}, nil, slices.Repeat([]int{1}, n)} {
			next, code := impl.ArmEngine(e, keep)
			if code != impl.OK {
				t.Fatalf("ArmEngine: code %d", code)
			}
			e = next
		}
		down, code := impl.CommitTx(e, tx)
		if code != impl.ErrDown || down.Up || len(down.Store.Log) != n || down.Store.Disk.Armed {
			t.Errorf("%s: code %d, %d records", fmt.Sprint(n, " to keep"), code, len(down.Store.Log))
		}
		crashed, code := impl.CrashEngine(e, nil)
		if code != impl.OK || crashed.Store.Disk.Armed || len(crashed.Store.Disk.Keep) != 0 || len(crashed.Store.Log) != 0 {
			t.Errorf("a crash of one that is armed: code %d", code)
		}
	}
}
