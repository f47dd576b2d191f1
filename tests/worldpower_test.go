package tests

import (
	"fmt"
	"math"
	"slices"
	"testing"

	"loop.example/g00332/impl"
)

// checkDark: nobody has a transaction, and Open is empty.
func checkDark(t *testing.T, name string, w impl.World) {
	t.Helper()
	if w.Engine.Up || !slices.Equal(w.Sessions, []int{0, 0, 0}) || len(w.Open) != 0 || !impl.WorldOK(w) {
		t.Fatalf("%s: up %v, sessions %v, open %v", name, w.Engine.Up, w.Sessions, w.Open)
	}
}

// working is a world in the middle of work, with changes of all sessions that are not sure, and nothing in doubt.
func working(t *testing.T) *player {
	t.Helper()
	p := &player{t, worldWith(busyWorld(t), func(w *impl.World) { w.Doubt = nil })}
	p.begin(1)
	p.sql(1, "insert 3 9 9 'f'")
	return p
}

func TestACrashOfAWorld(t *testing.T) {
	p := working(t)
	done := p.w.Done
	n := len(p.w.Engine.Store.Disk.Cache)
	for _, keep := range append(keepsOf(min(n, 6)), nil, slices.Repeat([]int{1}, 600), slices.Repeat([]int{-7}, impl.MaxList)) {
		other := &player{t, p.w}
		other.act(crashAct(keep...), impl.OK)
		name := fmt.Sprintf("keep %.60s", fmt.Sprint(keep))
		checkDark(t, name, other.w)
		other.has(name, nil, done, nil)
		want, _ := impl.CrashEngine(p.w.Engine, keep)
		checkEngine(t, name, other.w.Engine, want)
		for _, a := range oneOfEachAct()[:8] {
			was := other.w
			other.act(a, impl.ErrDown)
			checkWorld(t, name, other.w, was)
		}
		other.restart()
		other.has(name, nil, done, nil)
		other.sessions(name, 0, 0, 0)
		other.act(restartAct(0), impl.ErrTwice)
		other.act(restartAct(1), impl.ErrTwice)
	}
}

// TestAnArmedWorld: it goes on as it was, up to the next sync.
func TestAnArmedWorld(t *testing.T) {
	for _, keep := range [][]int{nil, {1}, {0, 1}, slices.Repeat([]int{3}, 500)} {
		p := working(t)
		was := p.w
		p.act(armAct(keep...), impl.OK)
		if d := p.w.Engine.Store.Disk; !sameButEngine(p.w, was) || !p.w.Engine.Up || !d.Armed || !slices.Equal(d.Keep, keep) {
			t.Fatalf("armed %v with %v", d.Armed, d.Keep)
		}
		p.act(armAct(7, 7), impl.OK)
		p.act(armAct(keep...), impl.OK)
	}
	p := newPlayer(t)
	p.act(armAct(), impl.OK)
	p.begin(2)
	p.sql(2, "insert 1 1 1 'a'")
	p.sessions("armed", 0, 0, 1)
	p.has("armed", []impl.Change{put(2, 1, named(1, 1, "a"))}, nil, nil)
	p.sqlCode(2, "select 1", impl.ErrDown)
	checkDark(t, "the next sync", p.w)
}

// TestThePowerGoesInEachAct: whose commit it is, is in doubt; what else was open is lost.
func TestThePowerGoesInEachAct(t *testing.T) {
	for name, act := range map[string]func(p *player) impl.WorldAct{
		"a commit":             func(p *player) impl.WorldAct { return commitAct(2) },
		"a commit of nothing":  func(p *player) impl.WorldAct { p.abort(1); p.begin(1); return commitAct(1) },
		"a checkpoint":         func(p *player) impl.WorldAct { return checkAct() },
		"a page that goes out": func(p *player) impl.WorldAct { return evictAct(dirtyNo(t, p.w.Engine)) },
		"a select":             func(p *player) impl.WorldAct { return sqlAct(1, stmtOf(t, "select 2 where 0")) },
		"an insert":            func(p *player) impl.WorldAct { return sqlAct(1, stmtOf(t, "insert 3 40 1 'a'")) },
		"an update":            func(p *player) impl.WorldAct { return sqlAct(2, stmtOf(t, "update 1 set n = 3")) },
		"a delete":             func(p *player) impl.WorldAct { return sqlAct(2, stmtOf(t, "delete 1")) },
		"a crash":              func(p *player) impl.WorldAct { return crashAct() },
	} {
		for _, keep := range [][]int{nil, {1, 0, 1}, slices.Repeat([]int{1}, 400)} {
			p := working(t)
			if name == "a select" {
				p.abort(0) // it had table 2
			}
			a := act(p)
			own, _ := parted(p.w.Open, a.Session)
			done := p.w.Done
			p.act(armAct(keep...), impl.OK)
			p.act(a, pick(a.Kind == impl.WoCrash, impl.OK, impl.ErrDown))
			checkDark(t, name, p.w)
			p.has(name, nil, done, pick(a.Kind == impl.WoCommit, own, nil))
			p.restart()
			p.has(name, nil, pick(a.Kind == impl.WoCommit && len(keep) > 3, append(slices.Clone(done), own...), done), nil)
		}
	}
}

func dirtyNo(t *testing.T, e impl.Engine) int {
	t.Helper()
	list, code := impl.DirtyPages(e.Store)
	if code != impl.OK || len(list) == 0 {
		t.Fatal("no page is dirty")
	}
	return list[0]
}

// TestThePowerGoesInAnAbort: nothing of it is in doubt.
func TestThePowerGoesInAnAbort(t *testing.T) {
	d, one := spread(t, 7)
	for _, keep := range [][]int{nil, slices.Repeat([]int{1}, 400)} {
		p := &player{t, withEngine(d.e)}
		for id := range 31 {
			p.w.Done = append(p.w.Done, put(0, 3, row(id, id)))
		}
		p.w.Open = []impl.Change{put(0, 3, row(1, 0)), put(1, 3, row(29, 290))}
		done := p.w.Done
		p.act(armAct(keep...), impl.OK)
		if p.w.Sessions[0] != one {
			t.Fatal("another session")
		}
		p.act(abortAct(0), impl.ErrDown)
		checkDark(t, "an abort", p.w)
		p.has("an abort", nil, done, nil)
		p.restart()
		p.has("an abort", nil, done, nil)
	}
}

// cutCommit is behind a commit of session 2 with the writes of its log kept up to so many.
func cutCommit(t *testing.T, keep ...int) (p *player, own []impl.Change) {
	t.Helper()
	p = working(t)
	own, _ = parted(p.w.Open, 2)
	p.act(armAct(keep...), impl.OK)
	p.act(commitAct(2), impl.ErrDown)
	p.has("in doubt", nil, p.w.Done, own)
	return p, own
}

// TestWhatIsInDoubt: it is Done if all of its log was kept, else it is not; it stays in doubt up to a restart that ends.
func TestWhatIsInDoubt(t *testing.T) {
	p := working(t)
	done := p.w.Done
	s := p.w.Engine.Store
	writes := len(s.Disk.Cache) + len(s.Log) + 1 - s.Sure
	if writes < 4 {
		t.Fatalf("only %d writes", writes)
	}
	for n := range writes + 3 {
		for cuts := range 4 {
			p, own := cutCommit(t, slices.Repeat([]int{1}, n)...)
			for i := range cuts {
				p.act(restartAct(1+i), impl.ErrDown)
				checkDark(t, "cut", p.w)
				p.has("cut", nil, done, own)
			}
			p.restart()
			name := fmt.Sprintf("%d of %d are kept, cut %d times", n, writes, cuts)
			p.has(name, nil, pick(n >= writes, append(slices.Clone(done), own...), done), nil)
		}
	}
	// A hole in the log ends it, whatever is kept behind the hole.
	for hole := len(s.Disk.Cache); hole < writes; hole++ {
		keep := slices.Repeat([]int{1}, writes)
		keep[hole] = 0
		p, _ := cutCommit(t, keep...)
		p.restart()
		p.has(fmt.Sprint("a hole at ", hole), nil, done, nil)
	}
}

// TestArmedRestarts: Keep is the one number N modulo 2; it is of the header, which is the first write of a restart.
func TestArmedRestarts(t *testing.T) {
	for _, n := range []int{math.MinInt, -2, -1, 0, 1, 2, 3, 4, 499, 500, 501, 1 << 40, math.MaxInt - 1, math.MaxInt} {
		p, own := cutCommit(t)
		done := p.w.Done
		epoch := p.w.Engine.Store.Epoch
		name := fmt.Sprint("N ", n)
		if n <= 0 {
			p.act(restartAct(n), impl.OK)
			p.has(name, nil, done, nil)
			continue
		}
		p.act(restartAct(n), impl.ErrDown)
		checkDark(t, name, p.w)
		p.has(name, nil, done, own)
		if want := pick(n%2 == 1, header(epoch+1), header(epoch)); p.w.Engine.Store.Disk.Sectors[0] != want {
			t.Errorf("%s: the header is %q, want %q", name, p.w.Engine.Store.Disk.Sectors[0], want)
		}
		// With writes ahead of the header's it is the first of these that Keep is of.
		ahead := worldWith(downWorld(t), func(w *impl.World) {
			w.Engine.Store.Disk.Cache = []impl.Pending{write(68, "first"), write(67, "second")}
		})
		got, _, code := checkStep(t, name, ahead, restartAct(n))
		d := got.Engine.Store.Disk
		if code != impl.ErrDown || d.Sectors[68] != pick(n%2 == 1, "first", "") || d.Sectors[67] != "" || d.Sectors[0] != header(epoch) {
			t.Errorf("%s: code %d, %q, %q", name, code, d.Sectors[68], d.Sectors[67])
		}
	}
}

// TestAnEmptyOpenOfACutRestart: the power goes there too.
func TestAnEmptyOpenOfACutRestart(t *testing.T) {
	w := worldWith(downWorld(t), func(w *impl.World) { w.Open = manyChanges(3) })
	for n := range 3 {
		got, _, code := checkStep(t, "open", w, restartAct(n))
		if code != pick(n > 0, impl.ErrDown, impl.OK) || len(got.Open) != pick(n > 0, 0, 3) {
			t.Errorf("N %d: code %d, open %v", n, code, got.Open)
		}
	}
}

// TestRestartsThatAreRefused: the world is as it was, not armed either.
func TestRestartsThatAreRefused(t *testing.T) {
	worlds := map[string]struct {
		e    impl.Engine
		code int
	}{"MaxEpoch": {downWith(diskOf(impl.MaxEpoch, nil)), impl.ErrMany}, "a header": {engineWith(downEngine(), func(e *impl.Engine) { e.Store.Disk.Sectors[0] = "h" }), impl.ErrSum}}
	for name, d := range noEngines() {
		worlds[name] = struct {
			e    impl.Engine
			code int
		}{downWith(d), impl.ErrForm}
	}
	for name, of := range worlds {
		w := withEngine(of.e)
		w.Open, w.Done, w.Doubt = manyChanges(1), manyChanges(2), manyChanges(3)
		for n := range 4 {
			got, _, code := checkStep(t, name, w, restartAct(n-1))
			if code != of.code {
				t.Errorf("%s: code %d, want %d", name, code, of.code)
			}
			checkWorld(t, name, got, w)
		}
	}
}

// TestUpToMaxEpoch: a world that began new comes there.
func TestUpToMaxEpoch(t *testing.T) {
	p, own := cutCommit(t)
	done := p.w.Done
	for epoch := 2; epoch < impl.MaxEpoch; epoch++ {
		p.act(restartAct(1), impl.ErrDown)
	}
	last := &player{t, p.w}
	last.restart()
	last.has("the last epoch", nil, done, nil)
	last.act(crashAct(), impl.OK)
	last.act(restartAct(0), impl.ErrMany)
	p.act(restartAct(1), impl.ErrDown)
	for n := range 3 {
		p.act(restartAct(n), impl.ErrMany)
		p.has("beyond", nil, done, own)
	}
}

// TestWhatTheTablesAre: Done, or Done and Doubt, or neither; each table counts, and Doubt is empty then.
func TestWhatTheTablesAre(t *testing.T) {
	base := played(t, beginAct(0), sqlAct(0, insertOf(1, row(1, 1))), sqlAct(0, insertOf(2, row(2, 2))), sqlAct(0, insertOf(3, row(3, 3))), commitAct(0), crashAct())
	one, two, three, other := put(0, 1, row(1, 1)), put(0, 2, row(2, 2)), put(0, 3, row(3, 3)), put(1, 2, row(7, 7))
	all := []impl.Change{one, two, three}
	for name, of := range map[string]struct {
		done, doubt, want []impl.Change
		lost              bool
	}{
		"Done":                           {all, nil, all, false},
		"Done in another order":          {[]impl.Change{three, one, two}, nil, []impl.Change{three, one, two}, false},
		"Done, Doubt is not there":       {all, []impl.Change{other}, all, false},
		"Done, Doubt is there too":       {all, []impl.Change{one, three}, all, false},
		"Done, Doubt comes and goes":     {all, []impl.Change{other, gone(1, 2, row(7, 7))}, all, false},
		"Doubt":                          {nil, all, all, false},
		"Done and Doubt":                 {[]impl.Change{two}, []impl.Change{three, one}, []impl.Change{two, three, one}, false},
		"Done and Doubt, the last table": {[]impl.Change{one, two}, []impl.Change{three}, all, false},
		"Done and Doubt, the first":      {[]impl.Change{two, three}, []impl.Change{one}, []impl.Change{two, three, one}, false},
		"Doubt takes a row away":         {append(slices.Clone(all), other), []impl.Change{gone(2, 2, row(7, 0))}, append(slices.Clone(all), other, gone(2, 2, row(7, 0))), false},
		"neither, nothing":               {nil, nil, nil, true},
		"neither, a row too many":        {append(slices.Clone(all), other), nil, append(slices.Clone(all), other), true},
		"neither, one lacks":             {[]impl.Change{one, two}, nil, []impl.Change{one, two}, true},
		"neither, another value":         {[]impl.Change{one, two, put(0, 3, row(3, 4))}, nil, []impl.Change{one, two, put(0, 3, row(3, 4))}, true},
		"neither, another table":         {[]impl.Change{one, two, put(0, 2, row(3, 3))}, nil, []impl.Change{one, two, put(0, 2, row(3, 3))}, true},
		"neither, with Doubt":            {[]impl.Change{one}, []impl.Change{two}, []impl.Change{one}, true},
		"neither, Doubt alone is":        {[]impl.Change{other}, all, []impl.Change{other}, true},
		"neither, Doubt in part":         {[]impl.Change{one}, []impl.Change{two, three, other}, []impl.Change{one}, true},
	} {
		for _, lost := range []bool{false, true} {
			w := worldWith(base, func(w *impl.World) { w.Done, w.Doubt, w.Lost = of.done, of.doubt, lost })
			got, _, code := checkStep(t, name, w, restartAct(0))
			if code != impl.OK || !slices.Equal(got.Done, of.want) || len(got.Doubt) != 0 || got.Lost != (of.lost || lost) {
				t.Errorf("%s: code %d, done %v, doubt %v, lost %v", name, code, got.Done, got.Doubt, got.Lost)
			}
		}
	}
}

// TestDoubtThatIsThere: of a world that did not begin new; no act but a restart that ends takes it away.
func TestDoubtThatIsThere(t *testing.T) {
	w := busyWorld(t)
	own, _ := parted(w.Open, 2)
	for _, a := range []impl.WorldAct{beginAct(1), sqlAct(2, stmtOf(t, "select 1")), commitAct(2), abortAct(2), evictAct(7), checkAct(), crashAct(), armAct()} {
		if got, _, code := checkStep(t, "doubt", w, a); code != impl.OK || !slices.Equal(got.Doubt, w.Doubt) {
			t.Errorf("%s: code %d, doubt %v", tellAct(a), code, got.Doubt)
		}
	}
	p := &player{t, w}
	p.act(armAct(), impl.OK)
	p.act(commitAct(2), impl.ErrDown)
	p.has("one more", nil, w.Done, append(slices.Clone(w.Doubt), own...))
}

// TestWhatIsLost: a statement's answer is not what it means on Done and the session's own Open.
func TestWhatIsLost(t *testing.T) {
	base := played(t, beginAct(0), sqlAct(0, insertOf(1, row(1, 1))), sqlAct(0, insertOf(1, row(2, 2))), commitAct(0), beginAct(1), beginAct(2))
	right := base.Done
	for name, of := range map[string]struct {
		done, open []impl.Change
		text       string
		more       []impl.Change
		lost       bool
	}{
		"select":                    {right, nil, "select 1", nil, false},
		"select, another Count":     {right[:1], nil, "select 1", nil, true},
		"select, other Rows":        {append(slices.Clone(right), put(0, 1, row(2, 3))), nil, "select 1", nil, true},
		"select, none is meant":     {right[:1], nil, "select 1 where id = 1", nil, false},
		"select, a code":            {append(slices.Clone(right), put(0, 1, row(3, 0))), nil, "select 1 where 4 / n = 4", nil, true},
		"select, a code alone":      {append(slices.Clone(right), put(0, 1, row(3, 0))), nil, "select 1 where 4 / n = 77", nil, true},
		"delete, a code alone":      {append(slices.Clone(right), put(0, 1, row(3, 0))), nil, "delete 1 where 4 / n = 77", nil, true},
		"select, own Open":          {right[:1], []impl.Change{put(1, 1, row(2, 2))}, "select 1", nil, false},
		"select, another's Open":    {right[:1], []impl.Change{put(2, 1, row(2, 2))}, "select 1", nil, true},
		"select, own Open is ahead": {right, []impl.Change{put(1, 1, row(2, 9))}, "select 1", nil, true},
		"select, not of Open":       {right, []impl.Change{put(2, 1, row(2, 9))}, "select 1", nil, false},
		"update":                    {right, nil, "update 1 set n = n + 1", []impl.Change{put(1, 1, row(1, 2)), put(1, 1, row(2, 3))}, false},
		"update, another Count":     {right[:1], nil, "update 1 set n = n + 1", []impl.Change{put(1, 1, row(1, 2))}, true},
		"update, of other rows":     {[]impl.Change{put(0, 1, row(1, 7)), put(0, 1, row(9, 9))}, nil, "update 1 set n = n + 1", []impl.Change{put(1, 1, row(1, 8)), put(1, 1, row(9, 10))}, false},
		"update, a code":            {append(slices.Clone(right), put(0, 1, row(2, 0))), nil, "update 1 set n = 4 / n", nil, true},
		"delete":                    {right, nil, "delete 1", []impl.Change{gone(1, 1, row(1, 1)), gone(1, 1, row(2, 2))}, false},
		"delete, another Count":     {nil, nil, "delete 1", nil, true},
		"delete, as it is in Done":  {append(slices.Clone(right), put(0, 1, row(2, 9))), nil, "delete 1 where id = 2", []impl.Change{gone(1, 1, row(2, 9))}, false},
		"insert":                    {right, nil, "insert 1 5 5 'ab'", []impl.Change{put(1, 1, row(5, 5))}, false},
		"insert, it is there":       {append(slices.Clone(right), put(0, 1, row(5, 0))), nil, "insert 1 5 5 'ab'", nil, false},
		"insert, own Open has it":   {right, []impl.Change{put(1, 1, row(5, 0))}, "insert 1 5 5 'ab'", nil, false},
		"insert, another's Open":    {right, []impl.Change{put(2, 1, row(5, 0))}, "insert 1 5 5 'ab'", []impl.Change{put(1, 1, row(5, 5))}, false},
		"insert into 100 rows":      {manyRows(100), nil, "insert 1 500 5 'ab'", []impl.Change{put(1, 1, row(500, 5))}, false},
		"insert into 101 rows":      {manyRows(101), nil, "insert 1 500 5 'ab'", nil, false},
		"select of 101 rows":        {manyRows(101), nil, "select 1 where id = 1", nil, true},
		"refused":                   {nil, nil, "select 1 where name", nil, false},
	} {
		for _, lost := range []bool{false, true} {
			w := worldWith(base, func(w *impl.World) { w.Done, w.Open, w.Lost = of.done, of.open, lost })
			got, _, code := checkStep(t, name, w, sqlAct(1, stmtOf(t, of.text)))
			if want := pick(name == "refused", impl.ErrType, impl.OK); code != want || got.Lost != (of.lost || lost) || !slices.Equal(got.Open, append(slices.Clone(of.open), of.more...)) || !slices.Equal(got.Done, of.done) {
				t.Errorf("%s: code %d, lost %v, open %v", name, code, got.Lost, got.Open)
			}
		}
	}
}

// manyRows are so many rows of table 1, the first two of them as they stand.
func manyRows(n int) []impl.Change {
	var list []impl.Change
	for id := range n {
		list = append(list, put(0, 1, row(id+1, id+1)))
	}
	return list
}

// TestListsThatAreFull: two lists of 1000 changes lead to their rows together; what comes behind them may be too many.
func TestListsThatAreFull(t *testing.T) {
	base := played(t, beginAct(0), sqlAct(0, insertOf(1, row(1, 1))), commitAct(0), beginAct(1))
	full := slices.Repeat([]impl.Change{put(1, 1, row(1, 1))}, 1000)
	w := worldWith(base, func(w *impl.World) { w.Done, w.Open = full, full })
	got, answer, code := checkStep(t, "full", w, sqlAct(1, stmtOf(t, "select 1")))
	if code != impl.OK || got.Lost || answer.Count != 1 {
		t.Errorf("code %d, lost %v, %s", code, got.Lost, tellAnswer(answer))
	}
	got, _, code = checkStep(t, "one more", w, sqlAct(1, stmtOf(t, "delete 1")))
	if code != impl.OK || len(got.Open) != 1001 || impl.WorldOK(got) {
		t.Errorf("code %d, %d changes", code, len(got.Open))
	}
	if _, _, code := checkStep(t, "too many", got, commitAct(1)); code != impl.ErrBad {
		t.Errorf("too many: code %d", code)
	}
	down := worldWith(base, func(w *impl.World) {
		w.Engine, _ = impl.CrashEngine(w.Engine, nil)
		w.Sessions, w.Done, w.Doubt = []int{0, 0, 0}, slices.Repeat([]impl.Change{put(1, 1, row(5, 5))}, 1000), append(full[:999:999], gone(2, 1, row(5, 5)))
	})
	got, _, code = checkStep(t, "down", down, restartAct(0))
	if code != impl.OK || got.Lost || len(got.Done) != 2000 {
		t.Errorf("down: code %d, lost %v, %d changes", code, got.Lost, len(got.Done))
	}
}
