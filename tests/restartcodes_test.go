package tests

import (
	"fmt"
	"slices"
	"testing"

	"loop.example/g00332/impl"
)

// noEngines are disks with right headers whose logs lead to no right engine.
func noEngines() map[string]impl.Disk {
	list := map[string]impl.Disk{}
	logs := map[string][]impl.LogRecord{
		"11 are open":                  begun(1, 11).Store.Log,
		"30 updates":                   updated(30).Store.Log,
		"a full log, one is open":      append(filledUp(begun(1, 1), 58).Store.Log, commit(1, 60, 60, 59)),
		"28 updates, three more":       append(updated(28).Store.Log, begin(1, 30, 2), begin(1, 31, 3), end(1, 32, 2, 30)),
		"a full log":                   fullLog(),
		"a Prev of another's":          {begin(1, 1, 1), begin(1, 2, 2), update(1, 3, 2, 1, "", "a")},
		"a Prev of a commit":           {begin(1, 1, 1), commit(1, 2, 1, 1), update(1, 3, 1, 2, "", "a")},
		"a Prev of an end":             {begin(1, 1, 1), end(1, 2, 1, 1), update(1, 3, 1, 2, "", "a")},
		"a Prev of a checkpoint":       {begin(1, 1, 1), check(1, 2, pairs()+pairs()), update(1, 3, 1, 2, "", "a")},
		"a CLR to nothing":             {begin(1, 1, 1), clr(1, 2, 1, 1, 0, "a")},
		"a CLR to another's":           {begin(1, 1, 1), begin(1, 2, 2), clr(1, 3, 2, 2, 1, "a")},
		"a CLR to a commit":            {begin(1, 1, 1), commit(1, 2, 1, 1), begin(1, 3, 1), clr(1, 4, 1, 3, 2, "a")},
		"a CLR within, to nothing":     {begin(1, 1, 1), clr(1, 2, 1, 1, 0, "a"), update(1, 3, 1, 2, "", "a")},
		"a checkpoint tells no record": {begin(1, 1, 1), commit(1, 2, 1, 1), check(1, 3, pairs()+pairs([2]int{1, 2}))},
		"a checkpoint tells another's": {begin(1, 1, 1), begin(1, 2, 2), check(1, 3, pairs()+pairs([2]int{1, 1}, [2]int{2, 1}))},
		"a checkpoint tells none's":    {begin(1, 1, 1), check(1, 2, pairs()+pairs([2]int{2, 1}))},
		"a checkpoint tells one above": {begin(1, 1, 1), check(1, 2, pairs()+pairs([2]int{1, 1}, [2]int{60, 1}))},
	}
	for name, log := range logs {
		list[name] = diskOf(impl.MaxEpoch-1, log)
	}
	for no := range impl.MaxPages {
		d := diskOf(1, mixedLog())
		d.Sectors[pageAt(no)] = bytesOfPage(no, page(len(mixedLog())+1, "", "", "", ""))
		list[fmt.Sprintf("page %d is ahead of the log", no)] = d
	}
	return list
}

func TestDisksThatLeadToNoEngine(t *testing.T) {
	for name, d := range noEngines() {
		e := downWith(d)
		if !impl.EngineOK(e) {
			t.Fatalf("%s: the engine itself is not right", name)
		}
		for _, e := range []impl.Engine{e, armedEngine(e), armedEngine(e, 1, 1)} {
			got, code := impl.RestartEngine(e)
			if code != impl.ErrForm {
				t.Errorf("%s: code %d", name, code)
			}
			checkEngine(t, name, got, e)
		}
	}
	// At its log's end a page may be.
	d := diskOf(1, mixedLog())
	d.Sectors[pageAt(7)] = bytesOfPage(7, page(len(mixedLog()), "", "", "", ""))
	restarted(t, "a page at the log's end", downWith(d))
}

// TestLogsAsideLeadToEngines: what the open ones do not have is not asked for.
func TestLogsAsideLeadToEngines(t *testing.T) {
	for name, log := range map[string][]impl.LogRecord{
		"10 are open":                    begun(1, 10).Store.Log,
		"29 updates":                     updated(29).Store.Log,
		"a CLR to nothing, over":         {begin(1, 1, 1), clr(1, 2, 1, 1, 0, "a"), end(1, 3, 1, 2)},
		"a Prev of another's, over":      {begin(1, 1, 1), commit(1, 2, 1, 1), begin(1, 3, 2), update(1, 4, 2, 1, "", "a"), commit(1, 5, 2, 1)},
		"a checkpoint forgets one":       {begin(1, 1, 1), update(1, 2, 1, 1, "", "a"), check(1, 3, pairs([2]int{3, 2})+pairs())},
		"a checkpoint tells a Last":      {begin(1, 1, 1), update(1, 2, 1, 1, "", "a"), update(1, 3, 1, 2, "a", "b"), check(1, 4, pairs([2]int{3, 2})+pairs([2]int{1, 2}))},
		"a checkpoint tells pages alone": {begin(1, 1, 1), commit(1, 2, 1, 1), check(1, 3, pairsFrom(0, 8, 1)+pairs())},
	} {
		restarted(t, name, downWith(diskOf(1, log)))
	}
}

// TestUndoingOfACheckpointsLast: from the Last that it tells, whatever stands behind that.
func TestUndoingOfACheckpointsLast(t *testing.T) {
	log := []impl.LogRecord{begin(1, 1, 1), update(1, 2, 1, 1, "", "a"), update(1, 3, 1, 2, "a", "b"), check(1, 4, pairs([2]int{3, 2})+pairs([2]int{1, 2}))}
	got := restarted(t, "a Last", downWith(diskOf(1, log)))
	checkAdded(t, "a Last", got, log, []impl.LogRecord{clr(2, 5, 1, 2, 1, ""), end(2, 6, 1, 5)})
	log[3] = check(1, 4, pairs([2]int{3, 2})+pairs())
	checkAdded(t, "none", restarted(t, "none", downWith(diskOf(1, log))), log, nil)
}

// TestUndoingAside: a CLR may lead to a record of its transaction that Prev does not lead to.
func TestUndoingAside(t *testing.T) {
	log := []impl.LogRecord{begin(1, 1, 1), at(update(1, 2, 1, 1, "", "a"), 0, 0), at(update(1, 3, 1, 2, "", "b"), 0, 1),
		at(update(1, 4, 1, 1, "", "c"), 0, 2), at(clr(1, 5, 1, 4, 3, ""), 0, 2)}
	got := restarted(t, "aside", downWith(diskOf(1, log)))
	checkAdded(t, "aside", got, log, []impl.LogRecord{at(clr(2, 6, 1, 5, 2, ""), 0, 1), at(clr(2, 7, 1, 6, 1, ""), 0, 0), end(2, 8, 1, 7)})
	// One that leads out of its transaction is no promise, but ends, and leaves none open.
	for name, second := range map[string]impl.LogRecord{
		"to a checkpoint": check(1, 2, pairs()+pairs()), "to another's": begin(1, 2, 2), "to a CLR to nothing": at(clr(1, 2, 2, 1, 0, "z"), 3, 3),
		"to another's update": at(update(1, 2, 2, 1, "y", "z"), 3, 3)} {
		log := []impl.LogRecord{begin(1, 1, 1), second, at(update(1, 3, 1, 2, "", "a"), 0, 1), at(clr(1, 4, 1, 1, 3, ""), 0, 2)}
		if second.Tx == 2 {
			log = append(log, commit(1, 5, 2, 2))
		}
		got := restarted(t, name, downWith(diskOf(1, log)))
		if last := got.Store.Log[len(got.Store.Log)-1]; last.Kind != impl.LoEnd || last.Tx != 1 {
			t.Errorf("%s: %+v", name, last)
		}
	}
}

// restartFaults are those of one restart, in any company.
type restartFaults struct{ wrong, up, sum, epoch, form bool }

func (f restartFaults) engine() impl.Engine {
	d := pick(f.form, noEngines()["a CLR to nothing"], diskOf(5, mixedLog()))
	d.Sectors[0] = pick(f.epoch, header(impl.MaxEpoch), header(5))
	if f.sum {
		d.Sectors[0] = d.Sectors[0][1:]
	}
	e := downWith(d)
	e.Up = f.up
	if f.wrong {
		e = spoiltEngine(e)
	}
	return e
}

func (f restartFaults) want() int {
	switch {
	case f.wrong:
		return impl.ErrBad
	case f.up:
		return impl.ErrTwice
	case f.sum:
		return impl.ErrSum
	case f.epoch:
		return impl.ErrMany
	case f.form:
		return impl.ErrForm
	}
	return impl.OK
}

func TestRestartCodesComeInTheirOrder(t *testing.T) {
	for n := range 32 {
		f := restartFaults{n&1 > 0, n&2 > 0, n&4 > 0, n&8 > 0, n&16 > 0}
		for _, armed := range []bool{false, true} {
			e := f.engine()
			if armed {
				e = armedEngine(e, 1)
			}
			got, code := impl.RestartEngine(e)
			want := f.want()
			if want == impl.OK && armed {
				want = impl.ErrDown
			}
			if code != want {
				t.Errorf("%+v, armed %v: code %d, want %d", f, armed, code, want)
			}
			switch code {
			case impl.ErrBad:
				checkEngine(t, fmt.Sprintf("%+v", f), got, impl.Engine{})
			case impl.ErrTwice, impl.ErrSum, impl.ErrMany, impl.ErrForm:
				checkEngine(t, fmt.Sprintf("%+v", f), got, e)
			}
		}
	}
}

// wrongHeaders fit a sector; some of them are sealed, but of no epoch.
func wrongHeaders() []string {
	list := []string{"junk", "\x00", header(1)[1:], header(1)[:5], header(1) + "\x00", header(impl.MaxEpoch + 1), header(255), sealed(""), bytesOfRecord(begin(1, 1, 1))}
	for bit := range 8 * len(header(1)) {
		b := []byte(header(1))
		b[bit/8] ^= 1 << (bit % 8)
		list = append(list, string(b))
	}
	return list
}

func TestRestartCodes(t *testing.T) {
	for name, e := range wrongEngines() {
		if got, code := impl.RestartEngine(e); code != impl.ErrBad || tellEngine(got) != tellEngine(impl.Engine{}) {
			t.Errorf("%s: code %d", name, code)
		}
	}
	for name, e := range manyEngines(t) {
		if !e.Up {
			continue
		}
		got, code := impl.RestartEngine(e)
		if code != impl.ErrTwice {
			t.Errorf("%s: code %d", name, code)
		}
		checkEngine(t, name, got, e)
	}
	for _, b := range wrongHeaders() {
		d := diskOf(1, mixedLog())
		d.Sectors[0] = b
		e := downWith(d)
		got, code := impl.RestartEngine(e)
		if code != impl.ErrSum || !sameEngine(got, e) {
			t.Errorf("a header %q: code %d", b, code)
		}
	}
	for epoch := range impl.MaxEpoch + 1 {
		got, code := impl.RestartEngine(downWith(diskOf(epoch, nil)))
		if want := pick(epoch == impl.MaxEpoch, impl.ErrMany, impl.OK); code != want || want == impl.OK && got.Store.Epoch != epoch+1 {
			t.Errorf("epoch %d: code %d, epoch %d", epoch, code, got.Store.Epoch)
		}
	}
}

// TestARestartThatIsCut: at its first sync, which is the header's; the engine is the new one, gone down.
func TestARestartThatIsCut(t *testing.T) {
	t.Parallel()
	d, _ := crowded(t, 3)
	d.e.Store = flushTo(t, d.e.Store, len(d.e.Store.Log)-1)
	d.crash()
	d.e.Next = 30
	whole := restarted(t, "whole", d.e)
	writesAhead := engineWith(d.e, func(e *impl.Engine) { e.Store.Disk.Cache = writes(2, 60, 68) })
	for name, e := range map[string]impl.Engine{"a disk that crashed": d.e, "writes ahead": writesAhead} {
		for _, keep := range append(manyKeeps(), []int{0, 0, 1}, []int{1, 1, -1}) {
			name := fmt.Sprintf("%s, keep %v", name, keep)
			armed, code := impl.ArmEngine(e, keep)
			if code != impl.OK {
				t.Fatalf("%s: ArmEngine: code %d", name, code)
			}
			cut, code := impl.RestartEngine(armed)
			p := plainEngineOf(armed)
			if want := p.restart(); code != impl.ErrDown || want != impl.ErrDown {
				t.Fatalf("%s: code %d, want %d", name, code, want)
			}
			p.check(t, name, cut)
			if cut.Up || !impl.EngineOK(cut) || cut.Store.Epoch != 2 || cut.Next != whole.Next || cut.Store.Disk.Armed || len(cut.Store.Disk.Cache) != 0 {
				t.Fatalf("%s: %.1000s", name, tellEngine(cut))
			}
			at := len(e.Store.Disk.Cache)
			kept := len(keep) > at && keep[at] != 0
			if want := pick(kept, header(2), header(1)); cut.Store.Disk.Sectors[0] != want {
				t.Errorf("%s: the header is %q", name, cut.Store.Disk.Sectors[0])
			}
			again := restarted(t, name+", again", cut)
			if want := pick(kept, 3, 2); again.Store.Epoch != want {
				t.Errorf("%s, again: epoch %d, want %d", name, again.Store.Epoch, want)
			}
			checkTables(t, name+", again", again, tablesOf(t, name, whole))
		}
	}
}

// TestARestartCutAgainAndAgain: it is at the header each time, so nothing is lost but epochs.
func TestARestartCutAgainAndAgain(t *testing.T) {
	d, _ := crowded(t, 3)
	d.e.Store = flushTo(t, d.e.Store, len(d.e.Store.Log))
	d.crash()
	want := tablesOf(t, "at first", restarted(t, "at first", d.e))
	for epoch := 2; epoch <= impl.MaxEpoch; epoch++ {
		for _, keep := range [][]int{nil, {0, 1}, {1}} {
			armed, _ := impl.ArmEngine(d.e, keep)
			cut, code := impl.RestartEngine(armed)
			if code != impl.ErrDown || cut.Store.Epoch != epoch {
				t.Fatalf("epoch %d, keep %v: code %d, epoch %d", epoch, keep, code, cut.Store.Epoch)
			}
			d.e = cut
		}
		if epoch < impl.MaxEpoch {
			checkTables(t, fmt.Sprint("epoch ", epoch), restarted(t, fmt.Sprint("epoch ", epoch), d.e), want)
		}
	}
	if _, code := impl.RestartEngine(d.e); code != impl.ErrMany {
		t.Errorf("behind MaxEpoch: code %d", code)
	}
}

// TestARestartIsNotHeldUp: of writes that are not sure a disk takes no more than 500, but a sync leaves none of them.
func TestARestartIsNotHeldUp(t *testing.T) {
	for _, n := range []int{499, 500} {
		d := diskOf(1, mixedLog())
		d.Cache = writes(n, 60, 68)
		got := restarted(t, fmt.Sprint(n, " writes"), downWith(d))
		if slices.ContainsFunc(got.Store.Disk.Cache, func(w impl.Pending) bool { return w.At == 60 || w.At == 68 }) {
			t.Errorf("%d writes: %d are left", n, len(got.Store.Disk.Cache))
		}
		cut, code := impl.RestartEngine(armedEngine(downWith(d), slices.Repeat([]int{1}, 500)...))
		if kept := n < 500; code != impl.ErrDown || cut.Store.Disk.Sectors[0] != pick(kept, header(2), header(1)) {
			t.Errorf("%d writes, cut: code %d, %q", n, code, cut.Store.Disk.Sectors[0])
		}
	}
}
