package tests

import (
	"fmt"
	"slices"
	"testing"

	"loop.example/g00332/impl"
)

// downWith is an engine that is not up, with that disk; its own log and epoch say nothing of what the disk has.
func downWith(d impl.Disk) impl.Engine {
	e := filledUp(impl.NewEngine(), impl.MaxLog)
	e.Store.Disk, e.Store.Sure, e.Store.Epoch, e.Up = cloneDisk(d), impl.MaxLog, impl.MaxEpoch, false
	return e
}

// diskOf has a header, and that log.
func diskOf(epoch int, log []impl.LogRecord) impl.Disk {
	d := logDisk(impl.DiskSectors, log)
	d.Sectors[0] = header(epoch)
	return d
}

func restarted(t *testing.T, name string, e impl.Engine) impl.Engine {
	t.Helper()
	got, code := impl.RestartEngine(e)
	if code != impl.OK {
		t.Fatalf("%s: RestartEngine: code %d", name, code)
	}
	checkUp(t, name, got)
	return got
}

// checkUp is what holds of each engine that a restart led to.
func checkUp(t *testing.T, name string, e impl.Engine) {
	t.Helper()
	s := e.Store
	if !e.Up || !impl.EngineOK(e) || len(e.Txs)+len(e.Locks.Held)+len(e.Locks.Waits) != 0 || s.Sure != len(s.Log) {
		t.Fatalf("%s: %.2000s", name, tellEngine(e))
	}
	if log, code := impl.ReadLog(s.Disk, s.Epoch); code != impl.OK || !slices.Equal(log, s.Log) {
		t.Fatalf("%s: of the log %d records are on the disk, want %d", name, len(log), len(s.Log))
	}
	if s.Disk.Sectors[0] != header(s.Epoch) {
		t.Fatalf("%s: the header is %q, want that of epoch %d", name, s.Disk.Sectors[0], s.Epoch)
	}
	for _, r := range s.Log {
		if r.Tx >= e.Next {
			t.Fatalf("%s: Next is %d, and the log has %d", name, e.Next, r.Tx)
		}
	}
}

// checkAdded: the log is what it was, and behind it stand just those records.
func checkAdded(t *testing.T, name string, got impl.Engine, was, added []impl.LogRecord) {
	t.Helper()
	if want := slices.Concat(was, added); !slices.Equal(got.Store.Log, want) {
		t.Errorf("%s: behind the log stand\n%+v\nwant\n%+v", name, got.Store.Log[min(len(was), len(got.Store.Log)):], added)
	}
}

func TestARestartOfANewEngine(t *testing.T) {
	d := newDoer(t)
	d.crash()
	got := restarted(t, "a new engine", d.e)
	want := impl.NewEngine()
	want.Store.Epoch, want.Store.Disk.Sectors[0] = 2, header(2)
	checkEngine(t, "a new engine", got, want)
	d = newDoer(t)
	d.begin()
	d.crash()
	checkEngine(t, "a begin that is lost", restarted(t, "a begin that is lost", d.e), want)
}

// mixedLog has transactions whose records stand between each other: 1 to 3 are open, 4 is committed; 1 went back once.
func mixedLog() []impl.LogRecord {
	return []impl.LogRecord{
		begin(1, 1, 1), begin(1, 2, 2), at(update(1, 3, 1, 1, "", "a"), 0, 0), at(update(1, 4, 2, 2, "", "b"), 1, 1),
		begin(1, 5, 3), at(update(1, 6, 1, 3, "", "c"), 5, 1), at(update(1, 7, 3, 5, "", "d"), 4, 2), at(clr(1, 8, 1, 6, 3, ""), 5, 1),
		at(update(1, 9, 2, 4, "b", "e"), 1, 1), begin(1, 10, 4), at(update(1, 11, 4, 10, "", "f"), 6, 3), commit(1, 12, 4, 11),
		at(update(1, 13, 1, 8, "a", ""), 0, 0),
	}
}

func TestTheOrderOfUndoing(t *testing.T) {
	log := mixedLog()
	want := []impl.LogRecord{
		at(clr(2, 14, 1, 13, 8, "a"), 0, 0), at(clr(2, 15, 2, 9, 4, "b"), 1, 1), at(clr(2, 16, 3, 7, 5, ""), 4, 2), end(2, 17, 3, 16),
		at(clr(2, 18, 2, 15, 2, ""), 1, 1), at(clr(2, 19, 1, 14, 1, ""), 0, 0), end(2, 20, 2, 18), end(2, 21, 1, 19),
	}
	got := restarted(t, "a mixed log", downWith(diskOf(1, log)))
	checkAdded(t, "a mixed log", got, log, want)
	if got.Next != 5 || got.Store.Epoch != 2 {
		t.Errorf("Next %d, epoch %d", got.Next, got.Store.Epoch)
	}
	for no := range impl.MaxPages {
		_, p, _, _ := impl.FetchPage(got.Store, no)
		want := page(map[int]int{0: 19, 1: 18, 4: 16, 5: 8, 6: 11}[no], "", "", "", "")
		if no == 6 {
			want.Slots[3] = "f"
		}
		if tellPage(p) != tellPage(want) {
			t.Errorf("page %d: %s, want %s", no, tellPage(p), tellPage(want))
		}
	}
	p := plainEngineOf(downWith(diskOf(1, log)))
	p.restart()
	p.check(t, "a mixed log", got)
}

// TestUndoingThatWasCut: wherever the log of a restart ends, the next one goes on there; in the end the log is as it would
// have been, but for the epochs.
func TestUndoingThatWasCut(t *testing.T) {
	log := mixedLog()
	whole := restarted(t, "whole", downWith(diskOf(1, log)))
	for n := len(log); n <= len(whole.Store.Log); n++ {
		name := fmt.Sprint(n, " records")
		down := downWith(diskOf(2, whole.Store.Log[:n]))
		got := restarted(t, name, down)
		var want []impl.LogRecord
		for _, r := range whole.Store.Log[n:] {
			r.Epoch = 3
			want = append(want, r)
		}
		checkAdded(t, name, got, whole.Store.Log[:n], want)
		checkTables(t, name, got, tablesOf(t, name, whole))
		for no := range impl.MaxPages {
			_, p, _, _ := impl.FetchPage(got.Store, no)
			_, q, _, _ := impl.FetchPage(whole.Store, no)
			if tellPage(p) != tellPage(q) {
				t.Errorf("%s: page %d: %s, want %s", name, no, tellPage(p), tellPage(q))
			}
		}
		plain := plainEngineOf(down)
		plain.restart()
		plain.check(t, name, got)
	}
}

// TestUndoingOfEachBeginning: of each beginning of a log the open ones are undone, as the rules say once more.
func TestUndoingOfEachBeginning(t *testing.T) {
	d, _ := crowded(t, 3)
	logs := map[string][]impl.LogRecord{"a mixed log": mixedLog(), "a crowded log": d.e.Store.Log, "an engine's log": engineLog(), "a story": story(t).e.Store.Log,
		"a story, all undone": restarted(t, "a story", downWith(diskOf(1, story(t).e.Store.Log))).Store.Log}
	for name, log := range logs {
		for n := range len(log) + 1 {
			name := fmt.Sprintf("%s, %d records", name, n)
			down := downWith(diskOf(3, log[:n]))
			got := restarted(t, name, down)
			p := plainEngineOf(down)
			if want := p.restart(); want != impl.OK {
				t.Fatalf("%s: the plain code %d", name, want)
			}
			p.check(t, name, got)
		}
	}
}

// redone is a log of five changes of page 2 by one that is committed; with f above 0 a checkpoint behind it tells page 2
// with that First, with f below 0 it tells no page.
func redone(f int) []impl.LogRecord {
	log := []impl.LogRecord{begin(1, 1, 1), at(update(1, 2, 1, 1, "", "2"), 2, 0), at(update(1, 3, 1, 2, "", "3"), 2, 1), at(update(1, 4, 1, 3, "2", "4"), 2, 0),
		at(clr(1, 5, 1, 4, 3, "5"), 2, 2), at(update(1, 6, 1, 5, "", "6"), 2, 3), commit(1, 7, 1, 6)}
	if f < 0 {
		return append(log, check(1, 8, pairs()+pairs()))
	}
	if f > 0 {
		return append(log, check(1, 8, pairs([2]int{2, f})+pairs()))
	}
	return log
}

// TestWhatIsRedone: the page on the disk has some lsn: below, at and above that of a record; so does the analysis.
func TestWhatIsRedone(t *testing.T) {
	for lsn := range 8 {
		for f := -1; f < 8; f++ {
			d := diskOf(1, redone(f))
			d.Sectors[pageAt(2)] = bytesOfPage(2, page(lsn, "w", "x", "y", "z"))
			name := fmt.Sprintf("the page has %d, First is %d", lsn, f)
			got := restarted(t, name, downWith(d))
			want := clean(2, page(lsn, "w", "x", "y", "z"))
			for _, r := range redone(0)[1:6] {
				if r.Lsn <= lsn || r.Lsn < f || f < 0 {
					continue
				}
				want.Page.Slots[r.Slot], want.Page.Lsn = r.After, r.Lsn
				if !want.Dirty {
					want.Dirty, want.First = true, r.Lsn
				}
			}
			frames := []impl.Frame{want}
			if f < 0 || f == 7 {
				frames = nil
			}
			s := impl.Store{Disk: d, Epoch: 2, Log: redone(f), Sure: len(redone(f)), Frames: frames}
			s.Disk.Sectors[0] = header(2)
			checkEngine(t, name, got, impl.Engine{Store: s, Up: true, Next: 2})
		}
	}
}

// TestRedoOfManyPages: those that the analysis has are fetched, in the order of their records; those that must go out are
// put out, and nothing is synced for that.
func TestRedoOfManyPages(t *testing.T) {
	for pages := range impl.MaxPages + 1 {
		log := []impl.LogRecord{begin(1, 1, 9)}
		for i := range pages {
			log = append(log, at(update(1, i+2, 9, i+1, "", fmt.Sprint("r", i)), 7-i, 1))
		}
		log = append(log, commit(1, pages+2, 9, pages+1))
		name := fmt.Sprint(pages, " pages")
		got := restarted(t, name, downWith(diskOf(1, log)))
		if want := max(0, pages-3); len(got.Store.Disk.Cache) != want || len(got.Store.Frames) != min(pages, 3) {
			t.Errorf("%s: %d writes, %d frames", name, len(got.Store.Disk.Cache), len(got.Store.Frames))
		}
		for i := range pages {
			_, p, _, _ := impl.FetchPage(got.Store, 7-i)
			if tellPage(p) != tellPage(page(i+2, "", fmt.Sprint("r", i), "", "")) {
				t.Errorf("%s: page %d: %s", name, 7-i, tellPage(p))
			}
		}
		p := plainEngineOf(downWith(diskOf(1, log)))
		p.restart()
		p.check(t, name, got)
	}
}

// TestNextIsAboveAllOfTheLog: of those that are over too, and of no others.
func TestNextIsAboveAllOfTheLog(t *testing.T) {
	for name, x := range map[string]struct {
		log  []impl.LogRecord
		next int
	}{
		"no record":             {nil, 1},
		"a begin":               {[]impl.LogRecord{begin(1, 1, 1)}, 2},
		"one that is over":      {[]impl.LogRecord{begin(1, 1, 7), commit(1, 2, 7, 1), begin(1, 3, 2)}, 8},
		"a checkpoint alone":    {[]impl.LogRecord{check(1, 1, pairs()+pairs())}, 1},
		"MaxTx":                 {[]impl.LogRecord{begin(1, 1, 3), begin(1, 2, 60)}, 61},
		"one ahead of a check":  {[]impl.LogRecord{begin(1, 1, 20), end(1, 2, 20, 1), check(1, 3, pairs()+pairs())}, 21},
		"one that a check told": {[]impl.LogRecord{begin(1, 1, 20), check(1, 2, pairs()+pairs([2]int{20, 1}))}, 21},
	} {
		for _, next := range []int{1, 30, 61} {
			e := downWith(diskOf(1, x.log))
			e.Next = next
			if got := restarted(t, name, e); got.Next != x.next {
				t.Errorf("%s: Next %d, want %d", name, got.Next, x.next)
			}
		}
	}
}

// TestTheHeaderSaysWhichLogCounts: not the engine's own epoch.
func TestTheHeaderSaysWhichLogCounts(t *testing.T) {
	var log []impl.LogRecord
	for i := range 6 {
		log = append(log, begin(i+1, i+1, i+1))
	}
	for epoch := range 9 {
		got, code := impl.RestartEngine(downWith(diskOf(epoch, log)))
		n := min(epoch, 6)
		if code != impl.OK || got.Store.Epoch != epoch+1 || len(got.Store.Log) != 2*n || !slices.Equal(got.Store.Log[:n], log[:n]) {
			t.Errorf("epoch %d: epoch %d, %d records", epoch, got.Store.Epoch, len(got.Store.Log))
		}
		for i, r := range got.Store.Log[n:] {
			if r != end(epoch+1, n+i+1, n-i, n-i) {
				t.Errorf("epoch %d: %+v", epoch, r)
			}
		}
	}
	d := diskOf(4, log)
	d.Sectors[0] = ""
	if got, code := impl.RestartEngine(downWith(d)); code != impl.OK || got.Store.Epoch != 1 || len(got.Store.Log) != 0 {
		t.Errorf("an empty header: epoch %d, %d records", got.Store.Epoch, len(got.Store.Log))
	}
	d.Sectors[0], d.Cache = "none", []impl.Pending{write(0, header(7)), write(0, header(3))}
	if got := restarted(t, "a header that is not sure", downWith(d)); got.Store.Epoch != 4 || len(got.Store.Log) != 6 || len(got.Store.Disk.Cache) != 0 {
		t.Errorf("a header that is not sure: epoch %d, %d records", got.Store.Epoch, len(got.Store.Log))
	}
}

// TestRestartsUpToMaxEpoch: each is of the next epoch, until there is none.
func TestRestartsUpToMaxEpoch(t *testing.T) {
	d := stocked(t, 20)
	tx := d.begin()
	d.put(tx, 1, row(1, 1))
	d.commit(tx)
	want := tablesOf(t, "at first", d.e)
	for epoch := 2; epoch <= impl.MaxEpoch; epoch++ {
		d.crash()
		d.restart()
		if d.e.Store.Epoch != epoch || len(d.e.Store.Log) != 3 {
			t.Fatalf("epoch %d, want %d; %d records", d.e.Store.Epoch, epoch, len(d.e.Store.Log))
		}
		checkTables(t, fmt.Sprint("epoch ", epoch), d.e, want)
	}
	d.crash()
	got, code := impl.RestartEngine(d.e)
	if code != impl.ErrMany {
		t.Errorf("behind MaxEpoch: code %d", code)
	}
	checkEngine(t, "behind MaxEpoch", got, d.e)
}

// TestARestartUpToTheLastSector: of a log that is half full with one open transaction nothing is left when it is undone.
func TestARestartUpToTheLastSector(t *testing.T) {
	down := downWith(diskOf(1, updated(29).Store.Log))
	got := restarted(t, "29 updates", down)
	if len(got.Store.Log) != impl.MaxLog || got.Store.Log[59] != end(2, 60, 1, 59) {
		t.Errorf("%d records, the last is %+v", len(got.Store.Log), got.Store.Log[len(got.Store.Log)-1])
	}
	p := plainEngineOf(down)
	p.restart()
	p.check(t, "29 updates", got)
	full := filledUp(impl.NewEngine(), impl.MaxLog).Store.Log
	for i := range full {
		full[i] = check(1, i+1, pairs()+pairs())
	}
	got = restarted(t, "a full log", downWith(diskOf(1, full)))
	checkAdded(t, "a full log", got, full, nil)
}

// TestUndoingPutsPagesOut: pages with CLRs go out with their log flushed ahead of them.
func TestUndoingPutsPagesOut(t *testing.T) {
	d, _ := spread(t, 7)
	d.e.Store = flushTo(t, d.e.Store, len(d.e.Store.Log))
	d.crash()
	got := restarted(t, "spread", d.e)
	p := plainEngineOf(d.e)
	p.restart()
	p.check(t, "spread", got)
	checkStock(t, "spread", got, 31)
	d.e = got
	for _, keep := range manyKeeps() {
		again := &doer{t, d.e}
		again.crash(keep...)
		again.restart()
		checkStock(t, fmt.Sprintf("again, keep %v", keep), again.e, 31)
		checkAdded(t, "again", again.e, got.Store.Log, nil)
	}
}
