package tests

import (
	"fmt"
	"math"
	"slices"
	"testing"

	"loop.example/g00332/impl"
)

var noPages = []int{math.MinInt, -1 << 32, -256, -8, -1, impl.MaxPages, impl.MaxPages + 1, 255, 256, 1 << 32, math.MaxInt}

// changeAt is an update of a place, as it is handed to AppendLog.
func changeAt(tx, prev, no, slot int, after string) impl.LogRecord {
	return impl.LogRecord{Tx: tx, Kind: impl.LoUpdate, Prev: prev, Page: no, Slot: slot, After: after}
}

func appendTo(t *testing.T, s impl.Store, list ...impl.LogRecord) impl.Store {
	t.Helper()
	for i, r := range list {
		next, code := impl.AppendLog(s, r)
		if code != impl.OK || !impl.StoreOK(next) {
			t.Fatalf("AppendLog of record %d: code %d", i, code)
		}
		s = next
	}
	return s
}

func applyTo(t *testing.T, s impl.Store, list ...int) impl.Store {
	t.Helper()
	for _, lsn := range list {
		next, alive, code := impl.ApplyChange(s, lsn)
		if !alive || code != impl.OK || !impl.StoreOK(next) {
			t.Fatalf("ApplyChange of %d: %v, code %d", lsn, alive, code)
		}
		s = next
	}
	return s
}

func flushTo(t *testing.T, s impl.Store, lsn int) impl.Store {
	t.Helper()
	next, alive, code := impl.FlushLog(s, lsn)
	if !alive || code != impl.OK || !impl.StoreOK(next) {
		t.Fatalf("FlushLog to %d: %v, code %d", lsn, alive, code)
	}
	return next
}

func fetchFrom(t *testing.T, s impl.Store, no int) (impl.Store, impl.Page) {
	t.Helper()
	next, p, alive, code := impl.FetchPage(s, no)
	if !alive || code != impl.OK || !impl.StoreOK(next) {
		t.Fatalf("FetchPage of %d: %v, code %d", no, alive, code)
	}
	return next, p
}

func evictFrom(t *testing.T, s impl.Store, no int) impl.Store {
	t.Helper()
	next, alive, code := impl.EvictPage(s, no)
	if !alive || code != impl.OK || !impl.StoreOK(next) {
		t.Fatalf("EvictPage of %d: %v, code %d", no, alive, code)
	}
	return next
}

// changedStore has a begin and an update of each of the given pages, in slot 1, applied in their order.
func changedStore(t *testing.T, pages ...int) impl.Store {
	t.Helper()
	s := appendTo(t, impl.NewStore(), impl.LogRecord{Tx: 5, Kind: impl.LoBegin})
	for i, no := range pages {
		s = appendTo(t, s, changeAt(5, i+1, no, 1, fmt.Sprint("change ", i+2)))
		s = applyTo(t, s, i+2)
	}
	return s
}

func checkDiskPage(t *testing.T, name string, d impl.Disk, no int, want impl.Page) {
	t.Helper()
	b, code := impl.DiskRead(d, pageAt(no))
	if code != impl.OK {
		t.Fatalf("%s: DiskRead of page %d: code %d", name, no, code)
	}
	p, code := impl.ReadPage(no, []byte(b))
	if code != impl.OK {
		t.Fatalf("%s: page %d is read of the disk with code %d", name, no, code)
	}
	checkPage(t, fmt.Sprintf("%s: page %d of the disk", name, no), p, want)
}

func TestAppendedRecords(t *testing.T) {
	s := impl.NewStore()
	for i, x := range []struct{ given, want impl.LogRecord }{
		{impl.LogRecord{Tx: 1, Kind: impl.LoBegin}, begin(1, 1, 1)},
		{impl.LogRecord{Tx: 1, Kind: impl.LoUpdate, Prev: 1, Page: 3, Slot: 2, After: "one", Epoch: 60, Lsn: 60}, update(1, 2, 1, 1, "", "one")},
		{impl.LogRecord{Tx: 2, Kind: impl.LoBegin, Epoch: -7, Lsn: math.MaxInt}, begin(1, 3, 2)},
		{impl.LogRecord{Kind: impl.LoCheck, After: pairs([2]int{3, 2}) + pairs([2]int{1, 2}, [2]int{2, 3})},
			check(1, 4, pairs([2]int{3, 2})+pairs([2]int{1, 2}, [2]int{2, 3}))},
		{impl.LogRecord{Tx: 1, Kind: impl.LoClr, Prev: 2, Next: 1, Page: 3, Slot: 2, After: "old", Lsn: 2}, clr(1, 5, 1, 2, 1, "old")},
		{impl.LogRecord{Tx: 1, Kind: impl.LoEnd, Prev: 5}, end(1, 6, 1, 5)},
		{impl.LogRecord{Tx: 2, Kind: impl.LoCommit, Prev: 6}, commit(1, 7, 2, 6)},
	} {
		next, code := impl.AppendLog(s, x.given)
		if code != impl.OK {
			t.Fatalf("record %d: code %d", i+1, code)
		}
		want := changed(s, func(s *impl.Store) { s.Log = append(s.Log, x.want) })
		checkStore(t, fmt.Sprint("record ", i+1), next, want)
		s = next
	}
	late := changed(someStore(), func(s *impl.Store) { s.Epoch = 9 })
	next := appendTo(t, late, impl.LogRecord{Tx: 60, Kind: impl.LoBegin, Epoch: 1, Lsn: 1})
	checkStore(t, "a record of a later epoch", next, changed(late, func(s *impl.Store) { s.Log = append(s.Log, begin(9, 9, 60)) }))
}

func TestAppendLogCodes(t *testing.T) {
	for name, s := range map[string]impl.Store{"a new store": impl.NewStore(), "some store": someStore(), "a full log": fullStore()} {
		for of, r := range wrongRecords() {
			r.Epoch, r.Lsn = s.Epoch, len(s.Log)+1
			want := impl.ErrForm
			if len(s.Log) == impl.MaxLog {
				want = impl.ErrFull
			} else if impl.RecordOK(r) {
				continue
			}
			next, code := impl.AppendLog(s, r)
			if code != want {
				t.Fatalf("%s, %s: code %d, want %d", name, of, code, want)
			}
			if len(next.Log) != len(s.Log) || next.Epoch != s.Epoch {
				t.Fatalf("%s, %s: the store is another one", name, of)
			}
		}
	}
	for name, s := range rightStores() {
		next, code := impl.AppendLog(s, impl.LogRecord{Tx: 1, Kind: impl.LoBegin, Prev: 1})
		if code != impl.ErrForm && (len(s.Log) < impl.MaxLog || code != impl.ErrFull) {
			t.Errorf("%s: a begin that leads elsewhere: code %d", name, code)
		}
		checkStore(t, name+", behind a begin that leads elsewhere", next, s)
	}
	full := appendTo(t, changed(fullStore(), func(s *impl.Store) { s.Log = s.Log[:impl.MaxLog-1] }), impl.LogRecord{Tx: 1, Kind: impl.LoBegin})
	if last := full.Log[impl.MaxLog-1]; last != begin(impl.MaxEpoch, impl.MaxLog, 1) {
		t.Errorf("record MaxLog is %+v", last)
	}
	next, code := impl.AppendLog(full, impl.LogRecord{Tx: 1, Kind: impl.LoBegin})
	if code != impl.ErrFull {
		t.Errorf("a record behind MaxLog: code %d", code)
	}
	checkStore(t, "a record behind MaxLog", next, full)
	if _, code := impl.AppendLog(impl.NewStore(), impl.LogRecord{Tx: 1, Kind: impl.LoCommit}); code != impl.ErrForm {
		t.Errorf("a commit as the first record: code %d", code)
	}
	if _, code := impl.AppendLog(impl.NewStore(), changeAt(1, 1, 0, 0, "a")); code != impl.ErrForm {
		t.Errorf("an update that leads to itself: code %d", code)
	}
}

func TestFlushedRecordsAreSureAndRead(t *testing.T) {
	s := changed(someStore(), func(s *impl.Store) {
		s.Sure, s.Frames, s.Disk = 0, nil, impl.Disk{Sectors: make([]string, impl.DiskSectors)}
	})
	for from := range 9 {
		mid := flushTo(t, s, from)
		for to := from; to < 9; to++ {
			next := flushTo(t, mid, to)
			name := fmt.Sprintf("flushed to %d, to %d", from, to)
			want := changed(s, func(s *impl.Store) {
				s.Sure = to
				s.Disk.Sectors = logDisk(impl.DiskSectors, s.Log[:to]).Sectors
			})
			checkStore(t, name, next, want)
			checkLog(t, name, next.Disk, 4, s.Log[:to])
			crashed, _ := impl.DiskCrash(next.Disk, nil)
			checkLog(t, name+", behind a crash", crashed, 4, s.Log[:to])
		}
	}
}

func TestFlushOfAFullLog(t *testing.T) {
	s := fullStore()
	for _, lsn := range []int{1, 30, impl.MaxLog - 1, impl.MaxLog} {
		s = flushTo(t, s, lsn)
		if s.Sure != lsn {
			t.Errorf("flushed to %d, Sure is %d", lsn, s.Sure)
		}
		checkLog(t, fmt.Sprint("a full log, flushed to ", lsn), s.Disk, impl.MaxEpoch, fullLog()[:lsn])
	}
	if !slices.Equal(s.Disk.Sectors, changed(fullStore(), func(s *impl.Store) {
		copy(s.Disk.Sectors[9:], logDisk(69, s.Log).Sectors[9:])
	}).Disk.Sectors) {
		t.Error("a full log, flushed, is not just in its sectors")
	}
}

func TestFlushMakesOtherWritesSure(t *testing.T) {
	s := someStore()
	next := flushTo(t, s, 7)
	want := changed(s, func(s *impl.Store) {
		s.Disk.Sectors[pageAt(5)], s.Disk.Sectors[impl.LogAt+6] = s.Disk.Cache[0].Data, bytesOfRecord(s.Log[6])
		s.Disk.Cache, s.Sure = nil, 7
	})
	checkStore(t, "a flush to 7", next, want)
}

func TestFlushToWhatIsSureDoesNothing(t *testing.T) {
	for name, s := range rightStores() {
		for lsn := range s.Sure + 1 {
			next, alive, code := impl.FlushLog(s, lsn)
			if !alive || code != impl.OK {
				t.Errorf("%s, flushed to %d: %v, code %d", name, lsn, alive, code)
			}
			checkStore(t, fmt.Sprintf("%s, flushed to %d", name, lsn), next, s)
		}
	}
}

func TestFlushLogCodes(t *testing.T) {
	for name, s := range rightStores() {
		for _, lsn := range []int{math.MinInt, -1 << 32, -61, -1, len(s.Log) + 1, len(s.Log) + 2, 256, 1 << 32, math.MaxInt} {
			next, alive, code := impl.FlushLog(s, lsn)
			if alive || code != impl.ErrRange {
				t.Errorf("%s, flushed to %d: %v, code %d", name, lsn, alive, code)
			}
			checkStore(t, fmt.Sprintf("%s, flushed to %d", name, lsn), next, impl.Store{})
		}
	}
}

func TestFetchUntilTheHandGoesRound(t *testing.T) {
	s := impl.NewStore()
	for no := range impl.MaxPages {
		s.Disk.Sectors[pageAt(no)] = bytesOfPage(no, page(0, fmt.Sprint("page ", no), "", "", "z"))
	}
	s.Disk.Sectors[pageAt(6)] = ""
	of := func(no int) impl.Page {
		if no == 6 {
			return page(0, "", "", "", "")
		}
		return page(0, fmt.Sprint("page ", no), "", "", "z")
	}
	for i, x := range []struct {
		no   int
		nos  []int
		hand int
	}{
		{4, []int{4}, 0}, {4, []int{4}, 0}, {0, []int{4, 0}, 0}, {7, []int{4, 0, 7}, 0}, {0, []int{4, 0, 7}, 0},
		{4, []int{4, 0, 7}, 0}, {6, []int{6, 0, 7}, 1}, {0, []int{6, 0, 7}, 1}, {5, []int{6, 5, 7}, 2}, {3, []int{6, 5, 3}, 0},
		{7, []int{7, 5, 3}, 1}, {5, []int{7, 5, 3}, 1}, {6, []int{7, 6, 3}, 2}, {1, []int{7, 6, 1}, 0}, {2, []int{2, 6, 1}, 1},
	} {
		next, p := fetchFrom(t, s, x.no)
		want := changed(s, func(s *impl.Store) {
			s.Hand, s.Frames = x.hand, nil
			for _, no := range x.nos {
				s.Frames = append(s.Frames, clean(no, of(no)))
			}
		})
		checkStore(t, fmt.Sprint("fetch ", i), next, want)
		checkPage(t, fmt.Sprint("fetch ", i), p, of(x.no))
		s = next
	}
}

func TestFetchTellsTheFrame(t *testing.T) {
	for name, s := range rightStores() {
		for _, f := range s.Frames {
			next, p, alive, code := impl.FetchPage(s, f.No)
			if !alive || code != impl.OK {
				t.Errorf("%s: FetchPage of %d: %v, code %d", name, f.No, alive, code)
			}
			checkPage(t, fmt.Sprintf("%s: page %d", name, f.No), p, f.Page)
			checkStore(t, fmt.Sprintf("%s, page %d fetched", name, f.No), next, s)
		}
	}
}

func TestFetchReadsTheLastWrite(t *testing.T) {
	s := someStore()
	s, p := fetchFrom(t, s, 5)
	checkPage(t, "a page that is written", p, page(6, "a", "", "", "e"))
	if s.Frames[1].No != 5 || s.Frames[1].Dirty || s.Frames[1].First != 0 || s.Hand != 2 {
		t.Errorf("its frame: %+v, hand %d", s.Frames[1], s.Hand)
	}
}

func TestFetchAndEvictCodes(t *testing.T) {
	for name, s := range rightStores() {
		for _, no := range noPages {
			next, p, alive, code := impl.FetchPage(s, no)
			if alive || code != impl.ErrRange {
				t.Errorf("%s: FetchPage of %d: %v, code %d", name, no, alive, code)
			}
			checkStore(t, fmt.Sprintf("%s: FetchPage of %d", name, no), next, impl.Store{})
			checkPage(t, fmt.Sprintf("%s: FetchPage of %d", name, no), p, impl.Page{})
			next, alive, code = impl.EvictPage(s, no)
			if alive || code != impl.ErrRange {
				t.Errorf("%s: EvictPage of %d: %v, code %d", name, no, alive, code)
			}
			checkStore(t, fmt.Sprintf("%s: EvictPage of %d", name, no), next, impl.Store{})
		}
		for no := range impl.MaxPages {
			if slices.ContainsFunc(s.Frames, func(f impl.Frame) bool { return f.No == no }) {
				continue
			}
			next, alive, code := impl.EvictPage(s, no)
			if !alive || code != impl.ErrNone {
				t.Errorf("%s: EvictPage of %d: %v, code %d", name, no, alive, code)
			}
			checkStore(t, fmt.Sprintf("%s: EvictPage of %d, which has no frame", name, no), next, s)
		}
	}
}

func TestAppliedChangesAreInTheirPages(t *testing.T) {
	for no := range impl.MaxPages {
		for slot := range impl.MaxSlots {
			for _, kind := range []int{impl.LoUpdate, impl.LoClr} {
				for _, after := range []string{"", "a", filled(impl.MaxRecord)} {
					name := fmt.Sprintf("kind %d, page %d, slot %d, %d bytes", kind, no, slot, len(after))
					s := impl.NewStore()
					old := page(0, "w", "x", "y", "z")
					s.Disk.Sectors[pageAt(no)] = bytesOfPage(no, old)
					s = appendTo(t, s, impl.LogRecord{Tx: 1, Kind: impl.LoBegin}, impl.LogRecord{Tx: 1, Kind: kind, Prev: 1, Page: no, Slot: slot, After: after})
					new := page(2, slices.Clone(old.Slots)...)
					new.Slots[slot] = after
					next := applyTo(t, s, 2)
					checkStore(t, name, next, changed(s, func(s *impl.Store) { s.Frames = []impl.Frame{dirty(no, new, 2)} }))
					next, p := fetchFrom(t, next, no)
					checkPage(t, name+", fetched", p, new)
					next = evictFrom(t, next, no)
					checkDiskPage(t, name+", put out", next.Disk, no, new)
					_, p = fetchFrom(t, next, no)
					checkPage(t, name+", put out and fetched", p, new)
				}
			}
		}
	}
}

func TestFirstIsThatOfTheFirstChange(t *testing.T) {
	s := changedStore(t, 6, 6, 2, 6)
	checkStore(t, "changes of a dirty page", s, changed(s, func(s *impl.Store) {
		s.Frames = []impl.Frame{dirty(6, page(5, "", "change 5", "", ""), 2), dirty(2, page(4, "", "change 4", "", ""), 4)}
	}))
	s = applyTo(t, s, 3)
	if f := s.Frames[0]; f.First != 2 || f.Page.Lsn != 3 || f.Page.Slots[1] != "change 3" || !f.Dirty {
		t.Errorf("an earlier change, again: %+v", f)
	}
	s = applyTo(t, evictFrom(t, s, 6), 5)
	if f := s.Frames[1]; f.No != 6 || f.First != 5 || f.Page.Lsn != 5 || !f.Dirty {
		t.Errorf("a change of a page that was put out: %+v", f)
	}
	s = applyTo(t, evictFrom(t, s, 6), 2)
	if f := s.Frames[1]; f.No != 6 || f.First != 2 || f.Page.Lsn != 2 || !f.Dirty {
		t.Errorf("the first change, again: %+v", f)
	}
}

func TestApplyChangeTakesAFrame(t *testing.T) {
	s := changedStore(t, 0, 1, 2, 3)
	want := page(2, "", "change 2", "", "")
	if s.Sure != 2 || s.Hand != 1 || s.Frames[0].No != 3 || s.Frames[0].First != 5 {
		t.Errorf("Sure %d, hand %d, frame %+v", s.Sure, s.Hand, s.Frames[0])
	}
	checkDiskPage(t, "the page that went out", s.Disk, 0, want)
	checkLog(t, "its log", s.Disk, 1, s.Log[:2])
}

func TestApplyChangeCodes(t *testing.T) {
	for name, s := range rightStores() {
		for _, lsn := range []int{math.MinInt, -1, 0, len(s.Log) + 1, len(s.Log) + 2, 256, 1 << 32, math.MaxInt} {
			next, alive, code := impl.ApplyChange(s, lsn)
			if alive || code != impl.ErrRange {
				t.Errorf("%s: ApplyChange of %d: %v, code %d", name, lsn, alive, code)
			}
			checkStore(t, fmt.Sprintf("%s: ApplyChange of %d", name, lsn), next, impl.Store{})
		}
		for i, r := range s.Log {
			if r.Kind == impl.LoUpdate || r.Kind == impl.LoClr {
				continue
			}
			next, alive, code := impl.ApplyChange(s, i+1)
			if alive || code != impl.ErrForm {
				t.Errorf("%s: ApplyChange of kind %d: %v, code %d", name, r.Kind, alive, code)
			}
			checkStore(t, fmt.Sprintf("%s: ApplyChange of kind %d", name, r.Kind), next, impl.Store{})
		}
	}
}

func TestDirtyPagesRise(t *testing.T) {
	for _, x := range []struct{ pages, want []int }{
		{nil, nil}, {[]int{0}, []int{0}}, {[]int{7}, []int{7}}, {[]int{7, 3, 5}, []int{3, 5, 7}}, {[]int{2, 1, 0}, []int{0, 1, 2}},
		{[]int{0, 7, 0, 7}, []int{0, 7}}, {[]int{6, 5, 4, 3}, []int{3, 4, 5}},
	} {
		if list, code := impl.DirtyPages(changedStore(t, x.pages...)); code != impl.OK || !slices.Equal(list, x.want) {
			t.Errorf("changes of %v: dirty are %v, code %d", x.pages, list, code)
		}
	}
	s, _ := fetchFrom(t, changedStore(t, 4, 1), 3)
	if list, code := impl.DirtyPages(s); code != impl.OK || !slices.Equal(list, []int{1, 4}) {
		t.Errorf("with a clean one: dirty are %v, code %d", list, code)
	}
	if list, code := impl.DirtyPages(evictFrom(t, s, 4)); code != impl.OK || !slices.Equal(list, []int{1}) {
		t.Errorf("one put out: dirty are %v, code %d", list, code)
	}
	if list, code := impl.DirtyPages(flushTo(t, s, 3)); code != impl.OK || !slices.Equal(list, []int{1, 4}) {
		t.Errorf("behind a flush: dirty are %v, code %d", list, code)
	}
}

func TestWrongStoresAreBadAheadOfAll(t *testing.T) {
	for name, s := range wrongStores() {
		for _, n := range []int{math.MinInt, -1, 0, 1, 2, 5, 7, 8, 9, 61, math.MaxInt} {
			list := storeAnswers(s, n, begin(1, 1, 1))
			if n == 5 {
				list = storeAnswers(s, n, impl.LogRecord{})
			}
			for _, a := range list {
				if a.name == "StoreOK" {
					continue
				}
				if want := (storeAnswer{name: a.name, code: impl.ErrBad}); a.tell() != want.tell() {
					t.Errorf("%s, %s with %d: %s", a.name, name, n, a.tell())
				}
			}
		}
	}
}
