package tests

import (
	"fmt"
	"math"
	"slices"
	"testing"

	"loop.example/g00332/impl"
)

// tellStore tells nil and an empty list alike: they are the same value.
func tellStore(s impl.Store) string {
	told := fmt.Sprintf("epoch %d sure %d hand %d log", s.Epoch, s.Sure, s.Hand)
	for _, r := range s.Log {
		told += fmt.Sprintf(" %+v", r)
	}
	for _, f := range s.Frames {
		told += fmt.Sprintf(" frame of %d, %s, dirty %v, first %d", f.No, tellPage(f.Page), f.Dirty, f.First)
	}
	return told + " " + tellDisk(s.Disk)
}

func checkStore(t *testing.T, name string, got, want impl.Store) {
	t.Helper()
	if tellStore(got) != tellStore(want) {
		t.Errorf("%s: %.3000s\nwant %.3000s", name, tellStore(got), tellStore(want))
	}
}

func cloneDisk(d impl.Disk) impl.Disk {
	return impl.Disk{Sectors: slices.Clone(d.Sectors), Cache: slices.Clone(d.Cache), Armed: d.Armed, Keep: slices.Clone(d.Keep)}
}

func cloneStore(s impl.Store) impl.Store {
	s.Disk, s.Log, s.Frames = cloneDisk(s.Disk), slices.Clone(s.Log), slices.Clone(s.Frames)
	for i := range s.Frames {
		s.Frames[i].Page.Slots = slices.Clone(s.Frames[i].Page.Slots)
	}
	return s
}

// changed is a store that differs in what change does to it.
func changed(s impl.Store, change func(s *impl.Store)) impl.Store {
	s = cloneStore(s)
	change(&s)
	return s
}

func header(epoch int) string { return sealed("h" + string([]byte{byte(epoch)})) }

func bytesOfPage(no int, p impl.Page) string { return sealed(innerPage(no, p)) }

// pageAt is the sector of a page.
func pageAt(no int) int { return 1 + no }

func clean(no int, p impl.Page) impl.Frame { return impl.Frame{No: no, Page: p} }

func dirty(no int, p impl.Page, first int) impl.Frame {
	return impl.Frame{No: no, Page: p, Dirty: true, First: first}
}

// someStore has all that a store can have: a log of which 6 of 8 records are sure, pages that are sure on the disk and
// written to it, and three frames of which two are dirty.
func someStore() impl.Store {
	log := someLog()
	d := logDisk(impl.DiskSectors, log[:6])
	d.Sectors[0] = header(4)
	d.Sectors[pageAt(3)] = bytesOfPage(3, page(2, "", "", "one", ""))
	d.Sectors[pageAt(5)] = bytesOfPage(5, page(1, "a", "b", "c", "d"))
	d.Cache = []impl.Pending{write(pageAt(5), bytesOfPage(5, page(6, "a", "", "", "e")))}
	return impl.Store{Disk: d, Epoch: 4, Log: log, Sure: 6, Hand: 1,
		Frames: []impl.Frame{dirty(3, page(6, "", "", "two", ""), 4), clean(0, page(0, "", "", "", "")), dirty(7, page(8, "x", "y", "", "z"), 8)}}
}

// fullStore has a log of MaxLog records, of which none is sure.
func fullStore() impl.Store {
	return changed(impl.NewStore(), func(s *impl.Store) { s.Log, s.Epoch = fullLog(), impl.MaxEpoch })
}

func armed(s impl.Store, keep ...int) impl.Store {
	return changed(s, func(s *impl.Store) { s.Disk.Armed, s.Disk.Keep = true, keep })
}

func rightStores() map[string]impl.Store {
	base := someStore()
	with := func(change func(s *impl.Store)) impl.Store { return changed(base, change) }
	list := map[string]impl.Store{
		"a new store":             impl.NewStore(),
		"some store":              base,
		"a full log":              fullStore(),
		"a full log, all sure":    changed(fullStore(), func(s *impl.Store) { s.Sure = impl.MaxLog }),
		"a log of MaxLog - 1":     changed(fullStore(), func(s *impl.Store) { s.Log = s.Log[:impl.MaxLog-1] }),
		"an armed disk":           armed(base, 1, 0, 1),
		"armed, without numbers":  armed(base),
		"no frames":               with(func(s *impl.Store) { s.Frames = nil }),
		"one frame":               with(func(s *impl.Store) { s.Frames = s.Frames[2:] }),
		"two frames":              with(func(s *impl.Store) { s.Frames = s.Frames[:2] }),
		"epoch MaxEpoch":          with(func(s *impl.Store) { s.Epoch = impl.MaxEpoch }),
		"no log, epoch MaxEpoch":  changed(impl.NewStore(), func(s *impl.Store) { s.Epoch = impl.MaxEpoch }),
		"all sure":                with(func(s *impl.Store) { s.Sure = 8 }),
		"hand 0":                  with(func(s *impl.Store) { s.Hand = 0 }),
		"hand MaxFrames - 1":      with(func(s *impl.Store) { s.Hand = impl.MaxFrames - 1 }),
		"hand without a frame":    with(func(s *impl.Store) { s.Frames, s.Hand = nil, 2 }),
		"First 1":                 with(func(s *impl.Store) { s.Frames[0].First = 1 }),
		"First at the log's end":  with(func(s *impl.Store) { s.Frames[0].First = 8 }),
		"a clean frame ahead":     with(func(s *impl.Store) { s.Frames[1].Page = page(8, "a", "", "", "") }),
		"an lsn of 0, dirty":      with(func(s *impl.Store) { s.Frames[0].Page.Lsn = 0 }),
		"records of MaxRecord":    with(func(s *impl.Store) { s.Frames[0].Page.Slots[1] = filled(impl.MaxRecord) }),
		"page 7 at the disk":      with(func(s *impl.Store) { s.Disk.Sectors[8] = bytesOfPage(7, page(6, "", "", "", "q")) }),
		"other header":            with(func(s *impl.Store) { s.Disk.Sectors[0] = header(2) }),
		"no header":               with(func(s *impl.Store) { s.Disk.Sectors[0] = "none" }),
		"a page mended":           with(func(s *impl.Store) { s.Disk.Sectors[pageAt(5)] = "none" }),
		"a page written as empty": with(func(s *impl.Store) { s.Disk.Cache = append(s.Disk.Cache, write(pageAt(3), "")) }),
		"500 writes":              with(func(s *impl.Store) { s.Disk.Cache = writes(500, 0, 20, 68) }),
		"499 writes":              with(func(s *impl.Store) { s.Disk.Cache = writes(499, 0, 20, 68) }),
	}
	for no := range impl.MaxPages {
		list[fmt.Sprint("page ", no, " of Lsn Sure")] = with(func(s *impl.Store) {
			s.Disk.Sectors[pageAt(no)] = bytesOfPage(no, page(s.Sure, "a", "", "", ""))
		})
		list[fmt.Sprint("page ", no, " as new")] = with(func(s *impl.Store) {
			s.Disk.Sectors[pageAt(no)], s.Disk.Cache = "", nil
		})
		list[fmt.Sprint("a frame of ", no)] = with(func(s *impl.Store) { s.Frames = []impl.Frame{clean(no, page(3, "", "", "", ""))} })
	}
	return list
}

func wrongStores() map[string]impl.Store {
	list := map[string]impl.Store{"nothing": {}}
	for _, of := range []func() map[string]func(s *impl.Store){wrongOfDisk, wrongOfNumbers, wrongOfLog, wrongOfFrames, wrongOfPages} {
		for name, change := range of() {
			list[name] = changed(someStore(), change)
		}
	}
	list["a log of MaxLog + 1"] = changed(fullStore(), func(s *impl.Store) { s.Log = append(s.Log, begin(60, 61, 1)) })
	list["one more of the last place"] = changed(fullStore(), func(s *impl.Store) { s.Log = append(s.Log, begin(60, 60, 1)) })
	list["a new store of epoch 0"] = changed(impl.NewStore(), func(s *impl.Store) { s.Epoch = 0 })
	list["a new store of epoch MaxEpoch + 1"] = changed(impl.NewStore(), func(s *impl.Store) { s.Epoch = impl.MaxEpoch + 1 })
	list["a new store, Sure 1"] = changed(impl.NewStore(), func(s *impl.Store) { s.Sure = 1 })
	return list
}

func wrongOfDisk() map[string]func(s *impl.Store) {
	return map[string]func(s *impl.Store){
		"no disk":             func(s *impl.Store) { s.Disk = impl.Disk{} },
		"68 sectors":          func(s *impl.Store) { s.Disk.Sectors = s.Disk.Sectors[:impl.DiskSectors-1] },
		"70 sectors":          func(s *impl.Store) { s.Disk.Sectors = append(s.Disk.Sectors, "") },
		"9 sectors":           func(s *impl.Store) { s.Disk.Sectors = s.Disk.Sectors[:9] },
		"1 sector":            func(s *impl.Store) { s.Disk.Sectors, s.Disk.Cache = s.Disk.Sectors[:1], nil },
		"MaxSectors sectors":  func(s *impl.Store) { s.Disk.Sectors = append(s.Disk.Sectors, make([]string, 31)...) },
		"a long sector":       func(s *impl.Store) { s.Disk.Sectors[68] = filled(impl.SectorSize + 1) },
		"a long header":       func(s *impl.Store) { s.Disk.Sectors[0] = filled(impl.SectorSize + 1) },
		"a write beyond":      func(s *impl.Store) { s.Disk.Cache = append(s.Disk.Cache, write(69, "a")) },
		"a write below":       func(s *impl.Store) { s.Disk.Cache = append(s.Disk.Cache, write(-1, "a")) },
		"501 writes":          func(s *impl.Store) { s.Disk.Cache = writes(501, 0, 20) },
		"numbers, not armed":  func(s *impl.Store) { s.Disk.Keep = []int{1} },
		"501 numbers, armed":  func(s *impl.Store) { s.Disk.Armed, s.Disk.Keep = true, make([]int, 501) },
		"a long write, armed": func(s *impl.Store) { s.Disk.Armed, s.Disk.Cache = true, []impl.Pending{write(0, filled(161))} },
	}
}

func wrongOfNumbers() map[string]func(s *impl.Store) {
	list := map[string]func(s *impl.Store){"an epoch below the log's": func(s *impl.Store) { s.Epoch = 3 }}
	for _, n := range []int{math.MinInt, -1, 0, impl.MaxEpoch + 1, 256, math.MaxInt} {
		list[fmt.Sprint("epoch ", n)] = func(s *impl.Store) { s.Epoch = n }
	}
	for _, n := range []int{math.MinInt, -1, 9, 10, impl.MaxLog, math.MaxInt} {
		list[fmt.Sprint("Sure ", n)] = func(s *impl.Store) { s.Sure = n }
	}
	for _, n := range []int{math.MinInt, -1, impl.MaxFrames, impl.MaxFrames + 1, 256, math.MaxInt} {
		list[fmt.Sprint("hand ", n)] = func(s *impl.Store) { s.Hand = n }
		list[fmt.Sprint("no frames, hand ", n)] = func(s *impl.Store) { s.Frames, s.Hand = nil, n }
	}
	return list
}

func wrongOfLog() map[string]func(s *impl.Store) {
	list := map[string]func(s *impl.Store){
		"a record of an epoch above":     func(s *impl.Store) { s.Log[7].Epoch = 5 },
		"a first record of epoch 5":      func(s *impl.Store) { s.Log[0].Epoch = 5 },
		"a record of an epoch below":     func(s *impl.Store) { s.Log[7].Epoch = 3 },
		"an epoch that falls within":     func(s *impl.Store) { s.Log[4].Epoch = 1 },
		"all of an epoch above":          func(s *impl.Store) { s.Epoch = 1 },
		"the first record is not there":  func(s *impl.Store) { s.Log = s.Log[1:] },
		"a record is not there":          func(s *impl.Store) { s.Log = slices.Delete(s.Log, 3, 4) },
		"a record twice":                 func(s *impl.Store) { s.Log = append(s.Log, s.Log[7]) },
		"two records the other way":      func(s *impl.Store) { s.Log[6], s.Log[7] = s.Log[7], s.Log[6] },
		"a record behind a gap":          func(s *impl.Store) { s.Log = append(s.Log, begin(4, 10, 9)) },
		"a long record":                  func(s *impl.Store) { s.Log[1].After = filled(impl.MaxRecord + 1) },
		"a checkpoint that is none":      func(s *impl.Store) { s.Log[4].After = "" },
		"a checkpoint of what is behind": func(s *impl.Store) { s.Log[4].After = pairs([2]int{3, 5}) + pairs() },
	}
	for i := range someLog() {
		list[fmt.Sprintf("record %d is none", i+1)] = func(s *impl.Store) { s.Log[i].Kind = 7 }
		list[fmt.Sprintf("record %d of epoch 0", i+1)] = func(s *impl.Store) { s.Log[i].Epoch = 0 }
		list[fmt.Sprintf("record %d not of its place", i+1)] = func(s *impl.Store) { s.Log[i].Lsn++ }
		list[fmt.Sprintf("record %d of no transaction", i+1)] = func(s *impl.Store) { s.Log[i].Tx = impl.MaxTx + 1 }
		list[fmt.Sprintf("record %d leads to itself", i+1)] = func(s *impl.Store) { s.Log[i].Prev = i + 1 }
	}
	return list
}

func wrongOfFrames() map[string]func(s *impl.Store) {
	empty := page(0, "", "", "", "")
	list := map[string]func(s *impl.Store){
		"4 frames":        func(s *impl.Store) { s.Frames = append(s.Frames, clean(1, empty)) },
		"a page twice":    func(s *impl.Store) { s.Frames[1].No = 3 },
		"a page at ends":  func(s *impl.Store) { s.Frames[2].No = 3 },
		"page 0 twice":    func(s *impl.Store) { s.Frames = []impl.Frame{clean(0, empty), clean(0, empty)} },
		"page 7 twice":    func(s *impl.Store) { s.Frames[1].No = 7 },
		"an empty frame":  func(s *impl.Store) { s.Frames[1] = impl.Frame{} },
		"frames of 0..8":  func(s *impl.Store) { s.Frames = framesOf(9) },
		"frames of 0..7":  func(s *impl.Store) { s.Frames = framesOf(8) },
		"MaxList frames":  func(s *impl.Store) { s.Frames = make([]impl.Frame, impl.MaxList) },
		"page of 3 slots": func(s *impl.Store) { s.Frames[0].Page.Slots = make([]string, 3) },
	}
	for at := range impl.MaxFrames {
		for _, no := range []int{math.MinInt, -1, impl.MaxPages, 255, 256, math.MaxInt} {
			list[fmt.Sprintf("frame %d of page %d", at, no)] = func(s *impl.Store) { s.Frames[at].No = no }
		}
		for name, p := range map[string]impl.Page{"5 slots": page(1, "", "", "", "", ""), "a long record": page(1, "", filled(31), "", ""),
			"lsn -1": page(-1, "", "", "", ""), "an lsn beyond the log": page(9, "", "", "", ""), "MaxLsn": page(1000, "", "", "", ""),
			"an lsn far beyond": page(math.MaxInt, "", "", "", ""), "an lsn far below": page(math.MinInt, "", "", "", "")} {
			list[fmt.Sprintf("frame %d, %s", at, name)] = func(s *impl.Store) { s.Frames[at].Page = p }
		}
		list[fmt.Sprintf("frame %d dirty, First 0", at)] = func(s *impl.Store) { s.Frames[at].Dirty, s.Frames[at].First = true, 0 }
		for _, first := range []int{1, 8} {
			list[fmt.Sprintf("frame %d clean, First %d", at, first)] = func(s *impl.Store) { s.Frames[at].Dirty, s.Frames[at].First = false, first }
		}
		for _, first := range []int{math.MinInt, -1, 9, 61, math.MaxInt} {
			list[fmt.Sprintf("frame %d, First %d", at, first)] = func(s *impl.Store) { s.Frames[at].First = first }
			list[fmt.Sprintf("frame %d dirty, First %d", at, first)] = func(s *impl.Store) { s.Frames[at].Dirty, s.Frames[at].First = true, first }
		}
	}
	return list
}

// framesOf are clean ones, of the pages from 0 on.
func framesOf(n int) []impl.Frame {
	var list []impl.Frame
	for no := range n {
		list = append(list, clean(no, page(0, "", "", "", "")))
	}
	return list
}

func wrongOfPages() map[string]func(s *impl.Store) {
	list := map[string]func(s *impl.Store){}
	for no := range impl.MaxPages {
		p := page(6, "a", "", "", "")
		turned := []byte(bytesOfPage(no, p))
		turned[2] ^= 1
		for name, b := range map[string]string{
			"an lsn beyond Sure":  bytesOfPage(no, page(7, "a", "", "", "")),
			"the log's length":    bytesOfPage(no, page(8, "a", "", "", "")),
			"MaxLsn":              bytesOfPage(no, page(1000, "a", "", "", "")),
			"another page":        bytesOfPage((no+1)%impl.MaxPages, p),
			"the sector's number": bytesOfPage(pageAt(no), p),
			"a bit turned":        string(turned),
			"cut short":           bytesOfPage(no, p)[:9],
			"not sealed":          innerPage(no, p),
			"no page, sealed":     sealed("p"),
			"a record":            bytesOfRecord(begin(1, 1, 1)),
			"a byte":              "\x00",
			"SectorSize bytes":    filled(impl.SectorSize),
		} {
			list[fmt.Sprintf("sure at page %d: %s", no, name)] = func(s *impl.Store) { s.Disk.Sectors[pageAt(no)], s.Disk.Cache = b, nil }
			list[fmt.Sprintf("written at page %d: %s", no, name)] = func(s *impl.Store) {
				s.Disk.Cache = append(s.Disk.Cache, write(pageAt(no), b))
			}
		}
	}
	return list
}

func TestPoolConstants(t *testing.T) {
	if impl.MaxFrames != 3 || impl.DiskSectors != 69 {
		t.Error("constants of chapter 6")
	}
}

func TestNewStore(t *testing.T) {
	s := impl.NewStore()
	want := impl.Store{Epoch: 1, Disk: impl.Disk{Sectors: make([]string, 69)}}
	want.Disk.Sectors[0] = header(1)
	checkStore(t, "NewStore", s, want)
	if !impl.StoreOK(s) {
		t.Error("a new store is not right")
	}
	checkLog(t, "a new store", s.Disk, impl.MaxEpoch, nil)
	if epoch, code := impl.ReadHeader([]byte(s.Disk.Sectors[0])); epoch != 1 || code != impl.OK {
		t.Errorf("the header of a new store: epoch %d, code %d", epoch, code)
	}
	crashed, _ := impl.DiskCrash(s.Disk, nil)
	checkDisk(t, "a new store's disk behind a crash", crashed, s.Disk)
}

func TestRightStores(t *testing.T) {
	for name, s := range rightStores() {
		if !impl.StoreOK(s) {
			t.Errorf("%s: not right", name)
		}
	}
	for name, s := range wrongStores() {
		if impl.StoreOK(s) {
			t.Errorf("%s: right", name)
		}
	}
}

// TestRightnessAtEachNumber holds each number of some store against the bounds that the document names.
func TestRightnessAtEachNumber(t *testing.T) {
	for n := -3; n < 70; n++ {
		for name, x := range map[string]struct {
			change      func(s *impl.Store)
			least, most int
		}{
			"Epoch":    {func(s *impl.Store) { s.Epoch = n }, 4, impl.MaxEpoch},
			"Sure":     {func(s *impl.Store) { s.Sure = n }, 6, 8},
			"Hand":     {func(s *impl.Store) { s.Hand = n }, 0, 2},
			"No":       {func(s *impl.Store) { s.Frames[2].No = n }, 4, 7},
			"Lsn":      {func(s *impl.Store) { s.Frames[0].Page.Lsn = n }, 0, 8},
			"First":    {func(s *impl.Store) { s.Frames[0].First = n }, 1, 8},
			"no First": {func(s *impl.Store) { s.Frames[1].First = n }, 0, 0},
		} {
			if got, want := impl.StoreOK(changed(someStore(), x.change)), x.least <= n && n <= x.most; got != want &&
				!(name == "No" && (n == 1 || n == 2)) {
				t.Errorf("%s %d: StoreOK %v", name, n, got)
			}
		}
	}
	for sure := range 9 {
		for lsn := range 10 {
			s := changed(someStore(), func(s *impl.Store) {
				s.Sure, s.Disk.Cache = sure, nil
				s.Disk.Sectors[pageAt(3)] = ""
				s.Disk.Sectors[pageAt(5)] = bytesOfPage(5, page(lsn, "a", "", "", ""))
			})
			if got := impl.StoreOK(s); got != (lsn <= sure) {
				t.Errorf("a page of lsn %d on the disk, Sure %d: StoreOK %v", lsn, sure, got)
			}
		}
	}
}
