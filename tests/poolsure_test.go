package tests

import (
	"fmt"
	"slices"
	"testing"

	"loop.example/g00332/impl"
)

// outs are the ways in which a page goes out of the pool of a store with three frames: at the frame of the hand, when
// another one is fetched or changed, or by itself.
func outs(s impl.Store) map[string]func() (impl.Store, bool, int) {
	no := s.Frames[s.Hand].No
	last := len(s.Log)
	return map[string]func() (impl.Store, bool, int){
		"FetchPage":   func() (impl.Store, bool, int) { next, _, alive, code := impl.FetchPage(s, 4); return next, alive, code },
		"ApplyChange": func() (impl.Store, bool, int) { return impl.ApplyChange(s, last) },
		"EvictPage":   func() (impl.Store, bool, int) { return impl.EvictPage(s, no) },
	}
}

// threeChanged has three dirty pages, of Lsns 5, 7 and 6, and a change of page 4 at the log's end that is not applied.
func threeChanged(t *testing.T) impl.Store {
	t.Helper()
	s := changedStore(t, 0, 1, 2, 0, 2, 1)
	return appendTo(t, s, changeAt(5, 7, 4, 3, "last"))
}

func TestLogIsSureAheadOfThePage(t *testing.T) {
	for hand, lsn := range []int{5, 7, 6} {
		for sure := range 9 {
			s := changed(flushTo(t, threeChanged(t), sure), func(s *impl.Store) { s.Hand = hand })
			f := s.Frames[hand]
			for name, out := range outs(s) {
				name = fmt.Sprintf("%s, frame %d, %d sure", name, hand, sure)
				next, alive, code := out()
				if !alive || code != impl.OK || !impl.StoreOK(next) {
					t.Fatalf("%s: %v, code %d", name, alive, code)
				}
				if want := max(sure, lsn); next.Sure != want {
					t.Errorf("%s: Sure is %d, want %d", name, next.Sure, want)
				}
				checkDiskPage(t, name, next.Disk, f.No, f.Page)
				checkLog(t, name, next.Disk, 1, s.Log[:max(sure, lsn)])
				if !slices.Equal(next.Disk.Cache, []impl.Pending{write(pageAt(f.No), bytesOfPage(f.No, f.Page))}) {
					t.Errorf("%s: not sure are %+v", name, next.Disk.Cache)
				}
				crashed, _ := impl.DiskCrash(next.Disk, nil)
				checkLog(t, name+", behind a crash", crashed, 1, s.Log[:max(sure, lsn)])
			}
		}
	}
}

// TestWhatGoesOut holds the whole of the store behind each way out against what the document says.
func TestWhatGoesOut(t *testing.T) {
	for hand := range impl.MaxFrames {
		s := changed(threeChanged(t), func(s *impl.Store) { s.Hand = hand })
		f := s.Frames[hand]
		checkOuts(t, fmt.Sprint("hand ", hand), s, changed(s, func(s *impl.Store) {
			s.Sure = f.Page.Lsn
			s.Disk.Sectors = logDisk(impl.DiskSectors, s.Log[:f.Page.Lsn]).Sectors
			s.Disk.Sectors[0] = header(1)
			s.Disk.Cache = []impl.Pending{write(pageAt(f.No), bytesOfPage(f.No, f.Page))}
		}))
	}
}

// checkOuts: out is the store with the frame at the hand put out, but for the frame itself and the hand.
func checkOuts(t *testing.T, name string, s, out impl.Store) {
	t.Helper()
	hand := s.Hand
	for of, want := range map[string]impl.Store{
		"FetchPage": changed(out, func(s *impl.Store) {
			s.Frames[hand], s.Hand = clean(4, page(0, "", "", "", "")), (hand+1)%3
		}),
		"ApplyChange": changed(out, func(s *impl.Store) {
			s.Frames[hand], s.Hand = dirty(4, page(8, "", "", "", "last"), 8), (hand+1)%3
		}),
		"EvictPage": changed(out, func(s *impl.Store) { s.Frames, s.Hand = slices.Delete(s.Frames, hand, hand+1), 0 }),
	} {
		next, alive, code := outs(s)[of]()
		if !alive || code != impl.OK || !impl.StoreOK(next) {
			t.Errorf("%s, %s: %v, code %d", name, of, alive, code)
		}
		checkStore(t, name+", "+of, next, want)
	}
}

func TestEvictTakesAnyFrame(t *testing.T) {
	for at := range impl.MaxFrames {
		for hand := range impl.MaxFrames {
			s := changed(flushTo(t, threeChanged(t), 8), func(s *impl.Store) { s.Hand = hand })
			f := s.Frames[at]
			next := evictFrom(t, s, f.No)
			checkStore(t, fmt.Sprintf("frame %d, hand %d", at, hand), next, changed(s, func(s *impl.Store) {
				s.Frames, s.Hand = slices.Delete(s.Frames, at, at+1), 0
				s.Disk.Cache = append(s.Disk.Cache, write(pageAt(f.No), bytesOfPage(f.No, f.Page)))
			}))
		}
	}
	s := threeChanged(t)
	for _, no := range []int{1, 0, 2} {
		s = evictFrom(t, s, no)
	}
	if len(s.Frames) != 0 || s.Hand != 0 || s.Sure != 7 {
		t.Errorf("all put out: %d frames, hand %d, Sure %d", len(s.Frames), s.Hand, s.Sure)
	}
	for no, lsn := range map[int]int{0: 5, 1: 7, 2: 6} {
		checkDiskPage(t, "all put out", s.Disk, no, page(lsn, "", fmt.Sprint("change ", lsn), "", ""))
	}
}

func TestCleanFramesAreNotWritten(t *testing.T) {
	s := someStore()
	for name, out := range outs(changed(s, func(s *impl.Store) {
		s.Log[7] = clr(4, 8, 1, 2, 1, "last")
		s.Log[7].Page = 4
		s.Disk.Armed = true
	})) {
		next, alive, code := out()
		if !alive || code != impl.OK || next.Sure != s.Sure || !next.Disk.Armed {
			t.Errorf("%s: %v, code %d, Sure %d, armed %v", name, alive, code, next.Sure, next.Disk.Armed)
		}
		if !slices.Equal(next.Disk.Sectors, s.Disk.Sectors) || !slices.Equal(next.Disk.Cache, s.Disk.Cache) {
			t.Errorf("%s: the disk is another one", name)
		}
		if slices.ContainsFunc(next.Frames, func(f impl.Frame) bool { return f.No == 0 }) {
			t.Errorf("%s: page 0 has a frame still", name)
		}
	}
}

func TestPowerGoesAtAFlush(t *testing.T) {
	for hand, lsn := range []int{5, 7, 6} {
		for sure := range lsn {
			for _, keep := range append(keepsOf(3), nil, []int{1, 1, 1, 1, 1, 1, 1, 1}, []int{0, -5, 0, 7}) {
				s := armed(changed(flushTo(t, threeChanged(t), sure), func(s *impl.Store) {
					s.Hand = hand
					s.Disk.Cache = []impl.Pending{write(pageAt(6), bytesOfPage(6, page(0, "w", "", "", "")))}
				}), keep...)
				checkPowerGone(t, fmt.Sprintf("hand %d, %d sure, keep %v", hand, sure, keep), s, lsn)
			}
		}
	}
}

// checkPowerGone: at a flush to lsn the disk is as behind its crash, with the records written ahead of it, and all else
// is as it was.
func checkPowerGone(t *testing.T, name string, s impl.Store, lsn int) {
	t.Helper()
	d := cloneDisk(s.Disk)
	for _, r := range s.Log[s.Sure:lsn] {
		d.Cache = append(d.Cache, write(impl.LogAt+r.Lsn-1, bytesOfRecord(r)))
	}
	want := changed(s, func(s *impl.Store) { s.Disk = afterCrash(d, d.Keep) })
	calls := outs(s)
	calls["FlushLog"] = func() (impl.Store, bool, int) { return impl.FlushLog(s, lsn) }
	for of, call := range calls {
		next, alive, code := call()
		if alive || code != impl.OK {
			t.Errorf("%s, %s: %v, code %d", name, of, alive, code)
		}
		checkStore(t, name+", "+of, next, want)
		if !impl.StoreOK(next) {
			t.Errorf("%s, %s: the store is not right", name, of)
		}
		if log, _ := impl.ReadLog(next.Disk, 1); len(log) < s.Sure || !slices.Equal(log, s.Log[:len(log)]) {
			t.Errorf("%s, %s: of %d sure records %d are read", name, of, s.Sure, len(log))
		}
	}
	_, p, _, _ := impl.FetchPage(s, 4)
	checkPage(t, name+", the page that is not fetched", p, impl.Page{})
}

func TestWhateverACrashKeepsWhatWasSureIsRead(t *testing.T) {
	s := flushTo(t, changedStore(t, 0, 1, 2, 3, 4, 0), 7)
	for len(s.Frames) > 0 {
		s = evictFrom(t, s, s.Frames[0].No)
	}
	s = appendTo(t, s, changeAt(5, 7, 2, 1, "more"), changeAt(5, 8, 2, 2, "most"))
	s = applyTo(t, s, 2, 3, 7)
	for len(s.Frames) > 0 {
		s = evictFrom(t, s, s.Frames[0].No)
	}
	if len(s.Disk.Cache) < 5 || s.Sure == len(s.Log) {
		t.Fatalf("%d writes are not sure", len(s.Disk.Cache))
	}
	for _, keep := range keepsOf(len(s.Disk.Cache)) {
		name := fmt.Sprint("keep ", keep)
		d, _ := impl.DiskCrash(s.Disk, keep)
		checkLog(t, name, d, 1, s.Log[:s.Sure])
		back := impl.Store{Disk: d, Epoch: 1, Log: s.Log[:s.Sure], Sure: s.Sure}
		if !impl.StoreOK(back) {
			t.Errorf("%s: no right store", name)
		}
		checkDisk(t, name, d, afterCrash(s.Disk, keep))
	}
}

// manyWrites has three dirty pages, and that many writes to sectors of the log, which a flush to 8 does not reach.
func manyWrites(t *testing.T, n, hand int) impl.Store {
	t.Helper()
	return changed(threeChanged(t), func(s *impl.Store) { s.Disk.Cache, s.Hand = writes(n, 20, 68), hand })
}

// flushed is what the document says of a flush: the records are on the disk, and no write is left that is not sure.
func flushed(s impl.Store, lsn int) impl.Store {
	return changed(s, func(s *impl.Store) {
		for _, w := range s.Disk.Cache {
			s.Disk.Sectors[w.At] = w.Data
		}
		for _, r := range s.Log[s.Sure:lsn] {
			s.Disk.Sectors[impl.LogAt+r.Lsn-1] = bytesOfRecord(r)
		}
		s.Disk.Cache, s.Sure = nil, lsn
	})
}

func TestFlushWithManyWrites(t *testing.T) {
	for n := 490; n <= 500; n++ {
		s := manyWrites(t, n, 0)
		for lsn := 1; lsn <= 8; lsn++ {
			name := fmt.Sprintf("%d writes, flushed to %d", n, lsn)
			next, alive, code := impl.FlushLog(s, lsn)
			if !alive || code != impl.OK || !impl.StoreOK(next) {
				t.Errorf("%s: %v, code %d", name, alive, code)
			}
			checkStore(t, name, next, flushed(s, lsn))
			checkLog(t, name, next.Disk, 1, s.Log[:lsn])
		}
		next, alive, code := impl.FlushLog(s, 0)
		if !alive || code != impl.OK {
			t.Errorf("%d writes, flushed to 0: %v, code %d", n, alive, code)
		}
		checkStore(t, fmt.Sprint(n, " writes, flushed to 0"), next, s)
	}
}

func TestPagesGoOutBehindManyWrites(t *testing.T) {
	for _, n := range []int{490, 494, 495, 496, 497, 498, 499, 500} {
		for hand, lsn := range []int{5, 7, 6} {
			s := manyWrites(t, n, hand)
			f := s.Frames[hand]
			out := changed(flushed(s, lsn), func(s *impl.Store) {
				s.Disk.Cache = []impl.Pending{write(pageAt(f.No), bytesOfPage(f.No, f.Page))}
			})
			checkOuts(t, fmt.Sprintf("%d writes, hand %d", n, hand), s, out)
		}
	}
}

func TestPowerGoesBehindManyWrites(t *testing.T) {
	all := slices.Repeat([]int{1}, 500)
	last := slices.Concat(make([]int, 497), []int{1, 1, 1})
	for _, n := range []int{492, 493, 494, 495, 498, 499, 500} {
		for hand, lsn := range []int{5, 7, 6} {
			for i, keep := range [][]int{nil, all, last, all[:n]} {
				name := fmt.Sprintf("%d writes, hand %d, keep %d", n, hand, i)
				checkPowerGone(t, name, armed(manyWrites(t, n, hand), keep...), lsn)
			}
		}
	}
}

// TestNoRoomForAPage: where nothing is to be flushed ahead of it, a page is one write more that is not sure; the document
// names no code of a disk that has 500 of these, so the disk's own is told.
func TestNoRoomForAPage(t *testing.T) {
	for hand := range impl.MaxFrames {
		for _, n := range []int{0, 498, 499} {
			s := changed(manyWrites(t, n, hand), func(s *impl.Store) { s.Sure = 8 })
			f := s.Frames[hand]
			checkOuts(t, fmt.Sprintf("%d writes, all sure, hand %d", n, hand), s, changed(s, func(s *impl.Store) {
				s.Disk.Cache = append(s.Disk.Cache, write(pageAt(f.No), bytesOfPage(f.No, f.Page)))
			}))
		}
		s := changed(manyWrites(t, 500, hand), func(s *impl.Store) { s.Sure = 8 })
		for name, out := range outs(s) {
			next, alive, code := out()
			if alive || code != impl.ErrFull {
				t.Errorf("500 writes, %s, hand %d: %v, code %d", name, hand, alive, code)
			}
			checkStore(t, "500 writes, "+name, next, s)
		}
	}
}
