package tests

import (
	"fmt"
	"slices"
	"testing"

	"loop.example/g00332/impl"
)

// framed is a store of a full log, of which all is sure, with one frame; the disk has the page so, if it has one at all.
func framed(f impl.Frame, disk string) impl.Store {
	return changed(fullStore(), func(s *impl.Store) {
		s.Sure, s.Frames = impl.MaxLog, []impl.Frame{f}
		s.Disk.Sectors[pageAt(f.No)] = disk
	})
}

// TestDirtyFrames: First is at most the page's Lsn, and above the Lsn on the disk; whatever the records are.
func TestDirtyFrames(t *testing.T) {
	for lsn := range impl.MaxLog + 1 {
		for first := 1; first <= impl.MaxLog; first += 1 + first/7 {
			for onDisk := 0; onDisk <= impl.MaxLog; onDisk += 1 + onDisk/7 {
				s := framed(dirty(6, page(lsn, "a", "", "", "b"), first), bytesOfPage(6, page(onDisk, "a", "", "c", "b")))
				checkPagesBehind(t, fmt.Sprintf("lsn %d, First %d, %d on the disk", lsn, first, onDisk), s, first <= lsn && onDisk < first)
			}
		}
	}
	for name, x := range map[string]struct {
		lsn, first, disk int
		want             bool
	}{
		"the first change":                {5, 5, 0, true},
		"changed behind First":            {9, 5, 4, true},
		"Lsn below First":                 {4, 5, 3, false},
		"Lsn at First":                    {5, 5, 3, true},
		"Lsn above First":                 {6, 5, 3, true},
		"the disk just below First":       {6, 5, 4, true},
		"the disk at First":               {6, 5, 5, false},
		"the disk above First":            {7, 5, 6, false},
		"the disk at the page's Lsn":      {6, 5, 6, false},
		"the disk above the page's Lsn":   {6, 5, 7, false},
		"all three alike":                 {5, 5, 5, false},
		"First 1, the disk as new":        {1, 1, 0, true},
		"an Lsn of 0":                     {0, 1, 0, false},
		"MaxLog":                          {60, 60, 59, true},
		"MaxLog on the disk":              {60, 60, 60, false},
		"First 1 and MaxLog, disk as new": {60, 1, 0, true},
	} {
		checkPagesBehind(t, name, framed(dirty(0, page(x.lsn, "a", "", "", ""), x.first), bytesOfPage(0, page(x.disk, "", "", "", ""))), x.want)
		if x.disk == 0 {
			checkPagesBehind(t, name+", no sector", framed(dirty(7, page(x.lsn, "a", "", "", ""), x.first), ""), x.want)
		}
	}
	same := page(5, "a", "", "", "")
	checkPagesBehind(t, "dirty, and as on the disk", framed(dirty(3, same, 5), bytesOfPage(3, same)), false)
	checkPagesBehind(t, "dirty, the same records", framed(dirty(3, same, 5), bytesOfPage(3, page(4, "a", "", "", ""))), true)
}

// TestFramesThatAreNotDirty: they are as on the disk, in their Lsn and in each of their records.
func TestFramesThatAreNotDirty(t *testing.T) {
	base := page(9, "a", "", "c", filled(impl.MaxRecord))
	for no := range impl.MaxPages {
		checkPagesBehind(t, fmt.Sprint("page ", no), framed(clean(no, base), bytesOfPage(no, base)), true)
		checkPagesBehind(t, fmt.Sprint("page ", no, " as new"), framed(clean(no, page(0, "", "", "", "")), ""), true)
		checkPagesBehind(t, fmt.Sprint("page ", no, " as new, written so"), framed(clean(no, page(0, "", "", "", "")), bytesOfPage(no, page(0, "", "", "", ""))), true)
		checkPagesBehind(t, fmt.Sprint("page ", no, ", the disk as new"), framed(clean(no, base), ""), false)
		checkPagesBehind(t, fmt.Sprint("page ", no, " as new, the disk not"), framed(clean(no, page(0, "", "", "", "")), bytesOfPage(no, base)), false)
	}
	for lsn := range impl.MaxLog + 1 {
		other := page(lsn, base.Slots...)
		checkPagesBehind(t, fmt.Sprint("Lsn ", lsn), framed(clean(2, other), bytesOfPage(2, base)), lsn == 9)
		checkPagesBehind(t, fmt.Sprint("Lsn ", lsn, " on the disk"), framed(clean(2, base), bytesOfPage(2, other)), lsn == 9)
	}
	for slot := range impl.MaxSlots {
		for _, record := range []string{"", "a", "b", "c", "A", "a\x00", filled(29), filled(impl.MaxRecord)} {
			other := page(9, slices.Clone(base.Slots)...)
			other.Slots[slot] = record
			checkPagesBehind(t, fmt.Sprintf("slot %d is %q", slot, record), framed(clean(2, other), bytesOfPage(2, base)), record == base.Slots[slot])
			checkPagesBehind(t, fmt.Sprintf("slot %d on the disk is %q", slot, record), framed(clean(2, base), bytesOfPage(2, other)), record == base.Slots[slot])
		}
	}
	checkPagesBehind(t, "other slots", framed(clean(1, page(9, "a", "", "", "")), bytesOfPage(1, page(9, "", "a", "", ""))), false)
	checkPagesBehind(t, "as another page", changed(framed(clean(1, base), ""), func(s *impl.Store) { s.Disk.Sectors[pageAt(2)] = bytesOfPage(2, base) }), false)
}

// TestFramesAndTheLastWrite: as on the disk is as it is read: the last write of the page counts, sure or not.
func TestFramesAndTheLastWrite(t *testing.T) {
	old, now := page(3, "a", "", "", ""), page(8, "b", "", "", "")
	written := func(f impl.Frame, sure string, list ...string) impl.Store {
		return changed(framed(f, sure), func(s *impl.Store) {
			for _, b := range list {
				s.Disk.Cache = append(s.Disk.Cache, write(pageAt(f.No), b), write(pageAt(7), bytesOfPage(7, page(1, "x", "", "", ""))))
			}
		})
	}
	oldBytes, nowBytes := bytesOfPage(4, old), bytesOfPage(4, now)
	for name, x := range map[string]struct {
		s    impl.Store
		want bool
	}{
		"written":                        {written(clean(4, now), oldBytes, nowBytes), true},
		"written, the frame is old":      {written(clean(4, old), oldBytes, nowBytes), false},
		"written twice":                  {written(clean(4, now), "", oldBytes, nowBytes), true},
		"written twice, the first":       {written(clean(4, old), "", oldBytes, nowBytes), false},
		"written as empty":               {written(clean(4, now), nowBytes, ""), false},
		"written as empty, as new":       {written(clean(4, page(0, "", "", "", "")), nowBytes, ""), true},
		"dirty, written below First":     {written(dirty(4, page(9, "c", "", "", ""), 9), oldBytes, nowBytes), true},
		"dirty, written at First":        {written(dirty(4, page(9, "c", "", "", ""), 8), oldBytes, nowBytes), false},
		"dirty, sure at First":           {written(dirty(4, page(9, "c", "", "", ""), 8), nowBytes, oldBytes), true},
		"dirty, sure at First, as empty": {written(dirty(4, page(9, "c", "", "", ""), 1), nowBytes, ""), true},
	} {
		checkPagesBehind(t, name, x.s, x.want)
	}
}

// TestEachFrameCounts: of 0 to MaxFrames frames, in all orders; one that is not right by this is enough.
func TestEachFrameCounts(t *testing.T) {
	checkPagesBehind(t, "a new store", impl.NewStore(), true)
	checkPagesBehind(t, "no frames", changed(fullStore(), func(s *impl.Store) { s.Frames = nil }), true)
	for n := range impl.MaxFrames + 1 {
		checkPagesBehind(t, fmt.Sprint(n, " frames as new"), changed(fullStore(), func(s *impl.Store) { s.Frames = framesOf(n) }), true)
	}
	kinds := map[string]struct {
		frame func(no int) impl.Frame
		want  bool
	}{
		"as on the disk":     {func(no int) impl.Frame { return clean(no, page(5, "a", "", "", "")) }, true},
		"another record":     {func(no int) impl.Frame { return clean(no, page(5, "b", "", "", "")) }, false},
		"another Lsn":        {func(no int) impl.Frame { return clean(no, page(6, "a", "", "", "")) }, false},
		"dirty":              {func(no int) impl.Frame { return dirty(no, page(7, "b", "", "", ""), 6) }, true},
		"dirty, First above": {func(no int) impl.Frame { return dirty(no, page(7, "b", "", "", ""), 8) }, false},
		"dirty, First below": {func(no int) impl.Frame { return dirty(no, page(7, "b", "", "", ""), 5) }, false},
	}
	for a, first := range kinds {
		for b, second := range kinds {
			for c, third := range kinds {
				s := changed(fullStore(), func(s *impl.Store) {
					s.Sure, s.Frames = impl.MaxLog, []impl.Frame{first.frame(6), second.frame(0), third.frame(3)}
					for _, f := range s.Frames {
						s.Disk.Sectors[pageAt(f.No)] = bytesOfPage(f.No, page(5, "a", "", "", ""))
					}
				})
				for n, want := range []bool{true, first.want, first.want && second.want, first.want && second.want && third.want} {
					checkPagesBehind(t, fmt.Sprintf("%s, %s, %s: the first %d", a, b, c, n), changed(s, func(s *impl.Store) { s.Frames = s.Frames[:n] }), want)
				}
			}
		}
	}
}

// TestPagesOfRightStores: also of those that no pool leads to.
func TestPagesOfRightStores(t *testing.T) {
	met := map[bool]int{}
	for name, s := range rightStores() {
		want := plainPagesBehind(s)
		checkPagesBehind(t, name, s, want)
		met[want]++
	}
	checkPagesBehind(t, "some store", someStore(), true)
	if met[true] < 5 || met[false] < 5 {
		t.Errorf("behind and not: %v", met)
	}
}

// TestPagesOfAPool: as pages are fetched, changed, put out and fetched again, each frame is by the log.
func TestPagesOfAPool(t *testing.T) {
	s := threeChanged(t)
	checkPagesBehind(t, "three are dirty", s, true)
	for _, no := range []int{0, 1, 2, 3, 0, 4, 2} {
		s, _ = fetchFrom(t, s, no)
		checkPagesBehind(t, fmt.Sprint(no, " is fetched"), s, true)
	}
	s = applyTo(t, s, 8)
	checkPagesBehind(t, "one is changed", s, true)
	s = evictFrom(t, s, 4)
	s, _ = fetchFrom(t, s, 4)
	checkPagesBehind(t, "put out and fetched", s, true)
	// A disk that crashes below the frames has lost what was written: the frame is not as on the disk any more.
	crashed := changed(s, func(s *impl.Store) { s.Disk, _ = impl.DiskCrash(s.Disk, nil) })
	checkPagesBehind(t, "the write of page 4 is lost", crashed, false)
	kept := changed(s, func(s *impl.Store) { s.Disk, _ = impl.DiskCrash(s.Disk, slices.Repeat([]int{1}, 99)) })
	checkPagesBehind(t, "all writes are kept", kept, true)
	// Done again in a frame that has it, a change makes this dirty with a First that the disk has already.
	checkPagesBehind(t, "a change is applied again", applyTo(t, s, 8), false)
}

// TestPagesOfAPowerThatWent: a pool whose power goes in a flush keeps its frames, and the disk has lost a page's write.
func TestPagesOfAPowerThatWent(t *testing.T) {
	s := evictFrom(t, changedStore(t, 1), 1)
	s, _ = fetchFrom(t, s, 1)
	s = appendTo(t, s, impl.LogRecord{Tx: 6, Kind: impl.LoBegin})
	for keep, want := range map[int]bool{0: false, 1: true} {
		gone, alive, code := impl.FlushLog(armed(s, keep), 3)
		if alive || code != impl.OK {
			t.Fatalf("FlushLog: %v, code %d", alive, code)
		}
		checkPagesBehind(t, fmt.Sprint("the power went, kept ", keep), gone, want)
	}
}

func TestPagesBehindCodes(t *testing.T) {
	for name, s := range wrongStores() {
		behind, code := impl.PagesBehind(s)
		checkNotAsked(t, "PagesBehind of "+name, behind, code, impl.ErrBad)
	}
	s := changed(fullStore(), func(s *impl.Store) { s.Frames = framesOf(impl.MaxFrames + 1) })
	behind, code := impl.PagesBehind(s)
	checkNotAsked(t, "MaxFrames + 1 frames", behind, code, impl.ErrBad)
	s = framed(clean(0, page(61, "", "", "", "")), "")
	behind, code = impl.PagesBehind(s)
	checkNotAsked(t, "an Lsn beyond the log", behind, code, impl.ErrBad)
	checkPagesBehind(t, "a log of MaxLog", fullStore(), true)
	behind, code = impl.PagesBehind(changed(fullStore(), func(s *impl.Store) { s.Log = append(s.Log, begin(60, 61, 1)) }))
	checkNotAsked(t, "a log of MaxLog + 1", behind, code, impl.ErrBad)
}
