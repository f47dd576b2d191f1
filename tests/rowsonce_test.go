package tests

import (
	"fmt"
	"slices"
	"testing"

	"loop.example/g00332/impl"
)

// kindsOfPlaces are where a record can stand: sure on the disk, written to it, in a frame that is not dirty and in one
// that is.
var kindsOfPlaces = []string{"sure", "written", "in a frame", "in a dirty frame"}

// stand puts a record into a slot of an engine whose log has some records, by the kind of place. What else the page has
// stays; a frame hides what the disk has.
func stand(e *impl.Engine, kind string, no, slot int, record string) {
	s := &e.Store
	p := pageStanding(*s, no)
	p.Slots = slices.Clone(p.Slots)
	p.Slots[slot] = record
	isOfIt := func(f impl.Frame) bool { return f.No == no }
	switch kind {
	case "sure":
		s.Disk.Sectors[pageAt(no)] = bytesOfPage(no, p)
	case "written":
		s.Disk.Cache = append(s.Disk.Cache, write(pageAt(no), bytesOfPage(no, p)))
	case "in a frame":
		s.Frames = append(slices.DeleteFunc(s.Frames, isOfIt), clean(no, p))
	case "in a dirty frame":
		s.Frames = append(slices.DeleteFunc(s.Frames, isOfIt), dirty(no, p, 1))
	}
}

// standingAt is an engine with two records.
func standingAt(t *testing.T, kinds [2]string, places [2]int, records [2]string) impl.Engine {
	t.Helper()
	e := filledUp(impl.NewEngine(), 3)
	for i := range kinds {
		stand(&e, kinds[i], places[i]/4, places[i]%4, records[i])
	}
	if !impl.EngineOK(e) {
		t.Fatalf("%v at %v: the engine is not right", kinds, places)
	}
	return e
}

// TestAnIdThatStandsTwice: in one page, in two pages; on the disk, in a frame, in both. It is the Id that counts, and
// each table has its own.
func TestAnIdThatStandsTwice(t *testing.T) {
	t.Parallel()
	one, other := bytesOfRow(2, row(7, 1)), bytesOfRow(2, row(7, 2))
	for _, places := range [][2]int{{0, 1}, {1, 0}, {0, 3}, {2, 3}, {30, 31}, {28, 31}, {0, 4}, {3, 4}, {5, 17}, {17, 5}, {0, 31}, {31, 0}, {27, 28}, {12, 24}} {
		for _, first := range kindsOfPlaces {
			for _, second := range kindsOfPlaces {
				kinds := [2]string{first, second}
				// What is put on the disk behind a frame of the page is hidden by that.
				isHidden := places[0]/4 == places[1]/4 && slices.Index(kindsOfPlaces, second) < 2 && slices.Index(kindsOfPlaces, first) >= 2
				// What is sure behind a write of the page does not count either.
				isHidden = isHidden || places[0]/4 == places[1]/4 && first == "written" && second == "sure"
				for name, x := range map[string]struct {
					records [2]string
					once    bool
				}{
					"the same row":                {[2]string{one, one}, false},
					"the same Id, another value":  {[2]string{one, other}, false},
					"the same Id, of nothing":     {[2]string{one, bytesOfRow(2, impl.Row{Id: 7})}, false},
					"another Id":                  {[2]string{one, bytesOfRow(2, row(8, 1))}, true},
					"the same Id, another table":  {[2]string{one, bytesOfRow(1, row(7, 1))}, true},
					"the same Id, a third table":  {[2]string{bytesOfRow(3, row(7, 1)), bytesOfRow(1, row(7, 1))}, true},
					"one is nobody's":             {[2]string{one, one + "\x00"}, true},
					"both are nobody's":           {[2]string{"x", "x"}, true},
					"both of no table":            {[2]string{bytesOfRow(0, row(7, 1)), bytesOfRow(0, row(7, 1))}, true},
					"one and nothing":             {[2]string{one, ""}, true},
					"Id 0":                        {[2]string{bytesOfRow(1, row(0, 0)), bytesOfRow(1, row(0, 0))}, false},
					"Id 1000":                     {[2]string{bytesOfRow(3, row(1000, 0)), bytesOfRow(3, row(1000, 1))}, false},
					"Ids 0 and 1000":              {[2]string{bytesOfRow(3, row(0, 0)), bytesOfRow(3, row(1000, 1))}, true},
					"table and Id round":          {[2]string{bytesOfRow(1, row(2, 0)), bytesOfRow(2, row(1, 0))}, true},
					"the same name, not the Id":   {[2]string{bytesOfRow(1, named(1, 1, "a")), bytesOfRow(1, named(2, 1, "a"))}, true},
					"the same Id, another name":   {[2]string{bytesOfRow(1, named(1, 1, "a")), bytesOfRow(1, named(1, 1, "b"))}, false},
					"the N of one is other's Id":  {[2]string{bytesOfRow(1, row(5, 6)), bytesOfRow(1, row(6, 5))}, true},
					"one and no row of a long Id": {[2]string{bytesOfRow(1, row(1, 1)), keyOf(number(1), number(1001), none, none)}, true},
				} {
					e := standingAt(t, kinds, places, x.records)
					checkRowsOnce(t, fmt.Sprintf("%s, %v at %v", name, kinds, places), e, x.once || isHidden)
				}
			}
		}
	}
}

// TestEachPairOfPlaces: of all 32 slots.
func TestEachPairOfPlaces(t *testing.T) {
	one, two := bytesOfRow(1, row(3, 3)), bytesOfRow(1, row(4, 4))
	for a := range 32 {
		for b := range a {
			kinds := [2]string{kindsOfPlaces[(a+b)%2], kindsOfPlaces[2+a%2]}
			if a/4 == b/4 {
				kinds[1] = kinds[0]
			}
			checkRowsOnce(t, fmt.Sprint(a, " and ", b), standingAt(t, kinds, [2]int{a, b}, [2]string{one, one}), false)
			checkRowsOnce(t, fmt.Sprint(a, " and ", b, ", other rows"), standingAt(t, kinds, [2]int{a, b}, [2]string{one, two}), true)
		}
	}
}

// TestAFrameThatDiffersFromTheDisk: a page that has a frame is told by it alone, be it dirty or not.
func TestAFrameThatDiffersFromTheDisk(t *testing.T) {
	one, two, other := bytesOfRow(1, row(1, 1)), bytesOfRow(1, row(2, 2)), bytesOfRow(1, row(1, 9))
	for _, is := range []bool{false, true} {
		frame := func(no int, slots ...string) impl.Frame {
			return impl.Frame{No: no, Page: page(1, slots...), Dirty: is, First: pick(is, 1, 0)}
		}
		for name, x := range map[string]struct {
			disk   map[int][]string
			frames []impl.Frame
			once   bool
		}{
			"twice on the disk, once in the frame":      {map[int][]string{3: {one, other, "", ""}}, []impl.Frame{frame(3, one, "", "", "")}, true},
			"twice on the disk, nothing in the frame":   {map[int][]string{3: {one, one, one, one}}, []impl.Frame{frame(3, "", "", "", "")}, true},
			"once on the disk, twice in the frame":      {map[int][]string{3: {one, "", "", ""}}, []impl.Frame{frame(3, one, "", "", other)}, false},
			"nothing on the disk, twice in the frame":   {nil, []impl.Frame{frame(0, "", one, one, "")}, false},
			"it moved from the frame's page to another": {map[int][]string{3: {one, "", "", ""}, 5: {one, "", "", ""}}, []impl.Frame{frame(3, "", two, "", "")}, true},
			"it moved, and both pages have frames":      {map[int][]string{3: {one, "", "", ""}, 5: {two, "", "", ""}}, []impl.Frame{frame(5, one, "", "", ""), frame(3, two, "", "", "")}, true},
			"it moved, the old frame has it still":      {map[int][]string{3: {"", "", "", ""}, 5: {one, "", "", ""}}, []impl.Frame{frame(3, one, "", "", "")}, false},
			"of a frame and of the disk":                {map[int][]string{7: {"", "", "", one}}, []impl.Frame{frame(0, other, "", "", "")}, false},
			"of two frames":                             {nil, []impl.Frame{frame(0, other, "", "", ""), frame(6, "", "", one, "")}, false},
			"of the first and the third frame":          {nil, []impl.Frame{frame(4, one, "", "", ""), frame(0, two, "", "", ""), frame(1, "", one, "", "")}, false},
			"three frames of other rows":                {map[int][]string{4: {two, two, two, two}}, []impl.Frame{frame(4, one, "", "", ""), frame(0, two, "", "", ""), frame(1, "x", "x", "", "")}, true},
		} {
			e := filledUp(impl.NewEngine(), 2)
			for no, slots := range x.disk {
				e.Store.Disk.Sectors[pageAt(no)] = bytesOfPage(no, page(0, slots...))
			}
			e.Store.Frames = x.frames
			checkRowsOnce(t, fmt.Sprintf("%s, dirty %v", name, is), e, x.once)
		}
	}
}

// TestTheLastWriteOfAPageCounts: not one ahead of it, and not what is sure.
func TestTheLastWriteOfAPageCounts(t *testing.T) {
	one := bytesOfRow(1, row(1, 1))
	both, none := bytesOfPage(2, page(0, one, one, "", "")), bytesOfPage(2, page(0, "", one, "", ""))
	for name, x := range map[string]struct {
		sure   string
		writes []string
		once   bool
	}{
		"sure":                {both, nil, false},
		"written once":        {both, []string{none}, true},
		"written twice":       {none, []string{both, none}, true},
		"written once, both":  {none, []string{both}, false},
		"written twice, both": {none, []string{none, both}, false},
		"written as empty":    {both, []string{""}, true},
	} {
		e := impl.NewEngine()
		e.Store.Disk.Sectors[pageAt(2)] = x.sure
		for _, b := range x.writes {
			e.Store.Disk.Cache = append(e.Store.Disk.Cache, write(pageAt(2), b))
		}
		checkRowsOnce(t, name, e, x.once)
	}
}

// TestRowsOnceOfAFullDatabase: 32 rows; one more time one of them takes the place of another.
func TestRowsOnceOfAFullDatabase(t *testing.T) {
	full := filledUp(stocked(t, 32).e, 1)
	checkRowsOnce(t, "32 rows", full, true)
	for place := range 32 {
		for _, kind := range kindsOfPlaces {
			e := cloneEngine(full)
			stand(&e, kind, place/4, place%4, bytesOfRow(3, row((place+1)%32, 5)))
			checkRowsOnce(t, fmt.Sprint("32 rows, slot ", place, ", ", kind), e, false)
		}
	}
}

// TestRowsOnceOfEngines: of those that began new, and of others, that are up and that are not.
func TestRowsOnceOfEngines(t *testing.T) {
	for name, e := range manyEngines(t) {
		checkRowsOnce(t, name, e, name != "a row twice")
	}
	d := twice(t)
	tx := d.begin()
	d.drop(tx, 1, 5)
	checkRowsOnce(t, "one of three is dropped", d.e, false)
	d.drop(tx, 1, 5)
	checkRowsOnce(t, "two of three are dropped", d.e, true)
	d.rollback(tx, d.last(tx)-1)
	checkRowsOnce(t, "one came back", d.e, false)
	d.crash()
	checkRowsOnce(t, "down", d.e, false)
	d.restart()
	checkRowsOnce(t, "up again", d.e, false)
}

// TestRowsOnceCodes: an engine that is not right is none that is asked, whether a row stands twice or not.
func TestRowsOnceCodes(t *testing.T) {
	for name, e := range wrongEngines() {
		once, code := impl.RowsOnce(e)
		checkNotAsked(t, "RowsOnce of "+name, once, code, impl.ErrBad)
	}
	once, code := impl.RowsOnce(spoiltEngine(twice(t).e))
	checkNotAsked(t, "RowsOnce of a wrong one with a row twice", once, code, impl.ErrBad)
	full := filledUp(impl.NewEngine(), impl.MaxLog)
	checkRowsOnce(t, "a log of MaxLog", full, true)
	once, code = impl.RowsOnce(filledUp(impl.NewEngine(), impl.MaxLog+1))
	checkNotAsked(t, "RowsOnce of a log of MaxLog + 1", once, code, impl.ErrBad)
	frames := engineWith(impl.NewEngine(), func(e *impl.Engine) { e.Store.Frames = framesOf(impl.MaxFrames) })
	checkRowsOnce(t, "MaxFrames frames", frames, true)
	frames.Store.Frames = framesOf(impl.MaxFrames + 1)
	once, code = impl.RowsOnce(frames)
	checkNotAsked(t, "RowsOnce of one frame more", once, code, impl.ErrBad)
}
