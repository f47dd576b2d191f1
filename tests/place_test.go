package tests

import (
	"fmt"
	"slices"
	"testing"

	"loop.example/g00332/impl"
)

// lastPlace is the page and slot of the log's last record.
func (d *doer) lastPlace() [2]int {
	r := d.e.Store.Log[len(d.e.Store.Log)-1]
	return [2]int{r.Page, r.Slot}
}

func (d *doer) wantPlace(name string, page, slot int) {
	d.t.Helper()
	if d.lastPlace() != [2]int{page, slot} {
		d.t.Errorf("%s: at %v, want page %d, slot %d", name, d.lastPlace(), page, slot)
	}
}

// stocked has n rows of table 3, Ids from 0 on, which are committed, in the first n slots.
func stocked(t *testing.T, n int) *doer {
	t.Helper()
	e := impl.NewEngine()
	for no := range impl.MaxPages {
		p := page(0, "", "", "", "")
		for slot := range impl.MaxSlots {
			if id := no*impl.MaxSlots + slot; id < n {
				p.Slots[slot] = bytesOfRow(3, row(id, id))
			}
		}
		e.Store.Disk.Sectors[pageAt(no)] = bytesOfPage(no, p)
	}
	return &doer{t, e}
}

func TestNewRowsTakeTheFirstSlots(t *testing.T) {
	for n := range 32 {
		d := stocked(t, n)
		tx := d.begin()
		d.put(tx, 1, row(5, 5))
		d.wantPlace(fmt.Sprint(n, " rows"), n/4, n%4)
		d.get(tx, 1, row(5, 5))
		d.drop(tx, 1, 5)
		d.wantPlace(fmt.Sprint(n, " rows"), n/4, n%4)
	}
	for gap := range 32 {
		d := stocked(t, 32)
		tx := d.begin()
		d.putCode(tx, 1, row(5, 5), impl.ErrOver)
		d.drop(tx, 3, gap)
		d.wantPlace(fmt.Sprint("a gap at ", gap), gap/4, gap%4)
		d.put(tx, 1, row(5, 5))
		d.wantPlace(fmt.Sprint("a gap at ", gap), gap/4, gap%4)
		d.putCode(tx, 1, row(6, 6), impl.ErrOver)
	}
}

func TestARowIsChangedInItsPlace(t *testing.T) {
	for id := range 32 {
		d := stocked(t, 32)
		tx := d.begin()
		d.put(tx, 3, row(id, 100))
		d.wantPlace(fmt.Sprint("row ", id), id/4, id%4)
		d.get(tx, 3, row(id, 100))
		if r := d.e.Store.Log[1]; r.Before != bytesOfRow(3, row(id, id)) || r.After != bytesOfRow(3, row(id, 100)) {
			t.Errorf("row %d: %+v", id, r)
		}
	}
}

func TestASlotEmptiedByOneThatIsOpen(t *testing.T) {
	d := stocked(t, 5)
	one, two := d.begin(), d.begin()
	d.drop(one, 3, 1)
	d.put(two, 1, row(7, 7))
	d.wantPlace("another one", 1, 1)
	d.put(one, 2, row(8, 8))
	d.wantPlace("the one itself", 0, 1)
	d.drop(one, 2, 8)
	d.put(two, 1, row(9, 9))
	d.wantPlace("another one again", 1, 2)
	d.abort(one)
	d.put(two, 1, row(10, 10))
	d.wantPlace("with the row back", 1, 3)
	d.scan(two, 3, row(0, 0), row(1, 1), row(2, 2), row(3, 3), row(4, 4))
}

func TestASlotEmptiedByOneThatIsOver(t *testing.T) {
	d := stocked(t, 5)
	one, two := d.begin(), d.begin()
	d.drop(one, 3, 1)
	d.commit(one)
	d.put(two, 1, row(7, 7))
	d.wantPlace("dropped and committed", 0, 1)
	three := d.begin()
	d.put(three, 2, row(8, 8))
	d.wantPlace("behind all", 1, 1)
	d.abort(three)
	d.put(two, 1, row(9, 9))
	d.wantPlace("put and aborted", 1, 1)
}

// TestASlotOfWhatWasPutAndDropped is empty, but kept: to undo what was done there puts records into it.
func TestASlotOfWhatWasPutAndDropped(t *testing.T) {
	d := stocked(t, 2)
	one, two := d.begin(), d.begin()
	d.put(one, 1, row(1, 1))
	d.drop(one, 1, 1)
	d.put(two, 2, row(2, 2))
	d.wantPlace("kept by its updates", 0, 3)
	d.rollback(one, 3)
	d.wantPlace("back", 0, 2)
	d.get(one, 1, row(1, 1))
	d.put(two, 2, row(3, 3))
	d.wantPlace("there is a record", 1, 0)
	d.rollback(one, 1)
	d.put(two, 2, row(4, 4))
	d.wantPlace("back behind it", 0, 2)
	d.abort(one)
	d.scan(two, 1)
	d.scan(two, 2, row(2, 2), row(3, 3), row(4, 4))
}

func TestASlotEmptiedByOneThatWentBack(t *testing.T) {
	d := stocked(t, 3)
	one, two := d.begin(), d.begin()
	d.drop(one, 3, 0)
	place := d.last(one)
	d.drop(one, 3, 1)
	d.drop(one, 3, 2)
	d.rollback(one, place)
	d.put(two, 1, row(1, 1))
	d.wantPlace("0 is kept, 1 and 2 are back", 0, 3)
	d.drop(one, 3, 2)
	d.put(two, 1, row(2, 2))
	d.wantPlace("0 and 2 are kept", 1, 0)
	d.commit(one)
	d.put(two, 1, row(3, 3), row(4, 4))
	d.wantPlace("0 and 2 are free", 0, 2)
	d.scan(two, 3, row(1, 1))
}

// TestNoSlotIsLeft: there are empty ones, but all of them are kept by others.
func TestNoSlotIsLeft(t *testing.T) {
	d := stocked(t, 32)
	one, two, three := d.begin(), d.begin(), d.begin()
	d.drop(one, 3, 4)
	d.drop(two, 3, 31)
	d.putCode(three, 1, row(1, 1), impl.ErrOver)
	if got := d.last(three); got != 3 {
		t.Errorf("a record is added: %d", got)
	}
	d.put(two, 1, row(2, 2))
	d.wantPlace("two", 7, 3)
	d.putCode(two, 1, row(3, 3), impl.ErrOver)
	d.put(one, 1, row(4, 4))
	d.wantPlace("one", 1, 0)
	d.drop(one, 1, 4)
	d.commit(one)
	d.put(three, 1, row(1, 1))
	d.wantPlace("three", 1, 0)
	d.abort(three)
	d.abort(two)
	d.seen(3, append(rowsOf(0, 4), rowsOf(5, 32)...)...)
}

func rowsOf(from, to int) []impl.Row {
	var list []impl.Row
	for id := from; id < to; id++ {
		list = append(list, row(id, id))
	}
	return list
}

// twice has row 5 of table 1 three times, and rows that differ in table or Id ahead of them.
func twice(t *testing.T) *doer {
	t.Helper()
	d := &doer{t, impl.NewEngine()}
	sectors := d.e.Store.Disk.Sectors
	sectors[pageAt(1)] = bytesOfPage(1, page(0, bytesOfRow(2, row(5, 70)), bytesOfRow(1, row(6, 60)), "", ""))
	sectors[pageAt(4)] = bytesOfPage(4, page(0, "", "", bytesOfRow(1, row(5, 3)), bytesOfRow(1, row(5, 2))))
	sectors[pageAt(6)] = bytesOfPage(6, page(0, bytesOfRow(1, row(5, 1)), "", "", ""))
	return d
}

func TestARowThatStandsTwice(t *testing.T) {
	d := twice(t)
	tx := d.begin()
	for _, n := range []int{3, 2, 1} {
		d.get(tx, 1, row(5, n))
		d.scan(tx, 1, row(5, n), row(6, 60))
		was := d.e
		d.put(tx, 1, row(5, n+10))
		d.get(tx, 1, row(5, n+10))
		d.scan(tx, 1, row(5, n+10), row(6, 60))
		d.e = was
		d.drop(tx, 1, 5)
	}
	d.getCode(tx, 1, 5, impl.ErrNone)
	d.scan(tx, 1, row(6, 60))
	d.scan(tx, 2, row(5, 70))
	var places [][2]int
	for _, r := range d.e.Store.Log[1:] {
		places = append(places, [2]int{r.Page, r.Slot})
	}
	if !slices.Equal(places, [][2]int{{4, 2}, {4, 3}, {6, 0}}) {
		t.Errorf("dropped at %v", places)
	}
	d.abort(tx)
	d.seen(1, row(5, 3), row(6, 60))
}

// TestRecordsThatAreNoRows are nobody's, but their slots are not free.
func TestRecordsThatAreNoRows(t *testing.T) {
	d := newDoer(t)
	d.e.Store.Disk.Sectors[pageAt(0)] = bytesOfPage(0, page(0, "x", keyOf(number(1), number(5)), bytesOfRow(0, row(5, 5)), bytesOfRow(1, row(1001, 5))))
	d.e.Store.Disk.Sectors[pageAt(1)] = bytesOfPage(1, page(0, bytesOfRow(4, row(5, 5)), "\x00", bytesOfRow(1, row(5, 5))+"\x00", ""))
	tx := d.begin()
	for table := 1; table <= impl.MaxTables; table++ {
		d.scan(tx, table)
		d.getCode(tx, table, 5, impl.ErrNone)
		d.dropCode(tx, table, 5, impl.ErrNone)
	}
	d.put(tx, 1, row(5, 6))
	d.wantPlace("the first free one", 1, 3)
	d.scan(tx, 1, row(5, 6))
}

// framesNow are the pages of the frames, and the hand.
func framesNow(e impl.Engine) [4]int {
	got := [4]int{-1, -1, -1, e.Store.Hand}
	for i, f := range e.Store.Frames {
		got[i] = f.No
	}
	return got
}

// TestPagesAreFetchedInTheirOrder: all eight, whatever is found; then the row's, or, where it is changed, its slot's.
func TestPagesAreFetchedInTheirOrder(t *testing.T) {
	all := [4]int{6, 7, 5, 2}
	wantFrames := func(name string, e impl.Engine, want [4]int) {
		t.Helper()
		if framesNow(e) != want {
			t.Errorf("%s: frames and hand %v, want %v", name, framesNow(e), want)
		}
	}
	for id, page := range map[int]int{0: 0, 3: 0, 4: 1, 11: 2, 16: 4, 29: 7} {
		d := stocked(t, 32)
		tx := d.begin()
		then := [4]int{6, 7, page, 0}
		if page >= 5 {
			then = all
		}
		for name, x := range map[string]struct {
			code int
			want [4]int
			call func() (impl.Engine, int)
		}{
			"ScanRows": {impl.OK, all, func() (impl.Engine, int) { e, _, code := impl.ScanRows(d.e, tx, 3); return e, code }},
			"GetRow":   {impl.OK, then, func() (impl.Engine, int) { e, _, code := impl.GetRow(d.e, tx, 3, id); return e, code }},
			"GetRow of none": {impl.ErrNone, all, func() (impl.Engine, int) {
				e, _, code := impl.GetRow(d.e, tx, 3, 99)
				return e, code
			}},
			"PutRow":          {impl.OK, then, func() (impl.Engine, int) { return impl.PutRow(d.e, tx, 3, row(id, 1)) }},
			"DropRow":         {impl.OK, then, func() (impl.Engine, int) { return impl.DropRow(d.e, tx, 3, id) }},
			"DropRow of none": {impl.ErrNone, all, func() (impl.Engine, int) { return impl.DropRow(d.e, tx, 3, 99) }},
			"PutRow of one too many": {impl.ErrOver, all, func() (impl.Engine, int) {
				return impl.PutRow(d.e, tx, 3, row(99, 1))
			}},
		} {
			e, code := x.call()
			if code != x.code {
				t.Errorf("%s: code %d", name, code)
			}
			wantFrames(fmt.Sprintf("%s, page %d", name, page), e, x.want)
		}
	}
	d := stocked(t, 9)
	tx := d.begin()
	d.put(tx, 1, row(5, 5))
	wantFrames("a new row", d.e, [4]int{6, 7, 2, 0})
	d.put(tx, 1, row(5, 6))
	wantFrames("the row again", d.e, [4]int{7, 2, 6, 2})
}
