package tests

import (
	"fmt"
	"slices"
	"testing"

	"loop.example/g00332/impl"
)

// plainPool says the document's rules once more over a plain disk; known has the pages that were ever written, by
// their bytes.
type plainPool struct {
	disk   *plainDisk
	known  map[string]impl.Page
	epoch  int
	log    []impl.LogRecord
	sure   int
	frames []impl.Frame
	hand   int
}

func newPlainPool() *plainPool {
	p := &plainPool{disk: newPlainDisk(impl.DiskSectors), known: map[string]impl.Page{}, epoch: 1}
	p.disk.history[0] = []string{header(1)}
	return p
}

// asDisk is the disk of the same sectors and writes.
func (p *plainDisk) asDisk() impl.Disk {
	d := impl.Disk{Sectors: make([]string, len(p.history)), Armed: p.armed, Keep: p.keep}
	for at, list := range p.history {
		d.Sectors[at] = list[0]
	}
	done := make([]int, len(p.history))
	for _, at := range p.order {
		done[at]++
		d.Cache = append(d.Cache, write(at, p.history[at][done[at]]))
	}
	return d
}

func (p *plainPool) asStore() impl.Store {
	return impl.Store{Disk: p.disk.asDisk(), Epoch: p.epoch, Log: p.log, Sure: p.sure, Frames: p.frames, Hand: p.hand}
}

func (p *plainPool) flush(lsn int) bool {
	if lsn <= p.sure {
		return true
	}
	for at := p.sure; at < lsn; at++ {
		p.disk.write(impl.LogAt+at, bytesOfRecord(p.log[at]))
	}
	if !p.disk.sync() {
		return false
	}
	p.sure = lsn
	return true
}

func (p *plainPool) putOut(at int) bool {
	f := p.frames[at]
	if !f.Dirty {
		return true
	}
	if !p.flush(f.Page.Lsn) {
		return false
	}
	b := bytesOfPage(f.No, f.Page)
	p.known[b] = impl.Page{Lsn: f.Page.Lsn, Slots: slices.Clone(f.Page.Slots)}
	p.disk.write(pageAt(f.No), b)
	p.frames[at].Dirty, p.frames[at].First = false, 0
	return true
}

// onDisk is the page as it was when its bytes were written.
func (p *plainPool) onDisk(no int) impl.Page {
	history := p.disk.history[pageAt(no)]
	last, ok := p.known[history[len(history)-1]]
	if !ok {
		return page(0, "", "", "", "")
	}
	return page(last.Lsn, slices.Clone(last.Slots)...)
}

func (p *plainPool) place(no int) int {
	return slices.IndexFunc(p.frames, func(f impl.Frame) bool { return f.No == no })
}

func (p *plainPool) fetch(no int) bool {
	switch {
	case p.place(no) >= 0:
	case len(p.frames) < 3:
		p.frames = append(p.frames, clean(no, p.onDisk(no)))
	default:
		if !p.putOut(p.hand) {
			return false
		}
		p.frames[p.hand] = clean(no, p.onDisk(no))
		p.hand++
		if p.hand == 3 {
			p.hand = 0
		}
	}
	return true
}

func (p *plainPool) evict(no int) (bool, int) {
	at := p.place(no)
	if at < 0 {
		return true, impl.ErrNone
	}
	if !p.putOut(at) {
		return false, impl.OK
	}
	p.frames = slices.Delete(p.frames, at, at+1)
	p.hand = 0
	return true, impl.OK
}

func (p *plainPool) apply(lsn int) bool {
	r := p.log[lsn-1]
	if !p.fetch(r.Page) {
		return false
	}
	f := &p.frames[p.place(r.Page)]
	f.Page.Slots[r.Slot] = r.After
	f.Page.Lsn = lsn
	if !f.Dirty {
		f.Dirty, f.First = true, lsn
	}
	return true
}

// reopen is what is left when the pool is gone: the disk, and the log that is on it.
func (p *plainPool) reopen(t *testing.T) {
	t.Helper()
	log, code := impl.ReadLog(p.disk.asDisk(), p.epoch)
	if code != impl.OK {
		t.Fatalf("ReadLog: code %d", code)
	}
	p.log, p.sure, p.frames, p.hand = log, len(log), nil, 0
	p.epoch = min(p.epoch+1, impl.MaxEpoch)
}

// poolStep does one thing to the store and to the plain one.
func poolStep(t *testing.T, x *dice, s impl.Store, p *plainPool) (impl.Store, string) {
	t.Helper()
	var next impl.Store
	var alive, wantAlive bool
	var code, wantCode int
	name, no := "", x.below(impl.MaxPages)
	switch kind := x.below(40); {
	case kind < 2:
		keep := x.keep(6)
		next = changed(s, func(s *impl.Store) { s.Disk, code = impl.DiskArm(s.Disk, keep) })
		p.disk.armed, p.disk.keep = true, keep
		name, alive, wantAlive = "arm", true, true
	case kind < 10:
		name = fmt.Sprint("FetchPage of ", no)
		var got impl.Page
		next, got, alive, code = impl.FetchPage(s, no)
		want := impl.Page{}
		if wantAlive = p.fetch(no); wantAlive {
			want = p.frames[p.place(no)].Page
		}
		checkPage(t, name, got, want)
	case kind < 14:
		name = fmt.Sprint("EvictPage of ", no)
		next, alive, code = impl.EvictPage(s, no)
		wantAlive, wantCode = p.evict(no)
	case kind < 17:
		lsn := x.below(len(s.Log) + 1)
		name = fmt.Sprint("FlushLog to ", lsn)
		next, alive, code = impl.FlushLog(s, lsn)
		wantAlive = p.flush(lsn)
	case kind < 26 && len(s.Log) < impl.MaxLog:
		r := x.logRecord(p.epoch, len(s.Log)+1)
		name, alive, wantAlive = "AppendLog", true, true
		next, code = impl.AppendLog(s, r)
		p.log = append(p.log, r)
	default:
		lsn := 1 + x.below(impl.MaxLog)
		if lsn > len(s.Log) || s.Log[lsn-1].Kind != impl.LoUpdate && s.Log[lsn-1].Kind != impl.LoClr {
			return s, "nothing"
		}
		name = fmt.Sprint("ApplyChange of ", lsn)
		next, alive, code = impl.ApplyChange(s, lsn)
		wantAlive = p.apply(lsn)
	}
	if alive != wantAlive || code != wantCode {
		t.Fatalf("%s: %v, code %d, want %v, %d", name, alive, code, wantAlive, wantCode)
	}
	if !alive && x.below(2) == 0 {
		p.reopen(t)
		next = p.asStore()
	}
	return next, name
}

// checkSure: the sure records are read, and no page on the disk, sure or not, has an Lsn beyond them.
func checkSure(t *testing.T, name string, s impl.Store) {
	t.Helper()
	for _, d := range []impl.Disk{s.Disk, {Sectors: s.Disk.Sectors}} {
		if log, code := impl.ReadLog(d, s.Epoch); code != impl.OK || len(log) < s.Sure || !slices.Equal(log[:s.Sure], s.Log[:s.Sure]) {
			t.Fatalf("%s: %d records are read, %d are sure, code %d", name, len(log), s.Sure, code)
		}
	}
	all := slices.Clone(s.Disk.Cache)
	for no := range impl.MaxPages {
		all = append(all, write(pageAt(no), s.Disk.Sectors[pageAt(no)]))
	}
	for _, w := range all {
		if w.At < 1 || w.At > impl.MaxPages || w.Data == "" {
			continue
		}
		if p, code := impl.ReadPage(w.At-1, []byte(w.Data)); code != impl.OK || p.Lsn > s.Sure {
			t.Fatalf("%s: a page of Lsn %d is on the disk, %d are sure, code %d", name, p.Lsn, s.Sure, code)
		}
	}
}

func TestRunsOfAPool(t *testing.T) {
	t.Parallel()
	gone, longest := 0, 0
	for run := range 60 {
		x := dice(run)
		s, p := impl.NewStore(), newPlainPool()
		for i := range 250 {
			var what string
			s, what = poolStep(t, &x, s, p)
			name := fmt.Sprintf("run %d, step %d, %s", run, i, what)
			if want := p.asStore(); tellStore(s) != tellStore(want) {
				t.Fatalf("%s: %.3000s\nwant %.3000s", name, tellStore(s), tellStore(want))
			}
			if !impl.StoreOK(s) {
				t.Fatalf("%s: not right", name)
			}
			checkSure(t, name, s)
			longest = max(longest, len(s.Log))
		}
		gone += p.epoch - 1
	}
	if gone < 20 || longest != impl.MaxLog {
		t.Errorf("the power went %d times, the longest log has %d records", gone, longest)
	}
}

// otherStore is s in other memory, with other things behind the ends of its lists.
func otherStore(s impl.Store) impl.Store {
	s = cloneStore(s)
	s.Disk = otherDisk(s.Disk)
	s.Log = append(s.Log, slices.Repeat([]impl.LogRecord{{After: "behind"}}, 9)...)[:len(s.Log)]
	for i := range s.Frames {
		slots := s.Frames[i].Page.Slots
		s.Frames[i].Page.Slots = append(slots, "behind", "behind", "behind")[:len(slots)]
	}
	s.Frames = append(s.Frames, slices.Repeat([]impl.Frame{{No: 77}}, 9)...)[:len(s.Frames)]
	return s
}

// wholeStore has the lists up to their room.
func wholeStore(s impl.Store) impl.Store {
	s.Disk, s.Log = wholeDisk(s.Disk), s.Log[:cap(s.Log)]
	frames := slices.Clone(s.Frames[:cap(s.Frames)])
	for i := range frames {
		frames[i].Page.Slots = frames[i].Page.Slots[:cap(frames[i].Page.Slots)]
	}
	s.Frames = frames
	return s
}

func spoilStore(s impl.Store) {
	spoilDisk(s.Disk)
	spoil(s.Log, impl.LogRecord{Before: "spoilt"})
	for _, f := range s.Frames[:cap(s.Frames)] {
		spoil(f.Page.Slots, "spoilt")
	}
	spoil(s.Frames, impl.Frame{No: 7777})
}

type storeAnswer struct {
	name    string
	store   impl.Store
	page    impl.Page
	numbers []int
	is      bool
	code    int
}

func (a storeAnswer) tell() string {
	return fmt.Sprintf("%s: %s %s numbers %v is %v code %d", a.name, tellStore(a.store), tellPage(a.page), a.numbers, a.is, a.code)
}

func (a storeAnswer) spoil() {
	spoilStore(a.store)
	spoil(a.page.Slots, "spoilt")
	spoil(a.numbers, 7777)
}

// storeAnswers are those of all calls that take a store.
func storeAnswers(s impl.Store, n int, r impl.LogRecord) []storeAnswer {
	var list []storeAnswer
	add := func(name string, a storeAnswer) {
		a.name = name
		list = append(list, a)
	}
	add("StoreOK", storeAnswer{is: impl.StoreOK(s)})
	next, p, alive, code := impl.FetchPage(s, n)
	add("FetchPage", storeAnswer{store: next, page: p, is: alive, code: code})
	next, code = impl.AppendLog(s, r)
	add("AppendLog", storeAnswer{store: next, code: code})
	next, alive, code = impl.FlushLog(s, n)
	add("FlushLog", storeAnswer{store: next, is: alive, code: code})
	next, alive, code = impl.EvictPage(s, n)
	add("EvictPage", storeAnswer{store: next, is: alive, code: code})
	next, alive, code = impl.ApplyChange(s, n)
	add("ApplyChange", storeAnswer{store: next, is: alive, code: code})
	numbers, code := impl.DirtyPages(s)
	add("DirtyPages", storeAnswer{numbers: numbers, code: code})
	return list
}

func tellStoreAnswers(list []storeAnswer) string {
	told := ""
	for _, a := range list {
		told += a.tell() + "\n"
	}
	return told
}

func checkStoreApart(t *testing.T, name string, s impl.Store, n int) {
	t.Helper()
	r := impl.LogRecord{Tx: 9, Kind: impl.LoBegin}
	mine, copied := otherStore(s), otherStore(s)
	list := storeAnswers(mine, n, r)
	if tellStore(wholeStore(mine)) != tellStore(wholeStore(copied)) {
		t.Fatalf("%s: an argument is changed, or what stands behind it", name)
	}
	told := tellStoreAnswers(list)
	spoilStore(mine)
	if tellStoreAnswers(list) != told {
		t.Fatalf("%s: an answer has memory of an argument", name)
	}
	list = storeAnswers(copied, n, r)
	if tellStoreAnswers(list) != told {
		t.Fatalf("%s: alike arguments have other answers", name)
	}
	whole := storeAnswers(s, n, r)
	for i, a := range list {
		a.spoil()
		if tellStoreAnswers(list[i+1:]) != tellStoreAnswers(whole[i+1:]) {
			t.Fatalf("%s: the answer of %s has memory of another one", name, a.name)
		}
	}
	if tellStore(wholeStore(copied)) != tellStore(wholeStore(otherStore(s))) {
		t.Fatalf("%s: writing into an answer changes an argument", name)
	}
}

func TestStoresStandApart(t *testing.T) {
	t.Parallel()
	for name, s := range rightStores() {
		for _, n := range []int{-1, 0, 2, 5, 8} {
			checkStoreApart(t, fmt.Sprintf("%s, with %d", name, n), s, n)
		}
	}
	for name, s := range wrongStores() {
		checkStoreApart(t, name, s, 3)
	}
}

// storeLists are the lists of an answer, each as something that spoils it.
func storeLists(a storeAnswer) []func() {
	list := []func(){
		func() { spoil(a.store.Disk.Sectors, "spoilt") },
		func() { spoil(a.store.Disk.Cache, write(77, "spoilt")) },
		func() { spoil(a.store.Disk.Keep, 7777) },
		func() { spoil(a.store.Log, impl.LogRecord{Before: "spoilt"}) },
		func() { spoil(a.page.Slots, "spoilt") },
	}
	for _, f := range a.store.Frames {
		list = append(list, func() { spoil(f.Page.Slots, "spoilt") })
	}
	return list
}

// listsOf are what the lists of an answer hold, in the order of storeLists.
func listsOf(a storeAnswer) []string {
	list := []string{fmt.Sprintf("%q", a.store.Disk.Sectors), fmt.Sprintf("%+v", a.store.Disk.Cache), fmt.Sprint(a.store.Disk.Keep),
		fmt.Sprintf("%+v", a.store.Log), tellPage(a.page)}
	for _, f := range a.store.Frames {
		list = append(list, tellPage(f.Page))
	}
	return list
}

func TestListsOfAStoreStandApart(t *testing.T) {
	for name, s := range rightStores() {
		for of := range storeAnswers(s, 3, begin(1, 1, 1)) {
			for i := range storeLists(storeAnswers(s, 3, begin(1, 1, 1))[of]) {
				a := storeAnswers(s, 3, begin(1, 1, 1))[of]
				before := listsOf(a)
				storeLists(a)[i]()
				for j, told := range listsOf(a) {
					if j != i && told != before[j] {
						t.Errorf("%s, %s: list %d shares memory with list %d", a.name, name, i, j)
					}
				}
			}
		}
	}
}

func TestNewStoresStandApart(t *testing.T) {
	a, b := impl.NewStore(), impl.NewStore()
	told := tellStore(b)
	spoilStore(a)
	if tellStore(b) != told || tellStore(impl.NewStore()) != told {
		t.Error("two new stores share memory")
	}
}

// poolCalls are calls of all functions of chapter 6.
func poolCalls() []call {
	list := []call{{"NewStore", func() string { return tellStore(impl.NewStore()) }}}
	for name, s := range rightStores() {
		for _, n := range numberArguments() {
			list = append(list, call{name, func() string { return tellStoreAnswers(storeAnswers(s, n, begin(1, 1, 1))) }})
		}
	}
	for name, s := range wrongStores() {
		list = append(list, call{name, func() string { return tellStoreAnswers(storeAnswers(s, 3, begin(1, 1, 1))) }})
	}
	return list
}
