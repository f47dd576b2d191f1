package tests

import (
	"fmt"
	"slices"
	"testing"

	"loop.example/g00332/impl"
)

// dice are numbers that are the same in each run.
type dice uint32

func (x *dice) below(n int) int {
	*x = *x*1664525 + 1013904223
	return int(uint32(*x)>>8) % n
}

func (x *dice) keep(n int) []int {
	list := make([]int, x.below(n+1))
	for i := range list {
		list[i] = x.below(3) - 1
	}
	return list
}

// plainDisk has every sector's history, the sure one first, and the order of the writes beside it.
type plainDisk struct {
	history [][]string
	order   []int
	armed   bool
	keep    []int
}

func newPlainDisk(n int) *plainDisk {
	p := &plainDisk{history: make([][]string, n)}
	for at := range p.history {
		p.history[at] = []string{""}
	}
	return p
}

func (p *plainDisk) write(at int, data string) {
	p.history[at] = append(p.history[at], data)
	p.order = append(p.order, at)
}

func (p *plainDisk) crash(keep []int) {
	done := make([]int, len(p.history))
	sure := make([]int, len(p.history))
	for i, at := range p.order {
		done[at]++
		if i < len(keep) && keep[i] != 0 {
			sure[at] = done[at]
		}
	}
	for at, list := range p.history {
		p.history[at] = []string{list[sure[at]]}
	}
	p.order, p.armed, p.keep = nil, false, nil
}

func (p *plainDisk) sync() bool {
	if p.armed {
		p.crash(p.keep)
		return false
	}
	p.crash(slices.Repeat([]int{1}, len(p.order)))
	return true
}

func (p *plainDisk) check(t *testing.T, name string, d impl.Disk) {
	t.Helper()
	if !impl.DiskOK(d) || len(d.Sectors) != len(p.history) || len(d.Cache) != len(p.order) || d.Armed != p.armed || !slices.Equal(d.Keep, p.keep) {
		t.Fatalf("%s: %.300s", name, tellDisk(d))
	}
	var pending []int
	for at, list := range p.history {
		if d.Sectors[at] != list[0] {
			t.Fatalf("%s: %q is sure at %d, want %q", name, d.Sectors[at], at, list[0])
		}
		if s, code := impl.DiskRead(d, at); s != list[len(list)-1] || code != impl.OK {
			t.Fatalf("%s: %q is read at %d, code %d, want %q", name, s, at, code, list[len(list)-1])
		}
		if len(list) > 1 {
			pending = append(pending, at)
		}
	}
	if list, code := impl.DiskPending(d); code != impl.OK || !slices.Equal(list, pending) {
		t.Fatalf("%s: DiskPending %v, code %d, want %v", name, list, code, pending)
	}
}

func step(t *testing.T, x *dice, i int, d impl.Disk, p *plainDisk) impl.Disk {
	t.Helper()
	var code int
	switch kind := x.below(20); {
	case kind < 2:
		var alive bool
		d, alive, code = impl.DiskSync(d)
		if alive != p.sync() {
			t.Fatalf("step %d: DiskSync %v", i, alive)
		}
	case kind < 3:
		keep := x.keep(12)
		d, code = impl.DiskCrash(d, keep)
		p.crash(keep)
	case kind < 4:
		keep := x.keep(12)
		d, code = impl.DiskArm(d, keep)
		p.armed, p.keep = true, keep
	default:
		at, data := x.below(len(d.Sectors)), fmt.Sprint(i)
		d, code = impl.DiskWrite(d, at, data)
		p.write(at, data)
	}
	if code != impl.OK {
		t.Fatalf("step %d: code %d", i, code)
	}
	return d
}

func TestRunsOfADisk(t *testing.T) {
	for run := range 40 {
		x := dice(run)
		n := 1 + x.below(6)
		d, p := newDisk(t, n), newPlainDisk(n)
		for i := range 200 {
			d = step(t, &x, i, d, p)
			p.check(t, fmt.Sprintf("run %d, step %d", run, i), d)
		}
	}
}

func TestDiskFillsUp(t *testing.T) {
	d, p := newDisk(t, 3), newPlainDisk(3)
	for i := range 500 {
		d = writeDisk(t, d, i%3, fmt.Sprint(i))
		p.write(i%3, fmt.Sprint(i))
	}
	for range 2 {
		same, code := impl.DiskWrite(d, 0, "more")
		if code != impl.ErrFull {
			t.Fatalf("write 501: code %d", code)
		}
		checkDisk(t, "write 501", same, d)
		d = same
	}
	p.check(t, "500 writes", d)
	d, alive, code := impl.DiskSync(d)
	if alive != p.sync() || code != impl.OK {
		t.Fatalf("DiskSync of 500 writes: %v, code %d", alive, code)
	}
	p.check(t, "500 writes, synced", d)
	d = writeDisk(t, d, 0, "more")
	p.write(0, "more")
	p.check(t, "a write behind the sync", d)
}

// otherDisk is d in other memory, with other things behind the ends of its lists.
func otherDisk(d impl.Disk) impl.Disk {
	return impl.Disk{Armed: d.Armed,
		Sectors: append(slices.Clone(d.Sectors), slices.Repeat([]string{"behind"}, 9)...)[:len(d.Sectors)],
		Cache:   append(slices.Clone(d.Cache), slices.Repeat([]impl.Pending{{At: -9, Data: "behind"}}, 9)...)[:len(d.Cache)],
		Keep:    append(slices.Clone(d.Keep), slices.Repeat([]int{99}, 9)...)[:len(d.Keep)]}
}

// wholeDisk has the lists up to their room.
func wholeDisk(d impl.Disk) impl.Disk {
	d.Sectors, d.Cache, d.Keep = d.Sectors[:cap(d.Sectors)], d.Cache[:cap(d.Cache)], d.Keep[:cap(d.Keep)]
	return d
}

func spoil[T any](list []T, other T) {
	for i := range list[:cap(list)] {
		list[:cap(list)][i] = other
	}
}

func spoilDisk(d impl.Disk) {
	spoil(d.Sectors, "spoilt")
	spoil(d.Cache, write(77, "spoilt"))
	spoil(d.Keep, 7777)
}

type diskAnswer struct {
	name    string
	disk    impl.Disk
	numbers []int
	text    string
	is      bool
	code    int
}

func (a diskAnswer) tell() string {
	return fmt.Sprintf("%s: %s numbers %v text %q is %v code %d", a.name, tellDisk(a.disk), a.numbers, a.text, a.is, a.code)
}

func (a diskAnswer) spoil() {
	spoilDisk(a.disk)
	spoil(a.numbers, 7777)
}

// diskAnswers are those of all calls that take a disk.
func diskAnswers(d impl.Disk, at int, data string, keep []int) []diskAnswer {
	var list []diskAnswer
	add := func(name string, a diskAnswer) {
		a.name = name
		list = append(list, a)
	}
	add("DiskOK", diskAnswer{is: impl.DiskOK(d)})
	w, code := impl.DiskWrite(d, at, data)
	add("DiskWrite", diskAnswer{disk: w, code: code})
	text, code := impl.DiskRead(d, at)
	add("DiskRead", diskAnswer{text: text, code: code})
	s, alive, code := impl.DiskSync(d)
	add("DiskSync", diskAnswer{disk: s, is: alive, code: code})
	c, code := impl.DiskCrash(d, keep)
	add("DiskCrash", diskAnswer{disk: c, code: code})
	numbers, code := impl.DiskPending(d)
	add("DiskPending", diskAnswer{numbers: numbers, code: code})
	a, code := impl.DiskArm(d, keep)
	add("DiskArm", diskAnswer{disk: a, code: code})
	return list
}

func tellAll(list []diskAnswer) string {
	told := ""
	for _, a := range list {
		told += a.tell() + "\n"
	}
	return told
}

func checkDiskApart(t *testing.T, name string, d impl.Disk, keep []int) {
	t.Helper()
	mine, copied := otherDisk(d), otherDisk(d)
	wholeKeep := append(slices.Clone(keep), 9, 9, 9, 9)
	list := diskAnswers(mine, 1, "data", wholeKeep[:len(keep)])
	if tellDisk(wholeDisk(mine)) != tellDisk(wholeDisk(copied)) || !slices.Equal(wholeKeep, append(slices.Clone(keep), 9, 9, 9, 9)) {
		t.Fatalf("%s: an argument is changed, or what stands behind it", name)
	}
	told := tellAll(list)
	spoilDisk(mine)
	spoil(wholeKeep, 8888)
	if tellAll(list) != told {
		t.Fatalf("%s: an answer has memory of an argument", name)
	}
	list = diskAnswers(copied, 1, "data", keep)
	if tellAll(list) != told {
		t.Fatalf("%s: alike arguments have other answers", name)
	}
	kept := slices.Clone(keep)
	for i, a := range list {
		a.spoil()
		if tellAll(list[i+1:]) != tellAll(diskAnswers(d, 1, "data", keep)[i+1:]) {
			t.Fatalf("%s: the answer of %s has memory of another one", name, a.name)
		}
	}
	if tellDisk(wholeDisk(copied)) != tellDisk(wholeDisk(otherDisk(d))) || !slices.Equal(keep, kept) {
		t.Fatalf("%s: writing into an answer changes an argument", name)
	}
}

func TestDisksStandApart(t *testing.T) {
	t.Parallel()
	keeps := [][]int{nil, {0}, {1, 0, 1}, make([]int, 500), make([]int, 501), make([]int, impl.MaxList+1)}
	for name, d := range rightDisks() {
		for i, keep := range keeps {
			checkDiskApart(t, fmt.Sprintf("%s, keep %d", name, i), d, keep)
		}
	}
	for name, d := range wrongDisks() {
		checkDiskApart(t, name, d, keeps[2])
	}
}

// checkListsApart: with one list of an answer spoilt, from the first one on, those behind it are as they were.
func checkListsApart(t *testing.T, name string, d impl.Disk) {
	t.Helper()
	want := impl.Disk{Sectors: slices.Clone(d.Sectors), Cache: slices.Clone(d.Cache), Keep: slices.Clone(d.Keep), Armed: d.Armed}
	spoil(d.Sectors, "spoilt")
	want.Sectors = d.Sectors
	checkDisk(t, name+", its sectors spoilt", d, want)
	spoil(d.Cache, write(77, "spoilt"))
	want.Cache = d.Cache
	checkDisk(t, name+", its writes spoilt", d, want)
}

func TestListsOfADiskStandApart(t *testing.T) {
	for name, d := range rightDisks() {
		for _, a := range diskAnswers(d, 0, "data", []int{1, 0, 1}) {
			checkListsApart(t, a.name+", "+name, a.disk)
		}
	}
}

func TestNewDisksStandApart(t *testing.T) {
	a, b := newDisk(t, 5), newDisk(t, 5)
	spoilDisk(a)
	checkDisk(t, "a second new disk", b, impl.Disk{Sectors: make([]string, 5)})
	checkDisk(t, "a third new disk", newDisk(t, 5), b)
}

// diskCalls are calls of all functions of chapter 3.
func diskCalls() []call {
	var list []call
	for _, n := range append(numberArguments(), 99, 100, 101) {
		list = append(list, call{"NewDisk", func() string {
			d, code := impl.NewDisk(n)
			return answers(tellDisk(d), code)
		}})
	}
	add := func(name string, d impl.Disk) {
		for _, at := range []int{-1, 0, 1, len(d.Sectors) - 1, len(d.Sectors)} {
			for _, keep := range [][]int{nil, {0, 1, 5}, make([]int, 501), make([]int, impl.MaxList+1)} {
				for _, data := range []string{"", filled(impl.SectorSize), filled(impl.SectorSize + 1), filled(impl.MaxText + 1)} {
					list = append(list, call{name, func() string { return tellAll(diskAnswers(d, at, data, keep)) }})
				}
			}
		}
	}
	for _, disks := range []map[string]impl.Disk{rightDisks(), wrongDisks()} {
		for name, d := range disks {
			add(name, d)
		}
	}
	return list
}
