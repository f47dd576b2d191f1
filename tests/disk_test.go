package tests

import (
	"fmt"
	"math"
	"slices"
	"strings"
	"testing"

	"loop.example/g00332/impl"
)

// tellDisk tells nil and an empty list alike: they are the same value.
func tellDisk(d impl.Disk) string {
	told := fmt.Sprintf("sectors %q armed %v keep %v writes", d.Sectors, d.Armed, d.Keep)
	for _, w := range d.Cache {
		told += fmt.Sprintf(" %d:%q", w.At, w.Data)
	}
	return told
}

func write(at int, data string) impl.Pending { return impl.Pending{At: at, Data: data} }

func checkDisk(t *testing.T, name string, got, want impl.Disk) {
	t.Helper()
	if tellDisk(got) != tellDisk(want) {
		t.Errorf("%s: %.300s\nwant %.300s", name, tellDisk(got), tellDisk(want))
	}
}

func newDisk(t *testing.T, n int) impl.Disk {
	t.Helper()
	d, code := impl.NewDisk(n)
	if code != impl.OK {
		t.Fatalf("NewDisk(%d): code %d", n, code)
	}
	return d
}

func writeDisk(t *testing.T, d impl.Disk, at int, data string) impl.Disk {
	t.Helper()
	d, code := impl.DiskWrite(d, at, data)
	if code != impl.OK {
		t.Fatalf("DiskWrite(%d, %d bytes): code %d", at, len(data), code)
	}
	return d
}

// sectorsOf are what DiskRead tells of each sector.
func sectorsOf(t *testing.T, d impl.Disk) []string {
	t.Helper()
	var list []string
	for at := range d.Sectors {
		s, code := impl.DiskRead(d, at)
		if code != impl.OK {
			t.Fatalf("DiskRead(%d): code %d", at, code)
		}
		list = append(list, s)
	}
	return list
}

func filled(n int) string { return strings.Repeat("f", n) }

// writes are n ones, to the given sectors in turn, each of other bytes.
func writes(n int, sectors ...int) []impl.Pending {
	list := make([]impl.Pending, n)
	for i := range list {
		list[i] = impl.Pending{At: sectors[i%len(sectors)], Data: fmt.Sprint("w", i)}
	}
	return list
}

func rightDisks() map[string]impl.Disk {
	most := make([]string, impl.MaxSectors)
	for i := range most {
		most[i] = string(patterned(impl.SectorSize))
	}
	some := []string{"zero", "", "two", "three"}
	return map[string]impl.Disk{
		"one sector":                   {Sectors: []string{""}},
		"empty lists":                  {Sectors: []string{"a"}, Cache: []impl.Pending{}, Keep: []int{}},
		"MaxSectors full sectors":      {Sectors: most, Cache: writes(20, impl.MaxSectors-1, 0, 50)},
		"a full write":                 {Sectors: some, Cache: []impl.Pending{{At: 3, Data: filled(impl.SectorSize)}, {At: 0}}},
		"writes of one sector":         {Sectors: some, Cache: writes(5, 2)},
		"writes of several sectors":    {Sectors: some, Cache: writes(7, 3, 1, 3, 0)},
		"499 writes":                   {Sectors: some, Cache: writes(499, 0, 3, 2)},
		"500 writes":                   {Sectors: some, Cache: writes(500, 3, 0)},
		"armed, without numbers":       {Sectors: some, Armed: true, Cache: writes(4, 2, 1)},
		"armed":                        {Sectors: some, Armed: true, Keep: []int{0, 1, 0, -5}, Cache: writes(6, 1, 2)},
		"armed, with 500 numbers":      {Sectors: some, Armed: true, Keep: slices.Repeat([]int{0, 3}, 250), Cache: writes(9, 1, 2, 1)},
		"armed, 500 numbers and write": {Sectors: some, Armed: true, Keep: slices.Repeat([]int{1, 0}, 250), Cache: writes(500, 1, 2)},
		"armed, odd numbers":           {Sectors: some, Armed: true, Keep: []int{math.MinInt, math.MaxInt, 2, 0}, Cache: writes(3, 0, 1)},
		"armed, without writes":        {Sectors: some, Armed: true, Keep: []int{1}},
	}
}

func wrongDisks() map[string]impl.Disk {
	some := []string{"zero", "", "two", "three"}
	with := func(list []impl.Pending, w impl.Pending) []impl.Pending { return append(list, w) }
	return map[string]impl.Disk{
		"nothing":                      {},
		"no sectors":                   {Sectors: []string{}},
		"no sectors, armed":            {Armed: true, Keep: []int{1}},
		"no sectors, a write":          {Cache: []impl.Pending{{At: 0, Data: "a"}}},
		"101 sectors":                  {Sectors: make([]string, impl.MaxSectors+1)},
		"many sectors":                 {Sectors: make([]string, impl.MaxList+1)},
		"a long first sector":          {Sectors: []string{filled(impl.SectorSize + 1), "", ""}},
		"a long last sector":           {Sectors: []string{"", "", filled(impl.SectorSize + 1)}},
		"a sector beyond MaxText":      {Sectors: []string{"", filled(impl.MaxText + 1)}},
		"a write below":                {Sectors: some, Cache: with(writes(2, 0), impl.Pending{At: -1})},
		"a write beyond":               {Sectors: some, Cache: with(writes(2, 0), impl.Pending{At: 4})},
		"a first write beyond":         {Sectors: some, Cache: []impl.Pending{{At: 4}, {At: 0}}},
		"a write far below":            {Sectors: some, Cache: []impl.Pending{{At: math.MinInt}}},
		"a write far beyond":           {Sectors: some, Cache: []impl.Pending{{At: math.MaxInt}}},
		"a write to the first beyond":  {Sectors: make([]string, impl.MaxSectors), Cache: []impl.Pending{{At: impl.MaxSectors}}},
		"a long write":                 {Sectors: some, Cache: with(writes(2, 0), impl.Pending{Data: filled(impl.SectorSize + 1)})},
		"a long first write":           {Sectors: some, Cache: []impl.Pending{{Data: filled(impl.SectorSize + 1)}, {At: 1}}},
		"501 writes":                   {Sectors: some, Cache: writes(501, 0, 1)},
		"many writes":                  {Sectors: some, Cache: writes(impl.MaxList+1, 0)},
		"a number, not armed":          {Sectors: some, Keep: []int{1}},
		"a nought, not armed":          {Sectors: some, Keep: []int{0}},
		"numbers, not armed":           {Sectors: some, Cache: writes(3, 0), Keep: []int{0, 1, 0}},
		"501 numbers":                  {Sectors: some, Armed: true, Keep: make([]int, 501)},
		"many numbers":                 {Sectors: some, Armed: true, Keep: make([]int, impl.MaxList+1)},
		"501 numbers, not armed":       {Sectors: some, Keep: make([]int, 501)},
		"501 writes, a long sector":    {Sectors: []string{filled(200)}, Cache: writes(501, 0)},
		"armed, with a write to none":  {Sectors: some, Armed: true, Keep: []int{0}, Cache: []impl.Pending{{At: 9, Data: "a"}}},
		"armed, with a long last one":  {Sectors: []string{"", filled(161)}, Armed: true, Keep: []int{0}},
		"500 writes, the last to none": {Sectors: some, Cache: with(writes(499, 0), impl.Pending{At: 4, Data: "a"})},
	}
}

func TestDiskConstants(t *testing.T) {
	if impl.SectorSize != 160 || impl.MaxSectors != 100 {
		t.Error("constants of chapter 3")
	}
}

func TestNewDisks(t *testing.T) {
	for _, n := range []int{1, 2, 69, impl.MaxSectors - 1, impl.MaxSectors} {
		d := newDisk(t, n)
		checkDisk(t, fmt.Sprint("NewDisk of ", n), d, impl.Disk{Sectors: make([]string, n)})
		if !impl.DiskOK(d) {
			t.Errorf("NewDisk(%d) is not right", n)
		}
	}
	for _, n := range []int{math.MinInt, -1, 0, impl.MaxSectors + 1, 1 << 32, math.MaxInt} {
		d, code := impl.NewDisk(n)
		if code != impl.ErrRange {
			t.Errorf("NewDisk(%d): code %d", n, code)
		}
		checkDisk(t, fmt.Sprint("NewDisk of ", n), d, impl.Disk{})
	}
}

func TestRightDisks(t *testing.T) {
	for name, d := range rightDisks() {
		if !impl.DiskOK(d) {
			t.Errorf("%s: not right", name)
		}
	}
	for name, d := range wrongDisks() {
		if impl.DiskOK(d) {
			t.Errorf("%s: right", name)
		}
	}
}

func TestWhatWasWrittenIsRead(t *testing.T) {
	d := newDisk(t, 3)
	for i, x := range []struct {
		at   int
		data string
		want []string
	}{
		{1, "a", []string{"", "a", ""}},
		{0, "b", []string{"b", "a", ""}},
		{1, "c", []string{"b", "c", ""}},
		{2, filled(impl.SectorSize), []string{"b", "c", filled(impl.SectorSize)}},
		{1, "", []string{"b", "", filled(impl.SectorSize)}},
		{0, "\x00\xff\n", []string{"\x00\xff\n", "", filled(impl.SectorSize)}},
		{1, "a", []string{"\x00\xff\n", "a", filled(impl.SectorSize)}},
	} {
		before := d
		d = writeDisk(t, d, x.at, x.data)
		if got := sectorsOf(t, d); !slices.Equal(got, x.want) {
			t.Errorf("behind write %d: %q", i, got)
		}
		want := impl.Disk{Sectors: make([]string, 3), Cache: append(slices.Clone(before.Cache), write(x.at, x.data))}
		checkDisk(t, fmt.Sprint("write ", i), d, want)
	}
	if list, code := impl.DiskPending(d); code != impl.OK || !slices.Equal(list, []int{0, 1, 2}) {
		t.Errorf("DiskPending: %v, code %d", list, code)
	}
	s, alive, code := impl.DiskSync(d)
	if !alive || code != impl.OK {
		t.Errorf("DiskSync: %v, code %d", alive, code)
	}
	checkDisk(t, "DiskSync", s, impl.Disk{Sectors: []string{"\x00\xff\n", "a", filled(impl.SectorSize)}})
	c, code := impl.DiskCrash(s, nil)
	if code != impl.OK {
		t.Errorf("DiskCrash: code %d", code)
	}
	checkDisk(t, "what a sync made sure, behind a crash", c, s)
}

func TestDiskPendingRises(t *testing.T) {
	for i, x := range []struct{ sectors, want []int }{
		{nil, nil}, {[]int{2}, []int{2}}, {[]int{0}, []int{0}}, {[]int{99, 0}, []int{0, 99}}, {[]int{5, 5, 5}, []int{5}},
		{[]int{3, 2, 1, 0}, []int{0, 1, 2, 3}}, {[]int{10, 9, 10, 2, 9}, []int{2, 9, 10}},
	} {
		d := impl.Disk{Sectors: slices.Repeat([]string{"sure"}, impl.MaxSectors)}
		for _, at := range x.sectors {
			d = writeDisk(t, d, at, "sure")
		}
		if got, code := impl.DiskPending(d); code != impl.OK || !slices.Equal(got, x.want) {
			t.Errorf("%d: DiskPending %v, code %d, want %v", i, got, code, x.want)
		}
	}
}

// keepsOf are all lists of that many numbers 0 and 1.
func keepsOf(n int) [][]int {
	var lists [][]int
	for bits := range 1 << n {
		keep := make([]int, n)
		for i := range keep {
			keep[i] = bits >> i & 1
		}
		lists = append(lists, keep)
	}
	return lists
}

// afterCrash says the document's rule once more, sector by sector: its last write that is kept, else what was sure.
func afterCrash(d impl.Disk, keep []int) impl.Disk {
	sectors := make([]string, len(d.Sectors))
	for at := range sectors {
		sectors[at] = d.Sectors[at]
		for i, w := range d.Cache {
			if i < len(keep) && keep[i] != 0 && w.At == at {
				sectors[at] = w.Data
			}
		}
	}
	return impl.Disk{Sectors: sectors}
}

func TestCrashKeepsWhatIsSureAndWhatIsKept(t *testing.T) {
	d := impl.Disk{Sectors: []string{"zero", "one", "two"},
		Cache: []impl.Pending{write(1, "a"), write(0, "b"), write(1, "c"), write(1, ""), write(0, "d")}}
	for n := range 8 {
		for _, keep := range keepsOf(n) {
			c, code := impl.DiskCrash(d, keep)
			if code != impl.OK {
				t.Fatalf("DiskCrash with %v: code %d", keep, code)
			}
			checkDisk(t, fmt.Sprint("DiskCrash with ", keep), c, afterCrash(d, keep))
		}
	}
	for _, x := range []struct{ keep, sectors []int }{
		{nil, []int{-1, -1, -1}}, {[]int{0, 0, 0, 0, 0}, []int{-1, -1, -1}}, {[]int{1}, []int{-1, 0, -1}},
		{[]int{0, 0, 1}, []int{-1, 2, -1}}, {[]int{1, 0, 1}, []int{-1, 2, -1}}, {[]int{1, 1, 1, 1}, []int{1, 3, -1}},
		{[]int{0, 1, 0, 0, 1}, []int{4, -1, -1}}, {[]int{1, 1, 1, 1, 1, 1, 1}, []int{4, 3, -1}},
		{[]int{0, 0, 0, 0, 0, 1, 1}, []int{-1, -1, -1}},
		{[]int{-1, 0, 0, 0, 2}, []int{4, 0, -1}}, {[]int{math.MinInt, 0, math.MaxInt}, []int{-1, 2, -1}}, {[]int{256, 1 << 32}, []int{1, 0, -1}},
	} {
		want := slices.Clone(d.Sectors)
		for at, i := range x.sectors {
			if i >= 0 {
				want[at] = d.Cache[i].Data
			}
		}
		c, _ := impl.DiskCrash(d, x.keep)
		checkDisk(t, fmt.Sprint("DiskCrash with ", x.keep), c, impl.Disk{Sectors: want})
	}
}

func TestCrashWithLongKeeps(t *testing.T) {
	d := rightDisks()["500 writes"]
	last := make([]int, 501)
	last[499], last[500] = 1, 1
	for i, keep := range [][]int{make([]int, 499), make([]int, 500), make([]int, 501), last[:499], last[:500], last,
		make([]int, impl.MaxList), slices.Repeat([]int{1}, impl.MaxList), slices.Repeat([]int{1}, 499)} {
		c, code := impl.DiskCrash(d, keep)
		if code != impl.OK {
			t.Errorf("DiskCrash with keep %d: code %d", i, code)
		}
		checkDisk(t, fmt.Sprint("DiskCrash with keep ", i), c, afterCrash(d, keep))
	}
}

func TestCrashOfArmedDisk(t *testing.T) {
	d := impl.Disk{Sectors: []string{"zero", "one"}, Armed: true, Keep: []int{1, 0}, Cache: []impl.Pending{write(0, "a"), write(1, "b")}}
	c, code := impl.DiskCrash(d, []int{0, 1})
	if code != impl.OK {
		t.Errorf("DiskCrash: code %d", code)
	}
	checkDisk(t, "its own Keep does not count", c, impl.Disk{Sectors: []string{"zero", "b"}})
}

func TestArmedDiskCrashesAtItsNextSync(t *testing.T) {
	d := impl.Disk{Sectors: []string{"zero", "one"}}
	d, code := impl.DiskArm(d, []int{0, 1, 0, 1, 0})
	if code != impl.OK {
		t.Fatalf("DiskArm: code %d", code)
	}
	checkDisk(t, "DiskArm", d, impl.Disk{Sectors: []string{"zero", "one"}, Armed: true, Keep: []int{0, 1, 0, 1, 0}})
	for i, data := range []string{"a", "b", "c"} {
		d = writeDisk(t, d, 1, data)
		if got := sectorsOf(t, d); got[1] != data || got[0] != "zero" {
			t.Errorf("write %d of an armed disk is read as %q", i, got)
		}
	}
	x, alive, code := impl.DiskSync(d)
	if alive || code != impl.OK {
		t.Errorf("DiskSync of an armed disk: %v, code %d", alive, code)
	}
	checkDisk(t, "DiskSync of an armed disk", x, impl.Disk{Sectors: []string{"zero", "b"}})
	x = writeDisk(t, x, 0, "e")
	y, alive, code := impl.DiskSync(x)
	if !alive || code != impl.OK {
		t.Errorf("the sync behind that: %v, code %d", alive, code)
	}
	checkDisk(t, "the sync behind that", y, impl.Disk{Sectors: []string{"e", "b"}})
}

func TestSyncOfAllRightDisks(t *testing.T) {
	for name, d := range rightDisks() {
		s, alive, code := impl.DiskSync(d)
		if alive == d.Armed || code != impl.OK {
			t.Errorf("%s: DiskSync %v, code %d", name, alive, code)
		}
		keep := slices.Repeat([]int{1}, len(d.Cache))
		if d.Armed {
			keep = d.Keep
		}
		checkDisk(t, name+", synced", s, afterCrash(d, keep))
		if !d.Armed && !slices.Equal(s.Sectors, sectorsOf(t, d)) {
			t.Errorf("%s: a sync makes other things sure than what is read", name)
		}
		if list, code := impl.DiskPending(s); len(list) != 0 || code != impl.OK {
			t.Errorf("%s: %v is not sure behind a sync, code %d", name, list, code)
		}
	}
}

func TestDiskArmTakesThePlaceOfKeep(t *testing.T) {
	for name, d := range rightDisks() {
		for i, keep := range [][]int{nil, {}, {0}, {7, -7, 0}, make([]int, 499), slices.Repeat([]int{1}, 500)} {
			a, code := impl.DiskArm(d, keep)
			if code != impl.OK || !impl.DiskOK(a) {
				t.Errorf("%s: DiskArm with keep %d: code %d", name, i, code)
			}
			checkDisk(t, name+", armed", a, impl.Disk{Sectors: d.Sectors, Cache: d.Cache, Armed: true, Keep: keep})
		}
	}
}

func TestDiskArmCodes(t *testing.T) {
	right, wrong := rightDisks()["armed"], wrongDisks()["501 writes"]
	for _, x := range []struct {
		name string
		d    impl.Disk
		n    int
		want int
	}{
		{"501 numbers", right, 501, impl.ErrMany},
		{"MaxList numbers", right, impl.MaxList, impl.ErrMany},
		{"MaxList + 1 numbers", right, impl.MaxList + 1, impl.ErrLong},
		{"a wrong disk", wrong, 0, impl.ErrBad},
		{"a wrong disk, 501 numbers", wrong, 501, impl.ErrBad},
		{"a wrong disk, MaxList numbers", wrong, impl.MaxList, impl.ErrBad},
		{"a wrong disk, MaxList + 1 numbers", wrong, impl.MaxList + 1, impl.ErrLong},
	} {
		d, code := impl.DiskArm(x.d, make([]int, x.n))
		if code != x.want {
			t.Errorf("DiskArm, %s: code %d, want %d", x.name, code, x.want)
		}
		checkDisk(t, "DiskArm, "+x.name, d, impl.Disk{})
	}
}

func TestDiskWriteCodes(t *testing.T) {
	right, full, wrong := rightDisks()["armed"], rightDisks()["500 writes"], wrongDisks()["501 writes"]
	armed := rightDisks()["armed, 500 numbers and write"]
	for _, x := range []struct {
		name string
		d    impl.Disk
		at   int
		n    int
		code int
		want impl.Disk
	}{
		{"below the first sector", right, -1, 1, impl.ErrRange, impl.Disk{}},
		{"behind the last sector", right, 4, 1, impl.ErrRange, impl.Disk{}},
		{"far below", right, math.MinInt, 1, impl.ErrRange, impl.Disk{}},
		{"far behind", right, math.MaxInt, 1, impl.ErrRange, impl.Disk{}},
		{"161 bytes", right, 0, impl.SectorSize + 1, impl.ErrRange, impl.Disk{}},
		{"MaxText bytes", right, 0, impl.MaxText, impl.ErrRange, impl.Disk{}},
		{"MaxText + 1 bytes", right, 0, impl.MaxText + 1, impl.ErrLong, impl.Disk{}},
		{"MaxText + 1 bytes to no sector", right, -1, impl.MaxText + 1, impl.ErrLong, impl.Disk{}},
		{"500 writes", full, 0, 1, impl.ErrFull, full},
		{"500 writes, no bytes, the last sector", full, 3, 0, impl.ErrFull, full},
		{"500 writes, armed", armed, 1, impl.SectorSize, impl.ErrFull, armed},
		{"500 writes, no sector", full, 4, 1, impl.ErrRange, impl.Disk{}},
		{"500 writes, 161 bytes", full, 0, impl.SectorSize + 1, impl.ErrRange, impl.Disk{}},
		{"500 writes, MaxText + 1 bytes", full, 0, impl.MaxText + 1, impl.ErrLong, impl.Disk{}},
		{"a wrong disk", wrong, 0, 1, impl.ErrBad, impl.Disk{}},
		{"a wrong disk, no sector", wrong, -1, 1, impl.ErrBad, impl.Disk{}},
		{"a wrong disk, 161 bytes", wrong, 0, impl.SectorSize + 1, impl.ErrBad, impl.Disk{}},
		{"a wrong disk, MaxText bytes", wrong, 0, impl.MaxText, impl.ErrBad, impl.Disk{}},
		{"a wrong disk, MaxText + 1 bytes", wrong, 0, impl.MaxText + 1, impl.ErrLong, impl.Disk{}},
	} {
		d, code := impl.DiskWrite(x.d, x.at, filled(x.n))
		if code != x.code {
			t.Errorf("DiskWrite, %s: code %d, want %d", x.name, code, x.code)
		}
		checkDisk(t, "DiskWrite, "+x.name, d, x.want)
	}
}

func TestDiskWriteAtTheEdges(t *testing.T) {
	for name, d := range rightDisks() {
		if len(d.Cache) == 500 {
			continue
		}
		for _, at := range []int{0, len(d.Sectors) - 1} {
			for _, n := range []int{0, 1, impl.SectorSize - 1, impl.SectorSize} {
				want := d
				want.Cache = append(slices.Clone(d.Cache), write(at, filled(n)))
				got := writeDisk(t, d, at, filled(n))
				checkDisk(t, name+", written", got, want)
				if s, code := impl.DiskRead(got, at); s != filled(n) || code != impl.OK {
					t.Errorf("%s: %d bytes at %d are read as %d bytes, code %d", name, n, at, len(s), code)
				}
			}
		}
	}
}

func TestDiskReadCodes(t *testing.T) {
	for _, n := range []int{1, 4, impl.MaxSectors} {
		d := newDisk(t, n)
		for _, at := range []int{math.MinInt, -1, n, n + 1, math.MaxInt} {
			if s, code := impl.DiskRead(d, at); s != "" || code != impl.ErrRange {
				t.Errorf("DiskRead(%d) of %d sectors: %q, code %d", at, n, s, code)
			}
		}
		d.Sectors[n-1] = "last"
		if s, code := impl.DiskRead(d, n-1); s != "last" || code != impl.OK {
			t.Errorf("DiskRead of the last of %d sectors: %q, code %d", n, s, code)
		}
	}
	for name, d := range wrongDisks() {
		for _, at := range []int{-1, 0, 1, 4, impl.MaxSectors, math.MaxInt} {
			if s, code := impl.DiskRead(d, at); s != "" || code != impl.ErrBad {
				t.Errorf("DiskRead(%d), %s: %.20q, code %d", at, name, s, code)
			}
		}
	}
}

func TestCallsOnWrongDisks(t *testing.T) {
	for name, wrong := range wrongDisks() {
		w, code := impl.DiskWrite(wrong, 0, "a")
		if code != impl.ErrBad {
			t.Errorf("DiskWrite, %s: code %d", name, code)
		}
		checkDisk(t, "DiskWrite, "+name, w, impl.Disk{})
		s, alive, code := impl.DiskSync(wrong)
		if alive || code != impl.ErrBad {
			t.Errorf("DiskSync, %s: %v, code %d", name, alive, code)
		}
		checkDisk(t, "DiskSync, "+name, s, impl.Disk{})
		a, code := impl.DiskArm(wrong, []int{1})
		if code != impl.ErrBad {
			t.Errorf("DiskArm, %s: code %d", name, code)
		}
		checkDisk(t, "DiskArm, "+name, a, impl.Disk{})
		if list, code := impl.DiskPending(wrong); len(list) != 0 || code != impl.ErrBad {
			t.Errorf("DiskPending, %s: %v, code %d", name, list, code)
		}
		for n, want := range map[int]int{0: impl.ErrBad, 501: impl.ErrBad, impl.MaxList: impl.ErrBad, impl.MaxList + 1: impl.ErrLong} {
			c, code := impl.DiskCrash(wrong, make([]int, n))
			if code != want {
				t.Errorf("DiskCrash with %d numbers, %s: code %d, want %d", n, name, code, want)
			}
			checkDisk(t, "DiskCrash, "+name, c, impl.Disk{})
		}
	}
	c, code := impl.DiskCrash(rightDisks()["armed"], make([]int, impl.MaxList+1))
	if code != impl.ErrLong {
		t.Errorf("DiskCrash with MaxList + 1 numbers: code %d", code)
	}
	checkDisk(t, "DiskCrash with MaxList + 1 numbers", c, impl.Disk{})
}
