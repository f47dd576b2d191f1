package tests

import (
	"fmt"
	"hash/crc32"
	"math"
	"slices"
	"testing"

	"loop.example/g00332/impl"
)

// tellPage tells nil and an empty list alike: they are the same value.
func tellPage(p impl.Page) string { return fmt.Sprintf("lsn %d slots %q", p.Lsn, p.Slots) }

func checkPage(t *testing.T, name string, got, want impl.Page) {
	t.Helper()
	if tellPage(got) != tellPage(want) {
		t.Errorf("%s: %.300s\nwant %.300s", name, tellPage(got), tellPage(want))
	}
}

func page(lsn int, slots ...string) impl.Page { return impl.Page{Lsn: lsn, Slots: slots} }

// pagesOfUse are all pages of which some slots have a record, and which of them have.
func pagesOfUse() map[[impl.MaxSlots]bool]impl.Page {
	pages := map[[impl.MaxSlots]bool]impl.Page{}
	for bits := range 1 << impl.MaxSlots {
		p := page(bits+1, make([]string, impl.MaxSlots)...)
		var used [impl.MaxSlots]bool
		for slot := range p.Slots {
			used[slot] = bits>>slot&1 == 1
			if used[slot] {
				p.Slots[slot] = fmt.Sprint("record ", slot)
			}
		}
		pages[used] = p
	}
	return pages
}

func rightPages() map[string]impl.Page {
	pages := map[string]impl.Page{
		"a full page":             page(9, "one", "two", "three", "four"),
		"MaxRecord bytes":         page(3, filled(impl.MaxRecord), "", filled(impl.MaxRecord), "a"),
		"MaxRecord bytes in all":  page(impl.MaxLsn, filled(30), filled(30), filled(30), filled(30)),
		"any bytes":               page(77, "\x00", "\xff\xfe", string(patterned(impl.MaxRecord)), "\n"),
		"noughts":                 page(0, "\x00", "\x00\x00", string(make([]byte, impl.MaxRecord)), ""),
		"records like sealed":     page(5, "p\x05\x00\x05\x04", "\x04", "p", "l"),
		"alike records":           page(2, "a", "a", "a", "a"),
		"the last slot alone":     page(1, "", "", "", "z"),
		"the first slot alone":    page(1, "z", "", "", ""),
		"a record of 29 and 30":   page(1, filled(29), filled(30), "", "b"),
		"empty, with MaxLsn":      page(impl.MaxLsn, "", "", "", ""),
		"empty, one below MaxLsn": page(impl.MaxLsn-1, "", "", "", ""),
	}
	for _, lsn := range []int{0, 1, 2, 127, 128, 255, 256, 257, 511, 512, 768} {
		pages[fmt.Sprint("lsn ", lsn)] = page(lsn, "a", "", "bc", "")
	}
	for used, p := range pagesOfUse() {
		pages[fmt.Sprint("used ", used)] = p
	}
	return pages
}

func wrongPages() map[string]impl.Page {
	pages := map[string]impl.Page{
		"nothing":                     {},
		"an lsn alone":                {Lsn: 5},
		"no slots":                    page(1),
		"1 slot":                      page(1, "a"),
		"3 slots":                     page(1, "a", "b", "c"),
		"3 empty slots":               page(0, "", "", ""),
		"5 slots":                     page(1, "a", "b", "c", "d", "e"),
		"5 empty slots":               page(0, "", "", "", "", ""),
		"5 slots, the last one empty": page(1, "a", "b", "c", "d", ""),
		"MaxList slots":               page(1, make([]string, impl.MaxList)...),
		"MaxList + 1 slots":           page(1, make([]string, impl.MaxList+1)...),
		"5 slots, one too long":       page(1, "", filled(31), "", "", ""),
		"lsn -1 and a long record":    page(-1, "", filled(31), "", ""),
	}
	for _, lsn := range []int{-1, impl.MaxLsn + 1, -impl.MaxLsn, 65535, 65536, 65537, 1 << 32, -1 << 32, math.MinInt, math.MaxInt} {
		pages[fmt.Sprint("lsn ", lsn)] = page(lsn, "a", "", "b", "")
	}
	for slot := range impl.MaxSlots {
		for _, n := range []int{impl.MaxRecord + 1, 255, 256, 286, impl.MaxText, impl.MaxText + 1} {
			p := page(1, "", "", "", "")
			p.Slots[slot] = filled(n)
			pages[fmt.Sprintf("%d bytes in slot %d", n, slot)] = p
		}
	}
	return pages
}

func TestPageConstants(t *testing.T) {
	if impl.MaxSlots != 4 || impl.MaxRecord != 30 || impl.MaxLsn != 1000 {
		t.Error("constants of chapter 4")
	}
}

func TestNewPage(t *testing.T) {
	p := impl.NewPage()
	checkPage(t, "NewPage", p, page(0, "", "", "", ""))
	if n, code := impl.PageUsed(p); n != 0 || code != impl.OK || !impl.PageOK(p) {
		t.Errorf("a new page has %d records, code %d", n, code)
	}
}

func TestRightPages(t *testing.T) {
	for name, p := range rightPages() {
		if !impl.PageOK(p) {
			t.Errorf("%s: not right", name)
		}
	}
	for name, p := range wrongPages() {
		if impl.PageOK(p) {
			t.Errorf("%s: right", name)
		}
	}
}

func TestRecordsStandWhereTheyWerePut(t *testing.T) {
	for _, lsn := range []int{0, 8, impl.MaxLsn} {
		p := page(lsn, "", "", "", "")
		for i, data := range []string{"a", filled(impl.MaxRecord), "\x00", "a"} {
			q, slot, code := impl.PageInsert(p, data)
			if slot != i || code != impl.OK || !impl.PageOK(q) {
				t.Fatalf("record %d comes into slot %d, code %d", i, slot, code)
			}
			want := page(lsn, slices.Clone(p.Slots)...)
			want.Slots[i] = data
			checkPage(t, fmt.Sprint("record ", i), q, want)
			if n, code := impl.PageUsed(q); n != i+1 || code != impl.OK {
				t.Errorf("behind record %d there are %d, code %d", i, n, code)
			}
			p = q
		}
		full, slot, code := impl.PageInsert(p, "more")
		if slot != 0 || code != impl.ErrFull {
			t.Errorf("record 5: slot %d, code %d", slot, code)
		}
		checkPage(t, "a full page, behind record 5", full, p)
	}
}

func TestInsertTakesTheFirstSlotWithoutARecord(t *testing.T) {
	for used, p := range pagesOfUse() {
		for _, n := range []int{1, 2, impl.MaxRecord - 1, impl.MaxRecord} {
			want, first, wantCode := page(p.Lsn, slices.Clone(p.Slots)...), 0, impl.ErrFull
			if free := slices.Index(used[:], false); free >= 0 {
				want.Slots[free] = filled(n)
				first, wantCode = free, impl.OK
			}
			q, slot, code := impl.PageInsert(p, filled(n))
			if slot != first || code != wantCode {
				t.Errorf("used %v: slot %d, code %d, want %d, %d", used, slot, code, first, wantCode)
			}
			checkPage(t, fmt.Sprintf("used %v, %d bytes put", used, n), q, want)
		}
	}
}

func TestInsertCodes(t *testing.T) {
	right, full := page(6, "a", "", "c", ""), page(6, "a", "b", "c", "d")
	for _, x := range []struct {
		name string
		n    int
		want int
	}{
		{"no bytes", 0, impl.ErrRange},
		{"MaxRecord + 1 bytes", impl.MaxRecord + 1, impl.ErrRange},
		{"256 bytes", 256, impl.ErrRange},
		{"MaxText bytes", impl.MaxText, impl.ErrRange},
		{"MaxText + 1 bytes", impl.MaxText + 1, impl.ErrLong},
	} {
		for _, p := range []impl.Page{right, full} {
			q, slot, code := impl.PageInsert(p, filled(x.n))
			if slot != 0 || code != x.want {
				t.Errorf("PageInsert, %s: slot %d, code %d, want %d", x.name, slot, code, x.want)
			}
			checkPage(t, "PageInsert, "+x.name, q, impl.Page{})
		}
	}
	for name, wrong := range wrongPages() {
		for n, want := range map[int]int{0: impl.ErrBad, 1: impl.ErrBad, 30: impl.ErrBad, 31: impl.ErrBad,
			impl.MaxText: impl.ErrBad, impl.MaxText + 1: impl.ErrLong} {
			q, slot, code := impl.PageInsert(wrong, filled(n))
			if slot != 0 || code != want {
				t.Errorf("PageInsert of %d bytes, %s: slot %d, code %d, want %d", n, name, slot, code, want)
			}
			checkPage(t, "PageInsert, "+name, q, impl.Page{})
		}
	}
}

func TestSetAtTheEdges(t *testing.T) {
	for name, p := range rightPages() {
		for slot := range impl.MaxSlots {
			for _, n := range []int{0, 1, impl.MaxRecord - 1, impl.MaxRecord} {
				for _, lsn := range []int{0, 1, p.Lsn, 256, impl.MaxLsn - 1, impl.MaxLsn} {
					want := page(lsn, slices.Clone(p.Slots)...)
					want.Slots[slot] = filled(n)
					q, code := impl.PageSet(p, slot, filled(n), lsn)
					if code != impl.OK || !impl.PageOK(q) {
						t.Errorf("%s: PageSet of slot %d to %d bytes: code %d", name, slot, n, code)
					}
					checkPage(t, name+", set", q, want)
				}
			}
		}
	}
}

func TestSlotsAreSetAndEmptied(t *testing.T) {
	p := impl.NewPage()
	for i, x := range []struct {
		slot int
		data string
		lsn  int
		used int
		want []string
	}{
		{2, "c", 4, 1, []string{"", "", "c", ""}},
		{0, "a", 3, 2, []string{"a", "", "c", ""}},
		{2, "C", 5, 2, []string{"a", "", "C", ""}},
		{2, "", 6, 1, []string{"a", "", "", ""}},
		{2, "", impl.MaxLsn, 1, []string{"a", "", "", ""}},
		{3, "d", 0, 2, []string{"a", "", "", "d"}},
		{0, "", 7, 1, []string{"", "", "", "d"}},
		{3, "", 8, 0, []string{"", "", "", ""}},
	} {
		q, code := impl.PageSet(p, x.slot, x.data, x.lsn)
		if code != impl.OK {
			t.Fatalf("set %d: code %d", i, code)
		}
		checkPage(t, fmt.Sprint("set ", i), q, page(x.lsn, x.want...))
		if n, code := impl.PageUsed(q); n != x.used || code != impl.OK {
			t.Errorf("behind set %d there are %d records, code %d", i, n, code)
		}
		p = q
	}
}

func TestSetCodes(t *testing.T) {
	right := page(6, "a", "b", "", "d")
	for _, x := range []struct {
		name         string
		slot, n, lsn int
		want         int
	}{
		{"slot -1", -1, 1, 1, impl.ErrRange},
		{"the slot behind the last", impl.MaxSlots, 1, 1, impl.ErrRange},
		{"a slot far below", math.MinInt, 1, 1, impl.ErrRange},
		{"a slot far behind", math.MaxInt, 1, 1, impl.ErrRange},
		{"slot 256", 256, 1, 1, impl.ErrRange},
		{"MaxRecord + 1 bytes", 0, impl.MaxRecord + 1, 1, impl.ErrRange},
		{"MaxText bytes", 0, impl.MaxText, 1, impl.ErrRange},
		{"lsn -1", 0, 1, -1, impl.ErrRange},
		{"lsn MaxLsn + 1", 0, 1, impl.MaxLsn + 1, impl.ErrRange},
		{"lsn 65536", 0, 1, 65536, impl.ErrRange},
		{"an lsn far below", 0, 1, math.MinInt, impl.ErrRange},
		{"an lsn far beyond", 0, 1, math.MaxInt, impl.ErrRange},
		{"all of them", -1, impl.MaxRecord + 1, -1, impl.ErrRange},
		{"MaxText + 1 bytes", 0, impl.MaxText + 1, 1, impl.ErrLong},
		{"MaxText + 1 bytes, and all of them", -1, impl.MaxText + 1, -1, impl.ErrLong},
	} {
		q, code := impl.PageSet(right, x.slot, filled(x.n), x.lsn)
		if code != x.want {
			t.Errorf("PageSet, %s: code %d, want %d", x.name, code, x.want)
		}
		checkPage(t, "PageSet, "+x.name, q, impl.Page{})
		for name, wrong := range wrongPages() {
			want := impl.ErrBad
			if x.n > impl.MaxText {
				want = impl.ErrLong
			}
			q, code := impl.PageSet(wrong, x.slot, filled(x.n), x.lsn)
			if code != want {
				t.Errorf("PageSet, %s, %s: code %d, want %d", name, x.name, code, want)
			}
			checkPage(t, "PageSet, "+name+", "+x.name, q, impl.Page{})
		}
	}
	for name, wrong := range wrongPages() {
		q, code := impl.PageSet(wrong, 0, "", 0)
		if code != impl.ErrBad {
			t.Errorf("PageSet, %s: code %d", name, code)
		}
		checkPage(t, "PageSet, "+name, q, impl.Page{})
	}
}

func TestPageUsed(t *testing.T) {
	for used, p := range pagesOfUse() {
		want := 0
		for _, is := range used {
			if is {
				want++
			}
		}
		if n, code := impl.PageUsed(p); n != want || code != impl.OK {
			t.Errorf("used %v: %d, code %d", used, n, code)
		}
	}
	for name, wrong := range wrongPages() {
		if n, code := impl.PageUsed(wrong); n != 0 || code != impl.ErrBad {
			t.Errorf("PageUsed, %s: %d, code %d", name, n, code)
		}
	}
}

// sealed says the document's form once more, with the library's sum.
func sealed(b string) string {
	n := crc32.ChecksumIEEE([]byte(b))
	return b + string([]byte{byte(n >> 24), byte(n >> 16), byte(n >> 8), byte(n)})
}

// innerPage is what of a page's bytes is sealed.
func innerPage(no int, p impl.Page) string {
	return "p" + string([]byte{byte(no), byte(p.Lsn / 256), byte(p.Lsn % 256)}) + bytesOfFields(p.Slots)
}

var pageNumbers = []int{0, 1, 5, 7, 127, 128, 254, 255}

func TestPagesAreReadBack(t *testing.T) {
	for name, p := range rightPages() {
		for _, no := range pageNumbers {
			b, code := impl.PageBytes(no, p)
			if code != impl.OK || string(b) != sealed(innerPage(no, p)) {
				t.Fatalf("%s: PageBytes of no %d: %q, code %d", name, no, b, code)
			}
			if len(b) > impl.SectorSize {
				t.Errorf("%s: %d bytes go into no sector", name, len(b))
			}
			back, code := impl.ReadPage(no, b)
			if code != impl.OK {
				t.Errorf("%s: ReadPage of no %d: code %d", name, no, code)
			}
			checkPage(t, name+", read back", back, p)
		}
	}
}

func TestBytesOfOnePage(t *testing.T) {
	for _, x := range []struct {
		no   int
		p    impl.Page
		want string
	}{
		{0, page(0, "", "", "", ""), "p\x00\x00\x00\x04\x00\x00\x00\x00"},
		{255, page(1000, "", "", "", "ab"), "p\xff\x03\xe8\x04\x00\x00\x00\x02ab"},
		{7, page(256, "a", "", "\x00", ""), "p\x07\x01\x00\x04\x01a\x00\x01\x00\x00"},
		{112, page(255, filled(30), "", "", ""), "pp\x00\xff\x04\x1e" + filled(30) + "\x00\x00\x00"},
	} {
		if b, code := impl.PageBytes(x.no, x.p); code != impl.OK || string(b) != sealed(x.want) {
			t.Errorf("PageBytes of no %d: %q, code %d", x.no, b, code)
		}
		back, code := impl.ReadPage(x.no, []byte(sealed(x.want)))
		if code != impl.OK {
			t.Errorf("ReadPage of no %d: code %d", x.no, code)
		}
		checkPage(t, fmt.Sprint("ReadPage of no ", x.no), back, x.p)
	}
}

func TestPageBytesCodes(t *testing.T) {
	beyond := []int{math.MinInt, -256, -255, -1, 256, 257, 511, 512, 1 << 32, math.MaxInt}
	for _, no := range beyond {
		if b, code := impl.PageBytes(no, page(1, "a", "", "", "")); len(b) != 0 || code != impl.ErrRange {
			t.Errorf("PageBytes of no %d: %q, code %d", no, b, code)
		}
	}
	for name, wrong := range wrongPages() {
		for _, no := range append(beyond, pageNumbers...) {
			if b, code := impl.PageBytes(no, wrong); len(b) != 0 || code != impl.ErrBad {
				t.Errorf("PageBytes of no %d, %s: %q, code %d", no, name, b, code)
			}
		}
	}
}

func checkNoPage(t *testing.T, name string, no int, b string, want int) {
	t.Helper()
	p, code := impl.ReadPage(no, []byte(b))
	if code != want {
		t.Errorf("ReadPage of no %d, %s: code %d, want %d", no, name, code, want)
	}
	checkPage(t, "ReadPage, "+name, p, impl.Page{})
}

func TestPagesThatAreNotSealed(t *testing.T) {
	for name, p := range rightPages() {
		b := sealed(innerPage(5, p))
		for bit := range 8 * len(b) {
			turned := []byte(b)
			turned[bit/8] ^= 1 << (bit % 8)
			checkNoPage(t, fmt.Sprintf("%s, bit %d turned", name, bit), 5, string(turned), impl.ErrSum)
		}
		for cut := range len(b) {
			checkNoPage(t, fmt.Sprintf("%s, cut at %d", name, cut), 5, b[:cut], impl.ErrSum)
			checkNoPage(t, fmt.Sprintf("%s, from %d on", name, cut+1), 5, b[cut+1:], impl.ErrSum)
		}
		for more := range 256 {
			c := string([]byte{byte(more)})
			checkNoPage(t, fmt.Sprintf("%s, byte %d behind", name, more), 5, b+c, impl.ErrSum)
			checkNoPage(t, fmt.Sprintf("%s, byte %d ahead", name, more), 5, c+b, impl.ErrSum)
		}
	}
}

func TestPagesSealedOtherwise(t *testing.T) {
	inner := innerPage(5, page(8, "one", "", "three", "four"))
	sum := []byte(sealed(inner)[len(inner):])
	part := func(b string) string { return inner + sealed(b)[len(b):] }
	turned := slices.Clone(sum)
	slices.Reverse(turned)
	other := []byte{^sum[0], ^sum[1], ^sum[2], ^sum[3]}
	for name, b := range map[string]string{
		"no sum":                        inner,
		"the sum of the fields alone":   part(inner[4:]),
		"the sum without the letter":    part(inner[1:]),
		"the sum without the last byte": part(inner[:len(inner)-1]),
		"the sum of nothing":            part(""),
		"the sum's lower bytes first":   inner + string(turned),
		"the sum's other bits":          inner + string(other),
		"the sum ahead":                 string(sum) + inner,
		"three bytes of the sum":        inner + string(sum[:3]),
		"the sum twice":                 inner + string(sum) + string(sum),
		"noughts":                       inner + "\x00\x00\x00\x00",
		"nothing":                       "",
		"one byte":                      "\x00",
		"three bytes":                   "\x00\x00\x00",
		"four bytes":                    "\x00\x00\x00\x01",
		"four bytes of 255":             "\xff\xff\xff\xff",
		"five noughts":                  "\x00\x00\x00\x00\x00",
		"a letter":                      "p",
		"MaxText bytes":                 string(patterned(impl.MaxText)),
	} {
		for _, no := range []int{5, 4, -1, 256, 261} {
			checkNoPage(t, name, no, b, impl.ErrSum)
		}
	}
}

// sealedNoPages are sealed, and of no page number 5.
func sealedNoPages() map[string]string {
	right := innerPage(5, page(8, "one", "", "three", "four"))
	ahead := right[:4]
	list := map[string]string{
		"nothing":                    "",
		"a letter":                   "p",
		"up to the number":           "p\x05",
		"up to one byte of the lsn":  "p\x05\x00",
		"no fields":                  ahead,
		"a field's length without":   ahead + "\x04\x00\x00\x00",
		"a field cut short":          right[:len(right)-1],
		"a nought behind":            right + "\x00",
		"a field behind":             right + "\x01a",
		"another page behind":        right + right,
		"sealed twice":               sealed(right),
		"an lsn beyond MaxLsn":       "p\x05\x03\xe9" + right[4:],
		"the greatest lsn":           "p\x05\xff\xff" + right[4:],
		"an lsn of 1024":             "p\x05\x04\x00" + right[4:],
		"an lsn of one byte":         "p\x05\x08" + right[4:],
		"an lsn of three bytes":      "p\x05\x00\x00\x08" + right[4:],
		"101 fields":                 ahead + bytesOfFields(make([]string, 101)),
		"255 fields":                 ahead + bytesOfFields(make([]string, 255)),
		"MaxText - 4 noughts":        string(make([]byte, impl.MaxText-4)),
		"MaxText - 4 bytes of any":   string(patterned(impl.MaxText - 4)),
		"MaxText - 4 bytes, of it p": right + string(make([]byte, impl.MaxText-4-len(right))),
	}
	for c := range 256 {
		if c != 'p' {
			list[fmt.Sprintf("first byte %d", c)] = string([]byte{byte(c)}) + right[1:]
		}
		if c != 5 {
			list[fmt.Sprintf("number %d", c)] = "p" + string([]byte{byte(c)}) + right[2:]
		}
	}
	for _, n := range []int{0, 1, 2, 3, 5, 6, 99, 100} {
		list[fmt.Sprint(n, " fields")] = ahead + bytesOfFields(make([]string, n))
		list[fmt.Sprint(n, " fields of a byte")] = ahead + bytesOfFields(slices.Repeat([]string{"a"}, n))
	}
	for slot := range impl.MaxSlots {
		for _, n := range []int{impl.MaxRecord + 1, 32, 254, 255} {
			slots := make([]string, impl.MaxSlots)
			slots[slot] = filled(n)
			list[fmt.Sprintf("%d bytes in slot %d", n, slot)] = ahead + bytesOfFields(slots)
		}
	}
	return list
}

func TestSealedBytesThatAreNoPages(t *testing.T) {
	for name, inner := range sealedNoPages() {
		checkNoPage(t, name, 5, sealed(inner), impl.ErrForm)
	}
	right := sealed(innerPage(5, page(8, "one", "", "three", "four")))
	for _, no := range []int{math.MinInt, math.MinInt + 5, -1<<32 + 5, -251, -5, -1, 0, 4, 6, 255, 256, 261, 65541, 1<<32 + 5, math.MaxInt} {
		checkNoPage(t, "of no 5", no, right, impl.ErrForm)
	}
}

func TestReadPageBeyondMaxText(t *testing.T) {
	for _, no := range []int{5, 4, -1, 256} {
		checkNoPage(t, "MaxText noughts", no, string(make([]byte, impl.MaxText)), impl.ErrSum)
		checkNoPage(t, "MaxText bytes, sealed", no, sealed(string(patterned(impl.MaxText-4))), impl.ErrForm)
		checkNoPage(t, "MaxText + 1 bytes, sealed", no, sealed(string(patterned(impl.MaxText-3))), impl.ErrLong)
		checkNoPage(t, "MaxText + 1 noughts", no, string(make([]byte, impl.MaxText+1)), impl.ErrLong)
		// Check32 is 0 of so many bytes.
		checkNoPage(t, "MaxText + 5 bytes, the last ones noughts", no, filled(impl.MaxText+1)+"\x00\x00\x00\x00", impl.ErrLong)
	}
}
