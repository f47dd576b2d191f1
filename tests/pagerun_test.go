package tests

import (
	"fmt"
	"slices"
	"testing"

	"loop.example/g00332/impl"
)

// plainPage has what a page must have by what was done.
type plainPage struct {
	lsn   int
	slots [impl.MaxSlots]string
}

func (p *plainPage) check(t *testing.T, name string, got impl.Page) {
	t.Helper()
	if !impl.PageOK(got) || got.Lsn != p.lsn || !slices.Equal(got.Slots, p.slots[:]) {
		t.Fatalf("%s: %s, want %d %q", name, tellPage(got), p.lsn, p.slots)
	}
	used := 0
	for _, s := range p.slots {
		if s != "" {
			used++
		}
	}
	if n, code := impl.PageUsed(got); n != used || code != impl.OK {
		t.Fatalf("%s: PageUsed %d, code %d, want %d", name, n, code, used)
	}
}

func (x *dice) record(least int) string {
	b := patterned(least + x.below(impl.MaxRecord+1-least))
	for i := range b {
		b[i] += byte(x.below(256))
	}
	return string(b)
}

func insertStep(t *testing.T, name string, got impl.Page, p *plainPage, data string) impl.Page {
	t.Helper()
	free, want := slices.Index(p.slots[:], ""), impl.OK
	if free >= 0 {
		p.slots[free] = data
	} else {
		free, want = 0, impl.ErrFull
	}
	q, slot, code := impl.PageInsert(got, data)
	if slot != free || code != want {
		t.Fatalf("%s: PageInsert: slot %d, code %d, want %d, %d", name, slot, code, free, want)
	}
	return q
}

func setStep(t *testing.T, name string, got impl.Page, p *plainPage, slot int, data string, lsn int) impl.Page {
	t.Helper()
	p.slots[slot], p.lsn = data, lsn
	q, code := impl.PageSet(got, slot, data, lsn)
	if code != impl.OK {
		t.Fatalf("%s: PageSet: code %d", name, code)
	}
	return q
}

func bytesStep(t *testing.T, name string, got impl.Page, no int) impl.Page {
	t.Helper()
	b, code := impl.PageBytes(no, got)
	if code != impl.OK {
		t.Fatalf("%s: PageBytes: code %d", name, code)
	}
	if _, code := impl.ReadPage((no+1)%256, b); code != impl.ErrForm {
		t.Fatalf("%s: ReadPage of another no: code %d", name, code)
	}
	q, code := impl.ReadPage(no, b)
	if code != impl.OK {
		t.Fatalf("%s: ReadPage: code %d", name, code)
	}
	return q
}

func TestRunsOfAPage(t *testing.T) {
	for run := range 40 {
		x := dice(run)
		got, p := impl.NewPage(), &plainPage{}
		var pages []impl.Page
		var told []string
		for i := range 120 {
			name := fmt.Sprintf("run %d, step %d", run, i)
			switch x.below(4) {
			case 0:
				got = bytesStep(t, name, got, x.below(256))
			case 1:
				got = setStep(t, name, got, p, x.below(impl.MaxSlots), x.record(0), x.below(impl.MaxLsn+1))
			case 2:
				got = setStep(t, name, got, p, x.below(impl.MaxSlots), "", x.below(impl.MaxLsn+1))
			default:
				got = insertStep(t, name, got, p, x.record(1))
			}
			p.check(t, name, got)
			pages, told = append(pages, got), append(told, tellPage(got))
		}
		for i, old := range pages {
			if tellPage(old) != told[i] {
				t.Fatalf("run %d: the page of step %d is another one later", run, i)
			}
		}
	}
}

func TestReadPageOfAllShortBytes(t *testing.T) {
	right := 0
	for _, fields := range allStrings([]byte{0, 1, 2, 4, 'a'}, 7) {
		b := sealed("p\x05\x00\x01" + string(fields))
		p, code := impl.ReadPage(5, []byte(b))
		if code != impl.OK && (code != impl.ErrForm || tellPage(p) != tellPage(impl.Page{})) {
			t.Fatalf("ReadPage(%q): %s, code %d", b, tellPage(p), code)
		}
		if code != impl.OK {
			continue
		}
		right++
		if back, code := impl.PageBytes(5, p); code != impl.OK || string(back) != b {
			t.Errorf("ReadPage(%q) = %s, whose bytes are %q, %d", b, tellPage(p), back, code)
		}
	}
	// Four fields in at most six bytes behind their number: all empty, one of a byte, two of a byte, or one of two.
	if want := 1 + 4*5 + 6*25 + 4*25; right != want {
		t.Errorf("%d are pages, want %d", right, want)
	}
}

// pageByteArguments are right and wrong bytes of page 5.
func pageByteArguments() [][]byte {
	var list [][]byte
	for _, p := range rightPages() {
		b := []byte(sealed(innerPage(5, p)))
		list = append(list, b, b[:len(b)-1], append(slices.Clone(b), 0))
	}
	for _, inner := range sealedNoPages() {
		list = append(list, []byte(sealed(inner)))
	}
	return append(list, byteArguments()...)
}

func TestPagesStandApart(t *testing.T) {
	for name, p := range rightPages() {
		checkPageApart(t, name, p)
	}
	for name, p := range wrongPages() {
		checkPageApart(t, name, p)
	}
	for _, b := range pageByteArguments() {
		checkApart(t, "ReadPage", b, 'x', "spoilt", func(b []byte) ([]string, int) {
			p, code := impl.ReadPage(5, b)
			return p.Slots, code
		})
	}
}

func checkPageApart(t *testing.T, name string, p impl.Page) {
	t.Helper()
	of := func(slots []string) impl.Page { return impl.Page{Lsn: p.Lsn, Slots: slots} }
	checkApart(t, "PageOK, "+name, p.Slots, "spoilt", 0, func(slots []string) ([]int, int) {
		if impl.PageOK(of(slots)) {
			return nil, 1
		}
		return nil, 0
	})
	checkApart(t, "PageUsed, "+name, p.Slots, "spoilt", 0, func(slots []string) ([]int, int) {
		n, code := impl.PageUsed(of(slots))
		return []int{n}, code
	})
	checkApart(t, "PageBytes, "+name, p.Slots, "spoilt", 'x', func(slots []string) ([]byte, int) {
		return impl.PageBytes(5, of(slots))
	})
	for _, data := range []string{"", "data", filled(31), filled(impl.MaxText + 1)} {
		checkApart(t, "PageInsert, "+name, p.Slots, "spoilt", "x", func(slots []string) ([]string, int) {
			q, _, code := impl.PageInsert(of(slots), data)
			return q.Slots, code
		})
		for _, slot := range []int{-1, 0, impl.MaxSlots - 1, impl.MaxSlots} {
			checkApart(t, "PageSet, "+name, p.Slots, "spoilt", "x", func(slots []string) ([]string, int) {
				q, code := impl.PageSet(of(slots), slot, data, 9)
				return q.Slots, code
			})
		}
	}
}

func TestAnswersOfPagesStandApart(t *testing.T) {
	p := page(4, "a", "", "c", "")
	b := sealed(innerPage(5, p))
	for name, call := range map[string]func() impl.Page{
		"NewPage":    impl.NewPage,
		"PageInsert": func() impl.Page { q, _, _ := impl.PageInsert(p, "b"); return q },
		"PageSet":    func() impl.Page { q, _ := impl.PageSet(p, 1, "b", 4); return q },
		"ReadPage":   func() impl.Page { q, _ := impl.ReadPage(5, []byte(b)); return q },
	} {
		first, second := call(), call()
		told := tellPage(second)
		spoil(first.Slots, "spoilt")
		if tellPage(second) != told || tellPage(call()) != told {
			t.Errorf("two answers of %s share memory", name)
		}
	}
	first, _ := impl.PageBytes(5, p)
	second, _ := impl.PageBytes(5, p)
	spoil(first, 'x')
	if string(second) != b {
		t.Error("two answers of PageBytes share memory")
	}
}

// pageCalls are calls of all functions of chapter 4.
func pageCalls() []call {
	list := []call{{"NewPage", func() string { return tellPage(impl.NewPage()) }}}
	add := func(name string, tell func() string) { list = append(list, call{name, tell}) }
	for _, pages := range []map[string]impl.Page{rightPages(), wrongPages()} {
		for _, p := range pages {
			add("PageOK", func() string { return answers(impl.PageOK(p)) })
			add("PageUsed", func() string { n, code := impl.PageUsed(p); return answers(n, code) })
			for _, n := range []int{0, 1, impl.MaxRecord, impl.MaxRecord + 1, impl.MaxText + 1} {
				add("PageInsert", func() string { q, slot, code := impl.PageInsert(p, filled(n)); return answers(tellPage(q), slot, code) })
				for _, number := range numberArguments() {
					add("PageSet", func() string { q, code := impl.PageSet(p, number, filled(n), 7); return answers(tellPage(q), code) })
					add("PageSet", func() string { q, code := impl.PageSet(p, 3, filled(n), number); return answers(tellPage(q), code) })
				}
			}
			for _, no := range numberArguments() {
				add("PageBytes", func() string { return tellList(impl.PageBytes(no, p)) })
			}
		}
	}
	for _, b := range pageByteArguments() {
		for _, no := range append(numberArguments(), 255) {
			add("ReadPage", func() string { p, code := impl.ReadPage(no, b); return answers(tellPage(p), code) })
		}
	}
	return list
}
