package tests

import (
	"fmt"
	"maps"
	"math"
	"slices"
	"testing"

	"loop.example/g00332/impl"
)

func begin(epoch, lsn, tx int) impl.LogRecord {
	return impl.LogRecord{Epoch: epoch, Lsn: lsn, Tx: tx, Kind: impl.LoBegin}
}

func update(epoch, lsn, tx, prev int, before, after string) impl.LogRecord {
	return impl.LogRecord{Epoch: epoch, Lsn: lsn, Tx: tx, Kind: impl.LoUpdate, Prev: prev, Page: 3, Slot: 2, Before: before, After: after}
}

func clr(epoch, lsn, tx, prev, next int, after string) impl.LogRecord {
	return impl.LogRecord{Epoch: epoch, Lsn: lsn, Tx: tx, Kind: impl.LoClr, Prev: prev, Next: next, Page: 3, Slot: 2, After: after}
}

func commit(epoch, lsn, tx, prev int) impl.LogRecord {
	return impl.LogRecord{Epoch: epoch, Lsn: lsn, Tx: tx, Kind: impl.LoCommit, Prev: prev}
}

func end(epoch, lsn, tx, prev int) impl.LogRecord {
	return impl.LogRecord{Epoch: epoch, Lsn: lsn, Tx: tx, Kind: impl.LoEnd, Prev: prev}
}

func check(epoch, lsn int, after string) impl.LogRecord {
	return impl.LogRecord{Epoch: epoch, Lsn: lsn, Kind: impl.LoCheck, After: after}
}

// pairs are the bytes of one list of a checkpoint: how many, then each number and its lsn.
func pairs(list ...[2]int) string {
	b := []byte{byte(len(list))}
	for _, p := range list {
		b = append(b, byte(p[0]), byte(p[1]))
	}
	return string(b)
}

// pairsFrom are n numbers from the least one on, all with one lsn.
func pairsFrom(least, n, lsn int) string {
	var list [][2]int
	for i := range n {
		list = append(list, [2]int{least + i, lsn})
	}
	return pairs(list...)
}

// oneOfEach is a right record of each kind that all edges are set in.
func oneOfEach() []impl.LogRecord {
	return []impl.LogRecord{
		begin(3, 9, 4),
		update(3, 9, 4, 8, "old", "new"),
		clr(3, 9, 4, 8, 5, "old"),
		commit(3, 9, 4, 8),
		end(3, 9, 4, 8),
		check(3, 9, pairs([2]int{1, 7}, [2]int{6, 2})+pairs([2]int{4, 8}, [2]int{5, 1})),
	}
}

// part is one number of a record.
type part struct {
	name string
	of   func(r *impl.LogRecord) *int
}

func parts() []part {
	return []part{
		{"Epoch", func(r *impl.LogRecord) *int { return &r.Epoch }},
		{"Lsn", func(r *impl.LogRecord) *int { return &r.Lsn }},
		{"Tx", func(r *impl.LogRecord) *int { return &r.Tx }},
		{"Kind", func(r *impl.LogRecord) *int { return &r.Kind }},
		{"Prev", func(r *impl.LogRecord) *int { return &r.Prev }},
		{"Next", func(r *impl.LogRecord) *int { return &r.Next }},
		{"Page", func(r *impl.LogRecord) *int { return &r.Page }},
		{"Slot", func(r *impl.LogRecord) *int { return &r.Slot }},
	}
}

// bounds are the least and the most that the document lets each number of a kind be, beside Epoch, Lsn and Kind.
func bounds(kind, lsn int) map[string][2]int {
	b := map[string][2]int{"Tx": {1, impl.MaxTx}, "Prev": {1, lsn - 1}, "Next": {0, 0}, "Page": {0, 0}, "Slot": {0, 0}}
	switch kind {
	case impl.LoBegin:
		b["Prev"] = [2]int{0, 0}
	case impl.LoUpdate:
		b["Page"], b["Slot"] = [2]int{0, 7}, [2]int{0, 3}
	case impl.LoClr:
		b["Page"], b["Slot"], b["Next"] = [2]int{0, 7}, [2]int{0, 3}, [2]int{0, lsn - 1}
	case impl.LoCheck:
		b["Tx"], b["Prev"] = [2]int{0, 0}, [2]int{0, 0}
	}
	return b
}

// kindsOf are the kinds that one of each kind could have as well: a commit or an end has nothing that an update has not.
func kindsOf(kind int) [2]int {
	if kind == impl.LoCommit || kind == impl.LoEnd {
		return [2]int{impl.LoUpdate, impl.LoEnd}
	}
	return [2]int{kind, kind}
}

// bytesOfRecord says the document's form once more.
func bytesOfRecord(r impl.LogRecord) string {
	b := []byte{'l'}
	for _, p := range parts() {
		b = append(b, byte(*p.of(&r)))
	}
	return sealed(string(b) + bytesOfFields([]string{r.Before, r.After}))
}

var wideNumbers = []int{math.MinInt, -1 << 32, -257, -256, -255, -60, -1, 0, 1, 2, 3, 4, 5, 6, 7, 8, 9, 10, 11, 59, 60, 61, 62, 127,
	128, 255, 256, 257, 258, 259, 260, 264, 265, 316, 512, 65536, 65537, 1 << 32, 1<<32 + 1, math.MaxInt}

// edgeRecords are right records and wrong ones, each of which differs in one number from one of each kind.
func edgeRecords() (right, wrong map[string]impl.LogRecord) {
	right, wrong = map[string]impl.LogRecord{}, map[string]impl.LogRecord{}
	for _, base := range oneOfEach() {
		for _, p := range parts() {
			for _, n := range wideNumbers {
				r := base
				*p.of(&r) = n
				if p.name == "Lsn" && 1 <= n && n < 9 {
					// What it tells of the log ahead of it would stand behind it then.
					continue
				}
				within := map[string][2]int{"Epoch": {1, 60}, "Lsn": {1, 60}, "Kind": kindsOf(base.Kind)}
				maps.Copy(within, bounds(base.Kind, base.Lsn))
				name := fmt.Sprintf("kind %d, %s %d", base.Kind, p.name, n)
				if b := within[p.name]; b[0] <= n && n <= b[1] {
					right[name] = r
				} else {
					wrong[name] = r
				}
			}
		}
	}
	return right, wrong
}

func rightRecords() map[string]impl.LogRecord {
	list, _ := edgeRecords()
	longest := func(r impl.LogRecord) impl.LogRecord {
		r.Page, r.Slot, r.After = 7, 3, filled(30)
		return r
	}
	maps.Copy(list, map[string]impl.LogRecord{
		"the first begin":            begin(1, 1, 1),
		"the last begin":             begin(60, 60, 60),
		"an empty update":            update(1, 2, 1, 1, "", ""),
		"an update of what comes":    update(1, 2, 1, 1, "", "new"),
		"an update of what goes":     update(1, 2, 1, 1, "old", ""),
		"a Before of 30 bytes":       update(1, 2, 1, 1, filled(30), "a"),
		"an After of 30 bytes":       update(1, 2, 1, 1, "a", filled(30)),
		"the longest update":         longest(update(60, 60, 60, 59, string(patterned(30)), "")),
		"an update of noughts":       update(1, 2, 1, 1, "\x00", string(make([]byte, 30))),
		"an update of the first Lsn": update(1, 60, 1, 1, "a", "b"),
		"the longest CLR":            longest(clr(60, 60, 60, 59, 59, "")),
		"an empty CLR":               clr(1, 3, 1, 2, 1, ""),
		"a CLR behind Prev":          clr(1, 9, 1, 2, 8, "a"),
		"a CLR of Next 0":            clr(1, 2, 1, 1, 0, "a"),
		"a CLR of Next 1":            clr(1, 2, 1, 1, 1, "a"),
		"the first commit":           commit(1, 2, 1, 1),
		"the last commit":            commit(60, 60, 60, 59),
		"the first end":              end(1, 2, 1, 1),
		"the last end":               end(60, 60, 60, 1),
	})
	for name, after := range rightChecks() {
		list["check: "+name] = check(2, 9, after)
		list["check of the last Lsn: "+name] = check(2, impl.MaxLog, after)
	}
	list["a check that is the first record"] = check(1, 1, "\x00\x00")
	list["a check of the record ahead"] = check(60, 60, pairs([2]int{7, 59})+pairs([2]int{60, 59}))
	list["a check of the first record"] = check(1, 2, pairs([2]int{0, 1})+pairs([2]int{1, 1}))
	return list
}

// rightChecks and wrongChecks are what LoCheck of Lsn 9 has, or has not, as After.
func rightChecks() map[string]string {
	return map[string]string{
		"nothing":                     "\x00\x00",
		"page 0":                      "\x01\x00\x01\x00",
		"page 7, lsn 8":               "\x01\x07\x08\x00",
		"transaction 1":               "\x00\x01\x01\x01",
		"transaction 60, lsn 8":       "\x00\x01\x3c\x08",
		"two of each":                 "\x02\x00\x02\x07\x04\x02\x03\x04\x04\x05",
		"lsns that fall":              pairs([2]int{1, 8}, [2]int{2, 3}, [2]int{3, 1}) + pairs([2]int{1, 8}, [2]int{2, 7}),
		"alike lsns":                  pairs([2]int{1, 5}, [2]int{4, 5}) + pairs([2]int{1, 5}, [2]int{2, 5}),
		"MaxPages pages":              pairsFrom(0, 8, 3) + "\x00",
		"10 transactions":             "\x00" + pairsFrom(1, 10, 3),
		"MaxPages and 10":             pairsFrom(0, 8, 8) + pairsFrom(51, 10, 8),
		"the same numbers":            pairs([2]int{3, 2}, [2]int{5, 2}) + pairs([2]int{3, 2}, [2]int{5, 2}),
		"numbers with gaps":           pairs([2]int{0, 1}, [2]int{2, 1}, [2]int{7, 1}) + pairs([2]int{9, 1}, [2]int{30, 2}, [2]int{60, 3}),
		"transactions below its page": pairs([2]int{7, 1}) + pairs([2]int{1, 1}),
	}
}

func wrongChecks() map[string]string {
	list := map[string]string{
		"empty":                         "",
		"9 pages":                       pairsFrom(0, 9, 3) + "\x00",
		"9 pages of 0 to 7":             pairs([2]int{0, 1}, [2]int{1, 1}, [2]int{2, 1}, [2]int{3, 1}, [2]int{4, 1}, [2]int{5, 1}, [2]int{6, 1}, [2]int{7, 1}, [2]int{7, 2}) + "\x00",
		"255 pages":                     pairsFrom(0, 255, 3) + "\x00",
		"11 transactions":               "\x00" + pairsFrom(1, 11, 3),
		"60 transactions":               "\x00" + pairsFrom(1, 60, 3),
		"page 8":                        "\x01\x08\x01\x00",
		"page 255":                      "\x01\xff\x01\x00",
		"page 8 behind":                 pairs([2]int{0, 1}, [2]int{8, 1}) + "\x00",
		"transaction 0":                 "\x00\x01\x00\x01",
		"transaction 61":                "\x00\x01\x3d\x01",
		"transaction 255":               "\x00\x01\xff\x01",
		"a page's lsn 0":                "\x01\x01\x00\x00",
		"a page's lsn Lsn":              "\x01\x01\x09\x00",
		"a page's lsn 255":              "\x01\x01\xff\x00",
		"a second page's lsn 0":         pairs([2]int{1, 1}, [2]int{2, 0}) + "\x00",
		"a second page's lsn Lsn":       pairs([2]int{1, 1}, [2]int{2, 9}) + "\x00",
		"a transaction's lsn 0":         "\x00\x01\x01\x00",
		"a transaction's lsn Lsn":       "\x00\x01\x01\x09",
		"a transaction's lsn above Lsn": "\x00\x01\x01\x0a",
		"a second transaction's lsn 0":  "\x00" + pairs([2]int{1, 1}, [2]int{2, 0}),
		"pages that fall":               pairs([2]int{2, 1}, [2]int{1, 2}) + "\x00",
		"pages that fall at the end":    pairs([2]int{2, 1}, [2]int{4, 2}, [2]int{3, 3}) + "\x00",
		"a page twice":                  pairs([2]int{2, 1}, [2]int{2, 1}) + "\x00",
		"a page twice, of rising lsns":  pairs([2]int{2, 1}, [2]int{2, 2}) + "\x00",
		"transactions that fall":        "\x00" + pairs([2]int{2, 1}, [2]int{1, 2}),
		"a transaction twice":           "\x00" + pairs([2]int{2, 1}, [2]int{2, 1}),
		"a transaction twice, rising":   "\x00" + pairs([2]int{2, 1}, [2]int{2, 2}),
		"MaxRecord bytes of no check":   filled(impl.MaxRecord),
		"MaxText bytes":                 string(make([]byte, impl.MaxText)),
		"MaxText + 1 bytes":             string(make([]byte, impl.MaxText+1)),
		"noughts":                       "\x00\x00\x00\x00\x00",
	}
	for name, right := range rightChecks() {
		for cut := range len(right) {
			list[fmt.Sprintf("%s, cut at %d", name, cut)] = right[:cut]
		}
		for _, more := range []string{"\x00", "\x01", "\x09", "a", "\x00\x00", "\x01\x01\x01"} {
			list[fmt.Sprintf("%s, %q left", name, more)] = right + more
		}
	}
	return list
}

func wrongRecords() map[string]impl.LogRecord {
	_, list := edgeRecords()
	list["nothing"] = impl.LogRecord{}
	for name, after := range wrongChecks() {
		list["check: "+name] = check(2, 9, after)
	}
	for name, after := range rightChecks() {
		if after != "\x00\x00" {
			list["check of Lsn 1: "+name] = check(2, 1, after)
		}
	}
	for _, n := range []int{31, 32, 255, 256, 286, impl.MaxText, impl.MaxText + 1} {
		list[fmt.Sprint("an update's Before of ", n)] = update(1, 9, 1, 8, filled(n), "a")
		list[fmt.Sprint("an update's After of ", n)] = update(1, 9, 1, 8, "a", filled(n))
		list[fmt.Sprint("a CLR's After of ", n)] = clr(1, 9, 1, 8, 7, filled(n))
	}
	for _, base := range oneOfEach() {
		for _, other := range []string{"\x00", "a", "\x00\x00", filled(30)} {
			if base.Kind != impl.LoUpdate {
				r := base
				r.Before = other
				list[fmt.Sprintf("kind %d, Before %q", base.Kind, other)] = r
			}
			if base.Kind == impl.LoUpdate || base.Kind == impl.LoClr || base.Kind == impl.LoCheck {
				continue
			}
			r := base
			r.After = other
			list[fmt.Sprintf("kind %d, After %q", base.Kind, other)] = r
		}
	}
	for _, lsn := range []int{1, 2, 5, 9, 60} {
		for name, r := range map[string]impl.LogRecord{
			"update": update(1, lsn, 1, lsn, "", "a"), "CLR": clr(1, lsn, 1, lsn, 0, "a"),
			"commit": commit(1, lsn, 1, lsn), "end": end(1, lsn, 1, lsn),
			"update without Prev": update(1, lsn, 1, 0, "", "a"), "CLR without Prev": clr(1, lsn, 1, 0, 0, "a"),
			"commit without Prev": commit(1, lsn, 1, 0), "end without Prev": end(1, lsn, 1, 0),
			"CLR of its own Next": clr(1, lsn, 1, lsn-1, lsn, "a"), "CLR of Next -1": clr(1, lsn, 1, lsn-1, -1, "a"),
			"update of Prev -1": update(1, lsn, 1, -1, "", "a"), "update of a later Prev": update(1, lsn, 1, lsn+1, "", "a"),
		} {
			list[fmt.Sprintf("%s, Lsn and Prev %d", name, lsn)] = r
		}
	}
	return list
}

func TestLogConstants(t *testing.T) {
	kinds := []int{impl.LoBegin, impl.LoUpdate, impl.LoClr, impl.LoCommit, impl.LoEnd, impl.LoCheck}
	if !slices.Equal(kinds, []int{1, 2, 3, 4, 5, 6}) {
		t.Errorf("kinds of records %v", kinds)
	}
	if impl.MaxPages != 8 || impl.MaxLog != 60 || impl.MaxTx != 60 || impl.LogAt != 9 || impl.MaxEpoch != 60 {
		t.Error("constants of chapter 5")
	}
}

func TestRightRecords(t *testing.T) {
	for name, r := range rightRecords() {
		if !impl.RecordOK(r) {
			t.Errorf("%s: not right", name)
		}
	}
	for name, r := range wrongRecords() {
		if impl.RecordOK(r) {
			t.Errorf("%s: right", name)
		}
		if b, code := impl.RecordBytes(r); len(b) != 0 || code != impl.ErrBad {
			t.Errorf("RecordBytes, %s: %d bytes, code %d", name, len(b), code)
		}
	}
}

func TestEachPlaceOfAChange(t *testing.T) {
	for page := -1; page <= impl.MaxPages; page++ {
		for slot := -1; slot <= impl.MaxSlots; slot++ {
			want := 0 <= page && page <= 7 && 0 <= slot && slot <= 3
			for _, r := range []impl.LogRecord{update(1, 2, 1, 1, "a", "b"), clr(1, 2, 1, 1, 0, "b")} {
				r.Page, r.Slot = page, slot
				if impl.RecordOK(r) != want {
					t.Errorf("kind %d of page %d, slot %d: right is %v", r.Kind, page, slot, !want)
				}
			}
		}
	}
}

func TestEachPrevAndNext(t *testing.T) {
	for lsn := 0; lsn <= impl.MaxLog+1; lsn++ {
		isLsn := 1 <= lsn && lsn <= 60
		for n := -1; n <= lsn+1; n++ {
			prev, next := isLsn && 1 <= n && n < lsn, isLsn && lsn > 1 && 0 <= n && n < lsn
			for _, r := range []impl.LogRecord{update(1, lsn, 1, n, "", "a"), clr(1, lsn, 1, n, 0, "a"), commit(1, lsn, 1, n), end(1, lsn, 1, n)} {
				if impl.RecordOK(r) != prev {
					t.Errorf("kind %d of Lsn %d, Prev %d: right is %v", r.Kind, lsn, n, !prev)
				}
			}
			if impl.RecordOK(clr(1, lsn, 1, 1, n, "a")) != next {
				t.Errorf("CLR of Lsn %d, Next %d: right is %v", lsn, n, !next)
			}
		}
		if impl.RecordOK(begin(1, lsn, 1)) != isLsn || impl.RecordOK(check(1, lsn, "\x00\x00")) != isLsn {
			t.Errorf("begin or check of Lsn %d: right is %v", lsn, !isLsn)
		}
	}
}

func TestEachLsnOfACheck(t *testing.T) {
	for lsn := 1; lsn <= impl.MaxLog; lsn++ {
		for n := range 256 {
			want := 1 <= n && n < lsn
			if impl.RecordOK(check(1, lsn, pairs([2]int{4, n})+"\x00")) != want {
				t.Errorf("check of Lsn %d, a page of lsn %d: right is %v", lsn, n, !want)
			}
			if impl.RecordOK(check(1, lsn, "\x00"+pairs([2]int{4, n}))) != want {
				t.Errorf("check of Lsn %d, a transaction of lsn %d: right is %v", lsn, n, !want)
			}
		}
	}
}

func TestEachNumberOfACheck(t *testing.T) {
	for a := range 256 {
		for b := range 256 {
			list := pairs([2]int{a, 3}, [2]int{b, 2})
			if want := a < b && b <= 7; impl.RecordOK(check(1, 9, list+"\x00")) != want {
				t.Errorf("pages %d and %d: right is %v", a, b, !want)
			}
			if want := 1 <= a && a < b && b <= 60; impl.RecordOK(check(1, 9, "\x00"+list)) != want {
				t.Errorf("transactions %d and %d: right is %v", a, b, !want)
			}
		}
	}
}

func TestRecordsAreReadBack(t *testing.T) {
	for name, r := range rightRecords() {
		b, code := impl.RecordBytes(r)
		if code != impl.OK || string(b) != bytesOfRecord(r) {
			t.Fatalf("%s: RecordBytes %q, code %d", name, b, code)
		}
		if len(b) > impl.SectorSize {
			t.Errorf("%s: %d bytes go into no sector", name, len(b))
		}
		if back, code := impl.ReadRecord(b); back != r || code != impl.OK {
			t.Errorf("%s: read back as %+v, code %d", name, back, code)
		}
	}
}

func TestBytesOfOneRecord(t *testing.T) {
	for _, x := range []struct {
		r    impl.LogRecord
		want string
	}{
		{begin(1, 2, 3), "l\x01\x02\x03\x01\x00\x00\x00\x00\x02\x00\x00"},
		{update(60, 5, 4, 3, "ab", "c"), "l\x3c\x05\x04\x02\x03\x00\x03\x02\x02\x02ab\x01c"},
		{clr(1, 59, 60, 58, 57, "\x00"), "l\x01\x3b\x3c\x03\x3a\x39\x03\x02\x02\x00\x01\x00"},
		{commit(2, 9, 8, 7), "l\x02\x09\x08\x04\x07\x00\x00\x00\x02\x00\x00"},
		{end(2, 60, 8, 7), "l\x02\x3c\x08\x05\x07\x00\x00\x00\x02\x00\x00"},
		{check(1, 5, "\x01\x07\x04\x00"), "l\x01\x05\x00\x06\x00\x00\x00\x00\x02\x00\x04\x01\x07\x04\x00"},
	} {
		if b, code := impl.RecordBytes(x.r); code != impl.OK || string(b) != sealed(x.want) {
			t.Errorf("RecordBytes of kind %d: %q, code %d", x.r.Kind, b, code)
		}
		if r, code := impl.ReadRecord([]byte(sealed(x.want))); r != x.r || code != impl.OK {
			t.Errorf("ReadRecord of kind %d: %+v, code %d", x.r.Kind, r, code)
		}
	}
}

func checkNoRecord(t *testing.T, name, b string, want int) {
	t.Helper()
	if r, code := impl.ReadRecord([]byte(b)); r != (impl.LogRecord{}) || code != want {
		t.Errorf("ReadRecord, %s: %+v, code %d, want %d", name, r, code, want)
	}
}

func TestRecordsWithAByteChangedAreNone(t *testing.T) {
	for name, r := range rightRecords() {
		b := bytesOfRecord(r)
		for bit := range 8 * len(b) {
			turned := []byte(b)
			turned[bit/8] ^= 1 << (bit % 8)
			checkNoRecord(t, fmt.Sprintf("%s, bit %d turned", name, bit), string(turned), impl.ErrSum)
		}
	}
	for _, r := range oneOfEach() {
		b := bytesOfRecord(r)
		for i := range b {
			for other := range 256 {
				if other == int(b[i]) {
					continue
				}
				changed := []byte(b)
				changed[i] = byte(other)
				checkNoRecord(t, fmt.Sprintf("kind %d, byte %d is %d", r.Kind, i, other), string(changed), impl.ErrSum)
			}
		}
	}
}

func TestRecordsThatAreNotSealed(t *testing.T) {
	for _, r := range oneOfEach() {
		b := bytesOfRecord(r)
		for cut := range len(b) {
			checkNoRecord(t, fmt.Sprintf("kind %d, cut at %d", r.Kind, cut), b[:cut], impl.ErrSum)
			checkNoRecord(t, fmt.Sprintf("kind %d, from %d on", r.Kind, cut+1), b[cut+1:], impl.ErrSum)
		}
		for more := range 256 {
			c := string([]byte{byte(more)})
			checkNoRecord(t, fmt.Sprintf("kind %d, byte %d behind", r.Kind, more), b+c, impl.ErrSum)
			checkNoRecord(t, fmt.Sprintf("kind %d, byte %d ahead", r.Kind, more), c+b, impl.ErrSum)
		}
		checkNoRecord(t, "without its sum", b[:len(b)-4], impl.ErrSum)
		checkNoRecord(t, "noughts as sum", b[:len(b)-4]+"\x00\x00\x00\x00", impl.ErrSum)
	}
	for name, b := range map[string]string{"nothing": "", "a letter": "l", "three bytes": "abc", "five noughts": "\x00\x00\x00\x00\x00",
		"MaxText bytes": string(patterned(impl.MaxText)), "MaxText noughts": string(make([]byte, impl.MaxText))} {
		checkNoRecord(t, name, b, impl.ErrSum)
	}
}

// sealedNoRecords are what is sealed and no record's.
func sealedNoRecords() map[string]string {
	list := map[string]string{
		"nothing":             "",
		"a header":            "h\x01",
		"a page":              innerPage(5, page(8, "one", "", "three", "four")),
		"MaxText - 4 noughts": string(make([]byte, impl.MaxText-4)),
		"MaxText - 4 bytes":   string(patterned(impl.MaxText - 4)),
	}
	for _, r := range oneOfEach() {
		add := func(name, b string) { list[fmt.Sprintf("kind %d, %s", r.Kind, name)] = b }
		inner := bytesOfRecord(r)
		inner = inner[:len(inner)-4]
		for cut := range len(inner) {
			add(fmt.Sprint("cut at ", cut), inner[:cut])
		}
		for c := range 256 {
			add(fmt.Sprintf("byte %d behind", c), inner+string([]byte{byte(c)}))
			if c != 'l' {
				add(fmt.Sprint("first byte ", c), string([]byte{byte(c)})+inner[1:])
			}
		}
		add("sealed twice", sealed(inner))
		add("twice", inner+inner)
		add("up to MaxText", inner+string(make([]byte, impl.MaxText-4-len(inner))))
		for _, n := range []int{0, 1, 3, 4, 100, 101, 255} {
			fields := append([]string{r.Before, r.After}, make([]string, 253)...)[:n]
			add(fmt.Sprint(n, " fields"), inner[:9]+bytesOfFields(fields))
		}
	}
	for name, r := range wrongRecords() {
		if fitsBytes(r) {
			b := bytesOfRecord(r)
			list["wrong record: "+name] = b[:len(b)-4]
		}
	}
	return list
}

// fitsBytes: each number of r is a byte, and each text one field of its bytes.
func fitsBytes(r impl.LogRecord) bool {
	for _, p := range parts() {
		if n := *p.of(&r); n < 0 || n > 255 {
			return false
		}
	}
	return len(r.Before) <= 255 && len(r.After) <= 255
}

func TestSealedBytesThatAreNoRecords(t *testing.T) {
	for name, inner := range sealedNoRecords() {
		checkNoRecord(t, name, sealed(inner), impl.ErrForm)
	}
}

func TestReadRecordBeyondMaxText(t *testing.T) {
	checkNoRecord(t, "MaxText bytes, sealed", sealed(string(patterned(impl.MaxText-4))), impl.ErrForm)
	checkNoRecord(t, "MaxText + 1 bytes, sealed", sealed(string(patterned(impl.MaxText-3))), impl.ErrLong)
	checkNoRecord(t, "MaxText + 1 noughts", string(make([]byte, impl.MaxText+1)), impl.ErrLong)
	// Check32 is 0 of so many bytes.
	checkNoRecord(t, "MaxText + 5 bytes, the last ones noughts", filled(impl.MaxText+1)+"\x00\x00\x00\x00", impl.ErrLong)
}
