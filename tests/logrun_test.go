package tests

import (
	"fmt"
	"slices"
	"testing"

	"loop.example/g00332/impl"
)

// plainLog has a plain disk, and of which record the bytes are that were ever written to it.
type plainLog struct {
	disk  *plainDisk
	known map[string]impl.LogRecord
}

// log says the document's rule once more: the bytes of what was written, not the reading of them.
func (p *plainLog) log(epoch int) []impl.LogRecord {
	var list []impl.LogRecord
	for at := impl.LogAt; at < len(p.disk.history); at++ {
		history := p.disk.history[at]
		r, ok := p.known[history[len(history)-1]]
		if !ok || r.Lsn != at-impl.LogAt+1 || r.Epoch > epoch {
			return list
		}
		if len(list) > 0 && r.Epoch < list[len(list)-1].Epoch {
			return list
		}
		list = append(list, r)
	}
	return list
}

// logRecord is a right record of this place, of any kind.
func (x *dice) logRecord(epoch, lsn int) impl.LogRecord {
	tx := 1 + x.below(impl.MaxTx)
	kind := x.below(6)
	if lsn == 1 {
		kind = 5 * x.below(2)
	}
	switch kind {
	case 0:
		return begin(epoch, lsn, tx)
	case 1:
		r := update(epoch, lsn, tx, 1+x.below(lsn-1), x.record(0), x.record(0))
		r.Page, r.Slot = x.below(impl.MaxPages), x.below(impl.MaxSlots)
		return r
	case 2:
		r := clr(epoch, lsn, tx, 1+x.below(lsn-1), x.below(lsn), x.record(0))
		r.Page, r.Slot = x.below(impl.MaxPages), x.below(impl.MaxSlots)
		return r
	case 3:
		return commit(epoch, lsn, tx, 1+x.below(lsn-1))
	case 4:
		return end(epoch, lsn, tx, 1+x.below(lsn-1))
	}
	return check(epoch, lsn, x.checkpoint(lsn))
}

func (x *dice) checkpoint(lsn int) string {
	var pages, txs [][2]int
	for no := x.below(3); no < impl.MaxPages && lsn > 1; no += 1 + x.below(5) {
		pages = append(pages, [2]int{no, 1 + x.below(lsn-1)})
	}
	for no := 1 + x.below(9); no <= impl.MaxTx && len(txs) < 10 && lsn > 1; no += 1 + x.below(30) {
		txs = append(txs, [2]int{no, 1 + x.below(lsn-1)})
	}
	return pairs(pages...) + pairs(txs...)
}

// logWrite is a record of some place of the log, mostly of the next one, or bytes that are none.
func (p *plainLog) logWrite(t *testing.T, x *dice, epoch int) (int, string) {
	t.Helper()
	place := len(p.log(impl.MaxEpoch)) + 1
	switch x.below(8) {
	case 0:
		place = 1 + x.below(impl.MaxLog)
	case 1:
		epoch = 1 + x.below(impl.MaxEpoch)
	case 2:
		return impl.LogAt + x.below(impl.MaxLog), x.record(0)
	}
	r := x.logRecord(epoch, min(place, impl.MaxLog))
	b, code := impl.RecordBytes(r)
	if code != impl.OK {
		t.Fatalf("RecordBytes of %+v: code %d", r, code)
	}
	p.known[string(b)] = r
	if x.below(10) == 0 {
		return impl.LogAt + x.below(impl.MaxLog), string(b)
	}
	return impl.LogAt + r.Lsn - 1, string(b)
}

func TestRunsOfALog(t *testing.T) {
	longest := 0
	for run := range 60 {
		x := dice(run)
		d, p := newDisk(t, 69), &plainLog{newPlainDisk(69), map[string]impl.LogRecord{}}
		epoch := 1
		for i := range 120 {
			var code int
			switch kind := x.below(30); {
			case kind == 0:
				keep := x.keep(12)
				d, code = impl.DiskCrash(d, keep)
				p.disk.crash(keep)
				epoch = min(epoch+1, impl.MaxEpoch)
			case kind < 4:
				d, _, code = impl.DiskSync(d)
				p.disk.sync()
			default:
				at, data := p.logWrite(t, &x, epoch)
				d, code = impl.DiskWrite(d, at, data)
				p.disk.write(at, data)
			}
			if code != impl.OK {
				t.Fatalf("run %d, step %d: code %d", run, i, code)
			}
			for _, e := range []int{0, epoch - 1, epoch, impl.MaxEpoch} {
				checkLog(t, fmt.Sprintf("run %d, step %d", run, i), d, e, p.log(e))
			}
			longest = max(longest, len(p.log(epoch)))
		}
	}
	if longest < 20 {
		t.Errorf("the longest log of all runs has %d records", longest)
	}
}

func TestReadRecordOfAllShortBytes(t *testing.T) {
	right := 0
	for _, tail := range allStrings([]byte{0, 1, 2, 3, 'a'}, 6) {
		b := sealed("l\x01\x02\x01\x02\x01\x00\x00\x00" + string(tail))
		r, code := impl.ReadRecord([]byte(b))
		if code != impl.OK && (code != impl.ErrForm || r != impl.LogRecord{}) {
			t.Fatalf("ReadRecord(%q): %+v, code %d", b, r, code)
		}
		if code != impl.OK {
			continue
		}
		right++
		if back, code := impl.RecordBytes(r); code != impl.OK || string(back) != b {
			t.Errorf("ReadRecord(%q) = %+v, whose bytes are %q, %d", b, r, back, code)
		}
	}
	// Two fields of at most three bytes in all: none, one byte in two ways, two in three, three in four.
	if want := 1 + 2*5 + 3*25 + 4*125; right != want {
		t.Errorf("%d are records, want %d", right, want)
	}
}

func TestChecksOfAllShortBytes(t *testing.T) {
	right := 0
	for _, after := range allStrings([]byte{0, 1, 2, 9}, 6) {
		r := check(1, 3, string(after))
		if !impl.RecordOK(r) {
			continue
		}
		right++
		if b, code := impl.RecordBytes(r); code != impl.OK || string(b) != bytesOfRecord(r) {
			t.Errorf("RecordBytes, After %q: %q, code %d", after, b, code)
		}
	}
	// Nothing; one page (0, 1 or 2) or transaction (1, 2 or 9) of two lsns; one of each; two of the three pages or transactions.
	if want := 1 + 2*3*2 + 9*4 + 2*3*4; right != want {
		t.Errorf("%d are checkpoints, want %d", right, want)
	}
}

// logByteArguments are right and wrong bytes of records and headers.
func logByteArguments() [][]byte {
	var list [][]byte
	for _, r := range append(oneOfEach(), fullLog()...) {
		b := []byte(bytesOfRecord(r))
		list = append(list, b, b[:len(b)-1], append(slices.Clone(b), 0))
	}
	for _, inner := range sealedNoRecords() {
		list = append(list, []byte(sealed(inner)))
	}
	for epoch := range 256 {
		list = append(list, []byte(sealed(string([]byte{'h', byte(epoch)}))))
	}
	return append(list, byteArguments()...)
}

func logDisks() map[string]impl.Disk {
	full := logDisk(impl.MaxSectors, fullLog())
	full.Cache = []impl.Pending{write(68, "none"), write(30, full.Sectors[30]), write(70, "a")}
	armed := logDisk(69, someLog())
	armed.Armed, armed.Keep = true, []int{1, 0, 1}
	wrong := logDisk(69, someLog())
	wrong.Keep = []int{1}
	return map[string]impl.Disk{"some log": logDisk(69, someLog()), "a full log": full, "an armed disk": armed, "a wrong disk": wrong,
		"a short disk": logDisk(12, someLog()), "no log": logDisk(9, nil), "nothing": {}}
}

func TestRecordsAndLogsStandApart(t *testing.T) {
	for _, b := range logByteArguments() {
		checkApart(t, "ReadRecord", b, 'x', impl.LogRecord{}, func(b []byte) ([]impl.LogRecord, int) {
			r, code := impl.ReadRecord(b)
			return []impl.LogRecord{r}, code
		})
		checkApart(t, "ReadHeader", b, 'x', 7, func(b []byte) ([]int, int) {
			epoch, code := impl.ReadHeader(b)
			return []int{epoch}, code
		})
	}
	for name, d := range logDisks() {
		mine, copied := otherDisk(d), otherDisk(d)
		log, code := impl.ReadLog(mine, 40)
		if tellDisk(wholeDisk(mine)) != tellDisk(wholeDisk(copied)) {
			t.Fatalf("%s: ReadLog changes its disk, or what stands behind it", name)
		}
		told := tellList(log, code)
		spoilDisk(mine)
		if tellList(log, code) != told {
			t.Fatalf("%s: ReadLog answers memory of its disk", name)
		}
		again, code := impl.ReadLog(copied, 40)
		spoil(log, impl.LogRecord{Before: "spoilt"})
		if tellList(again, code) != told || tellDisk(wholeDisk(copied)) != tellDisk(wholeDisk(otherDisk(d))) {
			t.Fatalf("%s: ReadLog answers memory of another answer, or of its disk", name)
		}
	}
}

func TestAnswersOfTheLogStandApart(t *testing.T) {
	for name, call := range map[string]func() []byte{
		"RecordBytes": func() []byte { b, _ := impl.RecordBytes(oneOfEach()[1]); return b },
		"HeaderBytes": func() []byte { b, _ := impl.HeaderBytes(9); return b },
	} {
		first, second := call(), call()
		told := string(second)
		spoil(first, 'x')
		if string(second) != told || string(call()) != told {
			t.Errorf("two answers of %s share memory", name)
		}
	}
}

// logCalls are calls of all functions of chapter 5.
func logCalls() []call {
	var list []call
	add := func(name string, tell func() string) { list = append(list, call{name, tell}) }
	for _, records := range []map[string]impl.LogRecord{rightRecords(), wrongRecords()} {
		for _, r := range records {
			add("RecordOK", func() string { return answers(impl.RecordOK(r)) })
			add("RecordBytes", func() string { return tellList(impl.RecordBytes(r)) })
		}
	}
	for _, b := range logByteArguments() {
		add("ReadRecord", func() string { r, code := impl.ReadRecord(b); return answers(r, code) })
		add("ReadHeader", func() string { epoch, code := impl.ReadHeader(b); return answers(epoch, code) })
	}
	for _, epoch := range append(numberArguments(), 59, 60, 61) {
		add("HeaderBytes", func() string { return tellList(impl.HeaderBytes(epoch)) })
		for _, disks := range []map[string]impl.Disk{logDisks(), rightDisks(), wrongDisks()} {
			for _, d := range disks {
				add("ReadLog", func() string { return tellList(impl.ReadLog(d, epoch)) })
			}
		}
	}
	return list
}
