package tests

import (
	"fmt"
	"math"
	"slices"
	"testing"

	"loop.example/g00332/impl"
)

// someLog is a log of records of all kinds and of rising epochs.
func someLog() []impl.LogRecord {
	return []impl.LogRecord{
		begin(1, 1, 1),
		update(1, 2, 1, 1, "", "one"),
		begin(1, 3, 2),
		update(2, 4, 2, 3, "one", "two"),
		check(2, 5, pairs([2]int{3, 2})+pairs([2]int{1, 2}, [2]int{2, 4})),
		clr(2, 6, 2, 4, 3, "one"),
		end(4, 7, 2, 6),
		commit(4, 8, 1, 2),
	}
}

// fullLog has MaxLog records.
func fullLog() []impl.LogRecord {
	log := []impl.LogRecord{begin(1, 1, 7)}
	for lsn := 2; lsn <= impl.MaxLog; lsn++ {
		log = append(log, update(1+lsn/2, lsn, 7, lsn-1, fmt.Sprint("at ", lsn-1), fmt.Sprint("at ", lsn)))
	}
	return log
}

// logDisk is a disk of n sectors, on which the log is sure.
func logDisk(n int, log []impl.LogRecord) impl.Disk {
	d := impl.Disk{Sectors: make([]string, n)}
	for i, r := range log {
		if impl.LogAt+i < n {
			d.Sectors[impl.LogAt+i] = bytesOfRecord(r)
		}
	}
	return d
}

func checkLog(t *testing.T, name string, d impl.Disk, epoch int, want []impl.LogRecord) {
	t.Helper()
	log, code := impl.ReadLog(d, epoch)
	if !slices.Equal(log, want) || code != impl.OK {
		t.Errorf("%s: ReadLog of epoch %d: %d records %+v, code %d\nwant %d records", name, epoch, len(log), log, code, len(want))
	}
}

func TestTheLogThatIsReadIsWhatWasWritten(t *testing.T) {
	log := someLog()
	for sure := range len(log) + 1 {
		d := newDisk(t, 69)
		for i, r := range log {
			b, code := impl.RecordBytes(r)
			if code != impl.OK {
				t.Fatalf("RecordBytes of record %d: code %d", i, code)
			}
			if i == sure {
				d, _, _ = impl.DiskSync(d)
			}
			d = writeDisk(t, d, impl.LogAt+i, string(b))
			checkLog(t, fmt.Sprintf("%d sure, %d written", sure, i+1), d, 4, log[:i+1])
			checkLog(t, fmt.Sprintf("%d sure, %d written", sure, i+1), d, impl.MaxEpoch, log[:i+1])
		}
		if sure == len(log) {
			d, _, _ = impl.DiskSync(d)
		}
		crashed, code := impl.DiskCrash(d, nil)
		if code != impl.OK {
			t.Fatalf("DiskCrash: code %d", code)
		}
		checkLog(t, fmt.Sprintf("%d sure, behind a crash", sure), crashed, 4, log[:sure])
	}
}

func TestLogUpToAnEpoch(t *testing.T) {
	for epoch := 0; epoch <= impl.MaxEpoch; epoch++ {
		for name, log := range map[string][]impl.LogRecord{"some log": someLog(), "a full log": fullLog()} {
			n := slices.IndexFunc(log, func(r impl.LogRecord) bool { return r.Epoch > epoch })
			if n < 0 {
				n = len(log)
			}
			checkLog(t, name, logDisk(69, log), epoch, log[:n])
		}
	}
	last := []impl.LogRecord{begin(60, 1, 60), commit(60, 2, 60, 1)}
	checkLog(t, "the last epoch", logDisk(69, last), 59, nil)
	checkLog(t, "the last epoch", logDisk(69, last), 60, last)
}

func TestLogOfEachDisk(t *testing.T) {
	log := fullLog()
	for n := 1; n <= impl.MaxSectors; n++ {
		d := logDisk(n, log)
		checkLog(t, fmt.Sprint(n, " sectors"), d, impl.MaxEpoch, log[:min(max(n-impl.LogAt, 0), impl.MaxLog)])
		checkLog(t, fmt.Sprint(n, " empty sectors"), newDisk(t, n), impl.MaxEpoch, nil)
		for at := range d.Sectors {
			if at < impl.LogAt || at >= impl.LogAt+impl.MaxLog {
				d.Sectors[at] = bytesOfRecord(log[0])
			}
		}
		checkLog(t, fmt.Sprint(n, " sectors, all with a record"), d, impl.MaxEpoch, log[:min(max(n-impl.LogAt, 0), impl.MaxLog)])
	}
}

// endsOfLog are sectors that end a log of epoch 4 at the record with this Lsn, behind one of epoch 2.
func endsOfLog(lsn int) map[string]string {
	of := func(epoch, at int) string { return bytesOfRecord(begin(epoch, at, 9)) }
	right := of(4, lsn)
	turned := []byte(right)
	turned[3] ^= 1
	wrong := begin(4, lsn, 9)
	wrong.Prev = 1
	return map[string]string{
		"an empty sector":        "",
		"a byte changed":         string(turned),
		"cut short":              right[:len(right)-1],
		"a byte more":            right + "\x00",
		"no record":              filled(impl.SectorSize),
		"a header":               sealed("h\x04"),
		"a page":                 sealed(innerPage(4, page(2, "a", "", "", ""))),
		"a wrong record, sealed": bytesOfRecord(wrong),
		"the Lsn ahead":          of(4, lsn-1),
		"the Lsn behind":         of(4, lsn+1),
		"the first Lsn":          of(4, 1),
		"the place as Lsn":       of(4, impl.LogAt+lsn-1),
		"an Epoch below":         of(1, lsn),
		"an Epoch above":         of(5, lsn),
		"the last Epoch":         of(impl.MaxEpoch, lsn),
	}
}

func TestWhereTheLogEnds(t *testing.T) {
	log := []impl.LogRecord{begin(2, 1, 1)}
	for lsn := 2; lsn <= 12; lsn++ {
		log = append(log, begin(2, lsn, lsn))
	}
	for lsn := 2; lsn <= len(log); lsn++ {
		at := impl.LogAt + lsn - 1
		for name, s := range endsOfLog(lsn) {
			d := logDisk(69, log)
			sure := d.Sectors[at]
			d.Sectors[at] = s
			checkLog(t, fmt.Sprintf("%s at %d", name, lsn), d, 4, log[:lsn-1])
			d = logDisk(69, log)
			d.Cache = []impl.Pending{write(at, sure), write(at, s), write(0, sure)}
			checkLog(t, fmt.Sprintf("%s written at %d", name, lsn), d, 4, log[:lsn-1])
			d.Cache = append(d.Cache, write(at, sure))
			checkLog(t, fmt.Sprintf("%s written at %d, and mended", name, lsn), d, 4, log)
		}
		next := begin(4, lsn, 9)
		d := writeDisk(t, logDisk(69, log), at, bytesOfRecord(next))
		// Behind an Epoch of 4 the Epochs of 2 are below the one ahead.
		checkLog(t, fmt.Sprintf("a later Epoch at %d", lsn), d, 4, append(slices.Clone(log[:lsn-1]), next))
		checkLog(t, fmt.Sprintf("a later Epoch at %d", lsn), d, 3, log[:lsn-1])
	}
}

func TestFirstRecordOfTheLog(t *testing.T) {
	behind := []impl.LogRecord{begin(2, 1, 1), begin(2, 2, 2), begin(2, 3, 3)}
	for name, s := range endsOfLog(1) {
		if name == "an Epoch below" || name == "the first Lsn" {
			continue
		}
		d := logDisk(69, behind)
		d.Sectors[impl.LogAt] = s
		checkLog(t, name+" first", d, 4, nil)
	}
	checkLog(t, "epoch 1 first", logDisk(69, []impl.LogRecord{begin(1, 1, 1)}), 1, []impl.LogRecord{begin(1, 1, 1)})
}

func TestReadLogCodes(t *testing.T) {
	tell := func(d impl.Disk, epoch, want int) {
		t.Helper()
		if log, code := impl.ReadLog(d, epoch); len(log) != 0 || code != want {
			t.Errorf("ReadLog of epoch %d: %d records, code %d, want %d", epoch, len(log), code, want)
		}
	}
	beyond := []int{math.MinInt, -1 << 32, -256, -60, -1, 61, 62, 255, 256, 257, 1 << 32, math.MaxInt}
	for _, epoch := range beyond {
		tell(logDisk(69, someLog()), epoch, impl.ErrRange)
		tell(logDisk(1, nil), epoch, impl.ErrRange)
	}
	for _, d := range wrongDisks() {
		for _, epoch := range append(beyond, 0, 1, 60) {
			tell(d, epoch, impl.ErrBad)
		}
	}
	wrong := logDisk(69, someLog())
	wrong.Sectors[68] = filled(impl.SectorSize + 1)
	tell(wrong, 4, impl.ErrBad)
	tell(wrong, 61, impl.ErrBad)
}

func TestHeadersAreReadBack(t *testing.T) {
	for epoch := range impl.MaxEpoch + 1 {
		b, code := impl.HeaderBytes(epoch)
		if code != impl.OK || string(b) != sealed("h"+string([]byte{byte(epoch)})) {
			t.Errorf("HeaderBytes(%d): %q, code %d", epoch, b, code)
		}
		if back, code := impl.ReadHeader(b); back != epoch || code != impl.OK {
			t.Errorf("header %d is read as %d, code %d", epoch, back, code)
		}
	}
	for _, empty := range [][]byte{nil, {}} {
		if epoch, code := impl.ReadHeader(empty); epoch != 0 || code != impl.OK {
			t.Errorf("an empty header: epoch %d, code %d", epoch, code)
		}
	}
	for _, epoch := range []int{math.MinInt, -1 << 32, -256, -255, -1, 61, 62, 255, 256, 257, 1 << 32, 1<<32 + 1, math.MaxInt} {
		if b, code := impl.HeaderBytes(epoch); len(b) != 0 || code != impl.ErrRange {
			t.Errorf("HeaderBytes(%d): %q, code %d", epoch, b, code)
		}
	}
}

// noHeaders are bytes that are no header's, and their codes.
func noHeaders() map[string]int {
	list := map[string]int{}
	add := func(all ...string) {
		for _, b := range all {
			list[b] = impl.ErrSum
		}
	}
	for epoch := range 256 {
		inner := "h" + string([]byte{byte(epoch)})
		b := sealed(inner)
		if epoch > impl.MaxEpoch {
			add(b)
		}
		for bit := range 8 * len(b) {
			turned := []byte(b)
			turned[bit/8] ^= 1 << (bit % 8)
			add(string(turned))
		}
		for cut := 1; cut < len(b); cut++ {
			add(b[:cut], b[cut:])
		}
		add(b+"\x00", "\x00"+b, b+b, inner, sealed(b), sealed(inner+"\x00"), sealed("\x00"+inner), sealed("h\x00"+string([]byte{byte(epoch)})))
		if c := byte(epoch); c != 'h' {
			add(sealed(string([]byte{c, 9})), sealed(string([]byte{c})))
		}
	}
	add(sealed(""), sealed("h"), "\x00", "junk", "\x00\x00\x00\x00\x00\x00", bytesOfRecord(begin(1, 1, 1)),
		string(patterned(impl.MaxText)), sealed(string(patterned(impl.MaxText-4))), string(make([]byte, impl.MaxText)))
	list[string(patterned(impl.MaxText+1))] = impl.ErrLong
	list[string(make([]byte, impl.MaxText+1))] = impl.ErrLong
	list["h\x01"+filled(impl.MaxText)+"\x00\x00\x00\x00"] = impl.ErrLong
	return list
}

func TestHeadersThatAreNone(t *testing.T) {
	for b, want := range noHeaders() {
		if epoch, code := impl.ReadHeader([]byte(b)); epoch != 0 || code != want {
			t.Errorf("ReadHeader(%.20q of %d bytes): epoch %d, code %d, want %d", b, len(b), epoch, code, want)
		}
	}
}
