package tests

import (
	"fmt"
	"slices"
	"testing"

	"loop.example/g00332/impl"
)

// pageOnDisk is a page as the disk tells it.
func pageOnDisk(d impl.Disk, no int) impl.Page {
	b, _ := impl.DiskRead(d, pageAt(no))
	if b == "" {
		return page(0, "", "", "", "")
	}
	p, _ := impl.ReadPage(no, []byte(b))
	return p
}

// pageStanding is a page as its frame has it, else as the disk tells it.
func pageStanding(s impl.Store, no int) impl.Page {
	for _, f := range s.Frames {
		if f.No == no {
			return f.Page
		}
	}
	return pageOnDisk(s.Disk, no)
}

// timesOfRows tells how often each row stands, by table and Id.
func timesOfRows(s impl.Store) map[[2]int]int {
	times := map[[2]int]int{}
	for no := range impl.MaxPages {
		for _, record := range pageStanding(s, no).Slots {
			if table, r, code := impl.ReadRow([]byte(record)); code == impl.OK {
				times[[2]int{table, r.Id}]++
			}
		}
	}
	return times
}

func plainRowsOnce(e impl.Engine) bool {
	for _, n := range timesOfRows(e.Store) {
		if n > 1 {
			return false
		}
	}
	return true
}

// plainLogLinks asks each of the three rules by itself, of the whole log.
func plainLogLinks(log []impl.LogRecord) bool {
	own := map[int][]impl.LogRecord{}
	for _, r := range log {
		if r.Kind != impl.LoCheck {
			own[r.Tx] = append(own[r.Tx], r)
		}
	}
	for _, list := range own {
		for i, r := range list {
			last := 0
			if i > 0 {
				last = list[i-1].Lsn
			}
			isOver := (r.Kind == impl.LoCommit || r.Kind == impl.LoEnd) && i < len(list)-1
			isOurs := func(o impl.LogRecord) bool { return o.Lsn == r.Next }
			if r.Prev != last || isOver || r.Kind == impl.LoClr && !slices.ContainsFunc(list, isOurs) {
				return false
			}
		}
	}
	return true
}

func plainTablesHold(w impl.World) bool {
	for table := 1; table <= impl.MaxTables; table++ {
		if w.Engine.Up && !slices.Equal(standing(w.Engine, table), plainFold(table, w.Done, w.Open)) {
			return false
		}
	}
	return !w.Lost
}

func plainPagesBehind(s impl.Store) bool {
	for _, f := range s.Frames {
		disk := pageOnDisk(s.Disk, f.No)
		switch {
		case !f.Dirty && tellPage(f.Page) != tellPage(disk):
			return false
		case f.Dirty && (f.Page.Lsn < f.First || disk.Lsn >= f.First):
			return false
		}
	}
	return true
}

func checkTold(t *testing.T, name string, got bool, code int, want bool) {
	t.Helper()
	if got != want || code != impl.OK {
		t.Errorf("%s: %v, code %d, want %v", name, got, code, want)
	}
}

func checkNotAsked(t *testing.T, name string, got bool, code, want int) {
	t.Helper()
	if got || code != want {
		t.Errorf("%s: %v, code %d, want %d", name, got, code, want)
	}
}

func checkRowsOnce(t *testing.T, name string, e impl.Engine, want bool) {
	t.Helper()
	got, code := impl.RowsOnce(e)
	checkTold(t, "RowsOnce of "+name, got, code, want)
	checkTold(t, "plainly, RowsOnce of "+name, plainRowsOnce(e), impl.OK, want)
}

func checkLogLinks(t *testing.T, name string, log []impl.LogRecord, want bool) {
	t.Helper()
	got, code := impl.LogLinks(log)
	checkTold(t, "LogLinks of "+name, got, code, want)
	checkTold(t, "plainly, LogLinks of "+name, plainLogLinks(log), impl.OK, want)
}

func checkTablesHold(t *testing.T, name string, w impl.World, want bool) {
	t.Helper()
	got, code := impl.TablesHold(w)
	checkTold(t, "TablesHold of "+name, got, code, want)
	checkTold(t, "plainly, TablesHold of "+name, plainTablesHold(w), impl.OK, want)
}

func checkPagesBehind(t *testing.T, name string, s impl.Store, want bool) {
	t.Helper()
	got, code := impl.PagesBehind(s)
	checkTold(t, "PagesBehind of "+name, got, code, want)
	checkTold(t, "plainly, PagesBehind of "+name, plainPagesBehind(s), impl.OK, want)
}

// byTheLog is a page of a log that began with the database, behind the record of that lsn.
func byTheLog(log []impl.LogRecord, no, lsn int) impl.Page {
	p := page(0, "", "", "", "")
	for _, r := range log[:lsn] {
		if (r.Kind == impl.LoUpdate || r.Kind == impl.LoClr) && r.Page == no {
			p.Slots[r.Slot], p.Lsn = r.After, r.Lsn
		}
	}
	return p
}

// checkNoPageAhead: of a world that began new. A page that stands is what all of the log leads to, if the world is up;
// a page on the disk, sure or not, is what the sure log leads to, up to its Lsn; and whatever a crash keeps, the log that
// is read then goes as far as each page does.
func checkNoPageAhead(t *testing.T, name string, w impl.World, keep []int) {
	t.Helper()
	s := w.Engine.Store
	checkPagesBehind(t, name, s, true)
	checkSure(t, name, s)
	crashed, _ := impl.DiskCrash(s.Disk, keep)
	log, _ := impl.ReadLog(crashed, s.Epoch)
	for no := range impl.MaxPages {
		if p := pageStanding(s, no); w.Engine.Up && tellPage(p) != tellPage(byTheLog(s.Log, no, len(s.Log))) {
			t.Fatalf("%s: page %d stands as %s, by the log it is %s", name, no, tellPage(p), tellPage(byTheLog(s.Log, no, len(s.Log))))
		}
		for what, d := range map[string]impl.Disk{"as it is": s.Disk, "crashed": crashed} {
			p := pageOnDisk(d, no)
			if p.Lsn > len(log) || p.Lsn > s.Sure || tellPage(p) != tellPage(byTheLog(log, no, p.Lsn)) {
				t.Fatalf("%s: on the disk %s page %d is %s, %d records are read, %d are sure", name, what, no, tellPage(p), len(log), s.Sure)
			}
		}
	}
}

// checkNoRowTwice: of a world that began new, while it is up.
func checkNoRowTwice(t *testing.T, name string, w impl.World) {
	t.Helper()
	if !w.Engine.Up {
		return
	}
	checkRowsOnce(t, name, w.Engine, true)
	for key, n := range timesOfRows(w.Engine.Store) {
		if n != 1 {
			t.Fatalf("%s: row %d of table %d stands %d times", name, key[1], key[0], n)
		}
	}
}

// checkAudit: of a world that began new nothing is found.
func checkAudit(t *testing.T, name string, w impl.World, keep []int) {
	t.Helper()
	checkNoRowTwice(t, name, w)
	checkNoPageAhead(t, name, w, keep)
	checkLogLinks(t, name, w.Engine.Store.Log, true)
	checkTablesHold(t, name, w, true)
	if t.Failed() {
		t.Fatalf("%s: %.4000s", name, tellWorld(w))
	}
}

// auditTold tells what all four say of a world.
func auditTold(w impl.World) string {
	once, code1 := impl.RowsOnce(w.Engine)
	links, code2 := impl.LogLinks(w.Engine.Store.Log)
	hold, code3 := impl.TablesHold(w)
	behind, code4 := impl.PagesBehind(w.Engine.Store)
	return fmt.Sprint(once, code1, links, code2, hold, code3, behind, code4)
}
