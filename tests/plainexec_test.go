package tests

import (
	"fmt"
	"slices"
	"testing"

	"loop.example/g00332/impl"
)

// called does chapter 14 once more, call by call of the chapters ahead of it: each call that is named there is called.
type called struct {
	e     impl.Engine
	tx    int
	s     impl.Stmt
	meant []impl.Row
}

func isOpen(e impl.Engine, tx int) bool {
	return slices.ContainsFunc(e.Txs, func(x impl.Tx) bool { return x.Id == tx })
}

func calledExec(e impl.Engine, tx int, s impl.Stmt) (impl.Engine, impl.Answer, int) {
	switch {
	case !impl.EngineOK(e) || !plainStmtOK(s):
		return impl.Engine{}, impl.Answer{}, impl.ErrBad
	case !e.Up:
		return e, impl.Answer{}, impl.ErrDown
	case !isOpen(e, tx):
		return e, impl.Answer{}, impl.ErrTx
	}
	c := &called{e: e, tx: tx, s: s}
	if s.Kind == impl.StInsert {
		code := c.insert()
		return c.e, impl.Answer{Count: pick(code == impl.OK, 1, 0)}, code
	}
	code := c.rows()
	if code != impl.OK {
		return c.e, impl.Answer{}, code
	}
	a := impl.Answer{Count: len(c.meant)}
	if s.Kind == impl.StSelect {
		a.Rows = plainSorted(c.meant, s.Order, s.Down)
	}
	return c.e, a, impl.OK
}

func (c *called) lock(row, mode int) int {
	locks, code := impl.TakeLock(c.e.Locks, c.tx, c.s.Table, row, mode)
	c.e = engineWith(c.e, func(e *impl.Engine) { e.Locks = locks })
	if code != impl.ErrDeadlock {
		return code
	}
	var undone int
	c.e, undone = impl.AbortTx(c.e, c.tx)
	return pick(undone == impl.OK, code, undone)
}

func (c *called) insert() int {
	if code := c.lock(-1, impl.LkIX); code != impl.OK {
		return code
	}
	if code := c.lock(c.s.Row.Id, impl.LkX); code != impl.OK {
		return code
	}
	found := false
	for no := range impl.MaxPages {
		s, p, alive, code := impl.FetchPage(c.e.Store, no)
		c.e = engineWith(c.e, func(e *impl.Engine) { e.Store = s })
		if code != impl.OK {
			return code
		}
		if !alive {
			return c.gone()
		}
		found = found || slices.ContainsFunc(p.Slots, func(r string) bool { return isRowOf(r, c.s.Table, c.s.Row.Id) })
	}
	if found {
		return impl.ErrKey
	}
	var code int
	c.e, code = impl.PutRow(c.e, c.tx, c.s.Table, c.s.Row)
	return code
}

// gone is what is left when the power went.
func (c *called) gone() int {
	s := c.e.Store
	log, _ := impl.ReadLog(s.Disk, s.Epoch)
	c.e = impl.Engine{Store: impl.Store{Disk: s.Disk, Epoch: s.Epoch, Log: log, Sure: len(log)}, Next: c.e.Next}
	return impl.ErrDown
}

func (c *called) rows() int {
	if c.s.Kind != impl.StSelect {
		if code := c.lock(-1, impl.LkX); code != impl.OK {
			return code
		}
	}
	var rows []impl.Row
	var code int
	if c.e, rows, code = impl.ScanRows(c.e, c.tx, c.s.Table); code != impl.OK {
		return code
	}
	place := (&doer{e: c.e}).last(c.tx)
	for _, r := range rows {
		if code := c.row(r); code != impl.OK {
			var undone int
			c.e, undone = impl.RollbackTo(c.e, c.tx, place)
			return pick(undone == impl.OK, code, undone)
		}
	}
	return impl.OK
}

// row asks what the statement means on that row alone.
func (c *called) row(r impl.Row) int {
	now, a, code := plainDenote([]impl.Row{r}, c.s)
	if code != impl.OK || a.Count == 0 {
		return code
	}
	c.meant = append(c.meant, r)
	switch c.s.Kind {
	case impl.StUpdate:
		c.e, code = impl.PutRow(c.e, c.tx, c.s.Table, now[0])
	case impl.StDelete:
		c.e, code = impl.DropRow(c.e, c.tx, c.s.Table, r.Id)
	}
	return code
}

func tellAnswer(a impl.Answer) string {
	return fmt.Sprintf("%d of %.2000s", a.Count, fmt.Sprint(slices.Clone(a.Rows)))
}

func sameAnswer(a, b impl.Answer) bool { return a.Count == b.Count && slices.Equal(a.Rows, b.Rows) }

// tablesNow are all rows of each table, whoever put them.
func tablesNow(t *testing.T, e impl.Engine) (tables [impl.MaxTables + 1][]impl.Row) {
	t.Helper()
	for table := 1; table <= impl.MaxTables; table++ {
		rows, code := impl.TableRows(e, table)
		if code != impl.OK {
			t.Fatalf("TableRows: code %d", code)
		}
		tables[table] = rows
	}
	return tables
}

func sameTables(a, b [impl.MaxTables + 1][]impl.Row) bool {
	return slices.EqualFunc(a[:], b[:], func(a, b []impl.Row) bool { return slices.Equal(a, b) })
}

// checkCalled: the engine, the answer and the code are those of the calls that the chapter names.
func checkCalled(t *testing.T, name string, e impl.Engine, tx int, s impl.Stmt) (impl.Engine, impl.Answer, int) {
	t.Helper()
	got, a, code := impl.ExecStmt(e, tx, s)
	want, wantA, wantCode := calledExec(e, tx, s)
	if code != wantCode || !sameAnswer(a, wantA) {
		t.Fatalf("%s: code %d, %s, want code %d, %s", name, code, tellAnswer(a), wantCode, tellAnswer(wantA))
	}
	if !sameEngine(got, want) {
		t.Fatalf("%s: %.4000s\nwant %.4000s", name, tellEngine(got), tellEngine(want))
	}
	if code != impl.ErrBad && !impl.EngineOK(got) {
		t.Fatalf("%s: the engine is not right", name)
	}
	return got, a, code
}

// checkMeaning: what a statement did is what it means on the table that its transaction sees, or it was refused and
// changed nothing. Of an engine whose rows stand once.
func checkMeaning(t *testing.T, name string, e impl.Engine, tx int, s impl.Stmt) (impl.Engine, impl.Answer, int) {
	t.Helper()
	got, a, code := checkCalled(t, name, e, tx, s)
	if !e.Up || !got.Up || !isOpen(got, tx) {
		if a.Count != 0 || len(a.Rows) != 0 || code == impl.OK {
			t.Fatalf("%s: code %d, %s", name, code, tellAnswer(a))
		}
		return got, a, code
	}
	want := tablesNow(t, e)
	now, wantA, meant := plainDenote(want[s.Table], s)
	if code == impl.OK {
		want[s.Table] = now
	} else {
		wantA = impl.Answer{}
	}
	if !slices.Contains([]int{meant, impl.ErrWait, impl.ErrDeadlock, impl.ErrFull, impl.ErrOver}, code) || code == impl.OK && meant != impl.OK {
		t.Fatalf("%s: code %d, but it means %d", name, code, meant)
	}
	if !sameAnswer(a, wantA) {
		t.Fatalf("%s: code %d, %s, want %s", name, code, tellAnswer(a), tellAnswer(wantA))
	}
	if after := tablesNow(t, got); !sameTables(after, want) {
		t.Fatalf("%s: code %d, the tables are %v, want %v", name, code, after, want)
	}
	return got, a, code
}

// sql does a statement that must be OK, and what it means, with that answer's text.
func (d *doer) sql(tx int, text, told string) {
	d.t.Helper()
	e, a, code := checkMeaning(d.t, fmt.Sprintf("%.200s", text), d.e, tx, stmtOf(d.t, text))
	d.alike(tx, text, e, a, code)
	d.next(text, e, code, impl.OK)
	if got, code := impl.AnswerText(a); got != told || code != impl.OK {
		d.t.Fatalf("%.200s: %q, code %d, want %q", text, got, code, told)
	}
}

// sqlCode does a statement that must be refused.
func (d *doer) sqlCode(tx int, text string, want int) {
	d.t.Helper()
	e, a, code := checkMeaning(d.t, fmt.Sprintf("%.200s", text), d.e, tx, stmtOf(d.t, text))
	d.alike(tx, text, e, a, code)
	d.next(text, e, code, want)
}

// alike: ExecSql answers of the text what ExecStmt does of its statement.
func (d *doer) alike(tx int, text string, e impl.Engine, a impl.Answer, code int) {
	d.t.Helper()
	got, gotA, gotCode := impl.ExecSql(d.e, tx, text)
	if gotCode != code || !sameAnswer(gotA, a) || !sameEngine(got, e) {
		d.t.Fatalf("ExecSql of %.200s: code %d, %s, ExecStmt: code %d, %s", text, gotCode, tellAnswer(gotA), code, tellAnswer(a))
	}
}
