package tests

import (
	"fmt"
	"math"
	"testing"

	"loop.example/g00332/impl"
)

// spoilt engines are not right, be they up or not.
func spoiltEngine(e impl.Engine) impl.Engine {
	return engineWith(e, func(e *impl.Engine) { e.Next = impl.MaxTx + 2 })
}

// faults are those of one call, in any company; the codes come in their order.
type faults struct{ engine, row, table, id, down, tx bool }

func (f faults) engineOf() impl.Engine {
	e := someEngine()
	if f.down {
		e = downEngine()
	}
	if f.engine {
		e = spoiltEngine(e)
	}
	return e
}

func (f faults) want() int {
	switch {
	case f.engine || f.row:
		return impl.ErrBad
	case f.table || f.id:
		return impl.ErrRange
	case f.down:
		return impl.ErrDown
	case f.tx:
		return impl.ErrTx
	}
	return impl.OK
}

func allFaults() []faults {
	var list []faults
	for n := range 64 {
		list = append(list, faults{n&1 > 0, n&2 > 0, n&4 > 0, n&8 > 0, n&16 > 0, n&32 > 0})
	}
	return list
}

func pick[T any](wrong bool, bad, good T) T {
	if wrong {
		return bad
	}
	return good
}

// faultyCalls are the calls of an open transaction, each with those of the faults that it can have.
func faultyCalls(f faults) map[string]func() (faults, impl.Engine, int) {
	e := f.engineOf()
	tx, table, id := pick(f.tx, 5, 4), pick(f.table, 4, 1), pick(f.id, 1001, 3)
	return map[string]func() (faults, impl.Engine, int){
		"PutRow": func() (faults, impl.Engine, int) {
			got, code := impl.PutRow(e, tx, table, pick(f.row, row(-1, 1), row(3, 1)))
			return faults{f.engine, f.row, f.table, false, f.down, f.tx}, got, code
		},
		"DropRow": func() (faults, impl.Engine, int) {
			got, code := impl.DropRow(e, tx, table, id)
			return faults{f.engine, false, f.table, f.id, f.down, f.tx}, got, code
		},
		"GetRow": func() (faults, impl.Engine, int) {
			got, _, code := impl.GetRow(e, tx, table, id)
			return faults{f.engine, false, f.table, f.id, f.down, f.tx}, got, code
		},
		"ScanRows": func() (faults, impl.Engine, int) {
			got, _, code := impl.ScanRows(e, tx, table)
			return faults{f.engine, false, f.table, false, f.down, f.tx}, got, code
		},
		"CommitTx": func() (faults, impl.Engine, int) {
			got, code := impl.CommitTx(e, tx)
			return faults{engine: f.engine, down: f.down, tx: f.tx}, got, code
		},
		"AbortTx": func() (faults, impl.Engine, int) {
			got, code := impl.AbortTx(e, tx)
			return faults{engine: f.engine, down: f.down, tx: f.tx}, got, code
		},
		"RollbackTo": func() (faults, impl.Engine, int) {
			got, code := impl.RollbackTo(e, tx, 7)
			return faults{engine: f.engine, down: f.down, tx: f.tx}, got, code
		},
	}
}

func TestFaultsComeInTheirOrder(t *testing.T) {
	for _, f := range allFaults() {
		for name, call := range faultyCalls(f) {
			has, got, code := call()
			name = fmt.Sprintf("%s with %+v", name, has)
			if code != has.want() {
				t.Errorf("%s: code %d, want %d", name, code, has.want())
			}
			switch code {
			case impl.OK:
				if !impl.EngineOK(got) {
					t.Errorf("%s: the engine is not right", name)
				}
			case impl.ErrBad, impl.ErrRange:
				checkEngine(t, name, got, impl.Engine{})
			default:
				checkEngine(t, name, got, f.engineOf())
			}
		}
	}
}

// TestWhatIsRefusedBehindAPlace: a place that is not there is the last fault of RollbackTo.
func TestWhatIsRefusedBehindAPlace(t *testing.T) {
	for _, f := range allFaults() {
		want := faults{engine: f.engine, down: f.down, tx: f.tx}.want()
		if want == impl.OK {
			want = impl.ErrNone
		}
		if _, code := impl.RollbackTo(f.engineOf(), pick(f.tx, 5, 4), 8); code != want {
			t.Errorf("RollbackTo with %+v: code %d, want %d", f, code, want)
		}
	}
}

func TestBeginCodes(t *testing.T) {
	full, last := begun(1, 10), engineWith(impl.NewEngine(), func(e *impl.Engine) { e.Next = impl.MaxTx + 1 })
	for name, x := range map[string]struct {
		e    impl.Engine
		want int
	}{
		"not up":                         {downEngine(), impl.ErrDown},
		"not up, MaxTx + 1":              {impl.Engine{Store: impl.NewStore(), Next: impl.MaxTx + 1}, impl.ErrDown},
		"not up, a full log":             {engineWith(filledUp(impl.NewEngine(), 60), func(e *impl.Engine) { e.Up = false }), impl.ErrDown},
		"not up, not right":              {spoiltEngine(downEngine()), impl.ErrBad},
		"up, not right":                  {spoiltEngine(someEngine()), impl.ErrBad},
		"10 are open":                    {full, impl.ErrMany},
		"10 are open, no room":           {filledUp(full, 40), impl.ErrMany},
		"10 are open, MaxTx + 1":         {begun(51, 10), impl.ErrMany},
		"MaxTx + 1":                      {last, impl.ErrMany},
		"MaxTx + 1, no room":             {filledUp(last, 60), impl.ErrMany},
		"a full log":                     {filledUp(impl.NewEngine(), 60), impl.ErrFull},
		"room for one":                   {filledUp(impl.NewEngine(), 59), impl.ErrFull},
		"room for two":                   {filledUp(impl.NewEngine(), 58), impl.OK},
		"9 are open, room for one":       {filledUp(begun(1, 9), 41), impl.ErrFull},
		"9 are open, room for two":       {filledUp(begun(1, 9), 40), impl.OK},
		"28 updates, room for one":       {filledUp(updated(28), 1), impl.ErrFull},
		"28 updates, room for two":       {updated(28), impl.OK},
		"29 updates":                     {updated(29), impl.ErrFull},
		"some engine, room for none":     {filledUp(someEngine(), 42), impl.ErrFull},
		"some engine, room for one":      {filledUp(someEngine(), 41), impl.ErrFull},
		"some engine, room for two":      {filledUp(someEngine(), 40), impl.OK},
		"some engine, Next at the last":  {engineWith(someEngine(), func(e *impl.Engine) { e.Next = impl.MaxTx }), impl.OK},
		"some engine, Next behind MaxTx": {engineWith(someEngine(), func(e *impl.Engine) { e.Next = impl.MaxTx + 1 }), impl.ErrMany},
	} {
		got, tx, code := impl.BeginTx(x.e)
		if code != x.want || (tx == 0) == (x.want == impl.OK) {
			t.Errorf("%s: %d, code %d, want %d", name, tx, code, x.want)
		}
		want := cloneEngine(x.e)
		switch x.want {
		case impl.OK:
			want.Store.Log = append(want.Store.Log, begin(x.e.Store.Epoch, len(x.e.Store.Log)+1, x.e.Next))
			want.Txs = append(want.Txs, impl.Tx{Id: x.e.Next, Last: len(want.Store.Log)})
			want.Next++
		case impl.ErrBad:
			want = impl.Engine{}
		}
		checkEngine(t, name, got, want)
	}
}

func TestWrongEnginesAreBadAheadOfAll(t *testing.T) {
	for name, e := range wrongEngines() {
		for _, tx := range []int{0, 1, 2, 99} {
			calls := txCalls(e, tx)
			calls["BeginTx"] = func() (impl.Engine, int) { e, _, code := impl.BeginTx(e); return e, code }
			calls["PutRow of no row"] = func() (impl.Engine, int) { return impl.PutRow(e, tx, 9, row(-1, 1)) }
			calls["DropRow of no table"] = func() (impl.Engine, int) { return impl.DropRow(e, tx, 0, -1) }
			calls["GetRow of no table"] = func() (impl.Engine, int) { e, _, code := impl.GetRow(e, tx, 0, -1); return e, code }
			calls["ScanRows of no table"] = func() (impl.Engine, int) { e, _, code := impl.ScanRows(e, tx, 0); return e, code }
			for of, call := range calls {
				if got, code := call(); code != impl.ErrBad || tellEngine(got) != tellEngine(impl.Engine{}) {
					t.Errorf("%s, %s of %d: code %d", name, of, tx, code)
				}
			}
		}
	}
}

func TestRowsTablesAndIdsAtTheirEdges(t *testing.T) {
	e := begun(1, 1)
	for _, r := range wrongRows() {
		for _, table := range []int{0, 1, 4} {
			if got, code := impl.PutRow(e, 1, table, r); code != impl.ErrBad || tellEngine(got) != tellEngine(impl.Engine{}) {
				t.Errorf("PutRow(%d, %v): code %d", table, r, code)
			}
		}
	}
	for _, table := range []int{-1, 0, 1, 2, 3, 4, 5, math.MinInt, math.MaxInt} {
		for _, id := range []int{-2, -1, 0, 1, 999, 1000, 1001, 1002, math.MinInt, math.MaxInt} {
			right := 1 <= table && table <= 3 && 0 <= id && id <= 1000
			want := pick(right, impl.ErrNone, impl.ErrRange)
			got, code := impl.DropRow(e, 1, table, id)
			_, r, code2 := impl.GetRow(e, 1, table, id)
			if code != want || code2 != want || r != (impl.Row{}) || (len(got.Txs) > 0) != right {
				t.Errorf("table %d, id %d: DropRow %d, GetRow %d", table, id, code, code2)
			}
			if right {
				_, code := impl.PutRow(e, 1, table, row(id, 1))
				_, _, code2 := impl.ScanRows(e, 1, table)
				if code != impl.OK || code2 != impl.OK {
					t.Errorf("table %d, id %d: PutRow %d, ScanRows %d", table, id, code, code2)
				}
			}
		}
		if 1 <= table && table <= 3 {
			continue
		}
		got, rows, code := impl.ScanRows(e, 1, table)
		if code != impl.ErrRange || rows != nil || tellEngine(got) != tellEngine(impl.Engine{}) {
			t.Errorf("ScanRows of table %d: code %d", table, code)
		}
		if got, code := impl.PutRow(e, 1, table, row(1, 1)); code != impl.ErrRange || tellEngine(got) != tellEngine(impl.Engine{}) {
			t.Errorf("PutRow of table %d: code %d", table, code)
		}
	}
}
