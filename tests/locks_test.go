package tests

import (
	"fmt"
	"math"
	"slices"
	"testing"

	"loop.example/g00332/impl"
)

// wantFit is the document's sentence, mode by mode: LkX fits nothing, LkIS all else, and alike ones fit.
var wantFit = map[[2]int]bool{
	{impl.LkIS, impl.LkIS}: true, {impl.LkIS, impl.LkIX}: true, {impl.LkIS, impl.LkS}: true,
	{impl.LkIX, impl.LkIS}: true, {impl.LkIX, impl.LkIX}: true,
	{impl.LkS, impl.LkIS}: true, {impl.LkS, impl.LkS}: true,
}

// wantHas is what one who holds the first mode has: all of LkX, LkIS of any, and its own.
var wantHas = map[[2]int]bool{
	{impl.LkX, impl.LkIS}: true, {impl.LkX, impl.LkIX}: true, {impl.LkX, impl.LkS}: true, {impl.LkX, impl.LkX}: true,
	{impl.LkS, impl.LkIS}: true, {impl.LkS, impl.LkS}: true,
	{impl.LkIX, impl.LkIS}: true, {impl.LkIX, impl.LkIX}: true,
	{impl.LkIS, impl.LkIS}: true,
}

var allModes = []int{impl.LkIS, impl.LkIX, impl.LkS, impl.LkX}

func lock(tx, table, row, mode int) impl.Lock {
	return impl.Lock{Tx: tx, Table: table, Row: row, Mode: mode}
}

func held(list ...impl.Lock) impl.Locks { return impl.Locks{Held: list} }

// waiting makes waits of pairs: who waits, for whom.
func waiting(pairs ...int) []impl.Wait {
	var list []impl.Wait
	for i := 0; i < len(pairs); i += 2 {
		list = append(list, impl.Wait{Tx: pairs[i], For: pairs[i+1]})
	}
	return list
}

func tellLocks(l impl.Locks) string { return fmt.Sprintf("held %v waits %v", l.Held, l.Waits) }

func checkLocks(t *testing.T, name string, got, want impl.Locks) {
	t.Helper()
	if tellLocks(got) != tellLocks(want) {
		t.Errorf("%s: %s\nwant %s", name, tellLocks(got), tellLocks(want))
	}
}

// take asks for a lock, which must have that code, and leaves right locks.
func take(t *testing.T, l impl.Locks, k impl.Lock, want int) impl.Locks {
	t.Helper()
	next, code := impl.TakeLock(l, k.Tx, k.Table, k.Row, k.Mode)
	if code != want || !impl.LocksOK(next) {
		t.Fatalf("TakeLock of %v: code %d, want %d, %s", k, code, want, tellLocks(next))
	}
	return next
}

// manyHeld are n locks that fit, of different rows of one transaction.
func manyHeld(n int) []impl.Lock {
	var list []impl.Lock
	for i := range n {
		list = append(list, lock(7, 1+i%3, i, impl.LkX))
	}
	return list
}

// manyWaits are n waits that lead nowhere round, of transactions from 21 on.
func manyWaits(n int) []impl.Wait {
	var list []impl.Wait
	for i := range n {
		list = append(list, impl.Wait{Tx: 21 + i%30, For: 51 + i%9})
	}
	return list
}

func edgeLocks() (right, wrong []impl.Lock) {
	for _, tx := range []int{1, 2, impl.MaxTx} {
		right = append(right, lock(tx, 1, -1, impl.LkIS))
	}
	for _, tx := range []int{0, -1, impl.MaxTx + 1, 64, 65, 128, math.MinInt, math.MaxInt} {
		wrong = append(wrong, lock(tx, 1, -1, impl.LkIS))
	}
	for _, table := range []int{1, 2, impl.MaxTables} {
		right = append(right, lock(1, table, 5, impl.LkX))
	}
	for _, table := range []int{0, -1, impl.MaxTables + 1, math.MinInt, math.MaxInt} {
		wrong = append(wrong, lock(1, table, 5, impl.LkX))
	}
	for _, row := range []int{-1, 0, 1, 999, 1000} {
		right = append(right, lock(1, 1, row, impl.LkS), lock(1, 1, row, impl.LkX))
	}
	for _, row := range []int{-2, 1001, math.MinInt, math.MaxInt} {
		wrong = append(wrong, lock(1, 1, row, impl.LkS), lock(1, 1, row, impl.LkX))
	}
	for _, mode := range allModes {
		right = append(right, lock(1, 2, -1, mode))
	}
	for _, mode := range []int{0, -1, 5, 8, 64, math.MinInt, math.MaxInt} {
		wrong = append(wrong, lock(1, 2, -1, mode), lock(1, 2, 0, mode))
	}
	for _, row := range []int{0, 1, 1000} {
		wrong = append(wrong, lock(1, 2, row, impl.LkIS), lock(1, 2, row, impl.LkIX))
	}
	return right, wrong
}

func rightLocks() map[string]impl.Locks {
	right, _ := edgeLocks()
	some := map[string]impl.Locks{
		"none":               {},
		"empty lists":        {Held: []impl.Lock{}, Waits: []impl.Wait{}},
		"one's own modes":    held(lock(1, 1, -1, 1), lock(1, 1, -1, 4), lock(1, 1, -1, 3), lock(1, 1, -1, 2)),
		"one's own of a row": held(lock(1, 1, 4, impl.LkX), lock(1, 1, 4, impl.LkS)),
		"several of a row":   held(lock(3, 1, 4, impl.LkS), lock(1, 1, 4, impl.LkS), lock(2, 1, 4, impl.LkS)),
		"a table and rows": held(lock(1, 1, -1, impl.LkX), lock(2, 1, 0, impl.LkX), lock(3, 1, 1, impl.LkX),
			lock(4, 2, -1, impl.LkX), lock(5, 2, 0, impl.LkX)),
		"59 held":      held(manyHeld(59)...),
		"60 held":      held(manyHeld(60)...),
		"99 waits":     {Waits: manyWaits(99)},
		"100 waits":    {Waits: manyWaits(100)},
		"alike waits":  {Waits: waiting(1, 2, 1, 2, 2, 1)},
		"waits' edges": {Waits: waiting(1, impl.MaxTx, impl.MaxTx, 1)},
		"waits round":  {Waits: waiting(1, 2, 2, 3, 3, 4, 4, 2, 5, 1)},
		"both":         {Held: []impl.Lock{lock(1, 1, -1, 2), lock(2, 1, -1, 2), lock(1, 1, 9, 4)}, Waits: waiting(2, 1, 3, 1)},
	}
	for _, k := range right {
		some[fmt.Sprint("just ", k)] = held(k)
		some[fmt.Sprint("behind another one ", k)] = held(lock(9, 3, 7, impl.LkS), k)
	}
	return some
}

func wrongLocks() map[string]impl.Locks {
	_, wrong := edgeLocks()
	some := map[string]impl.Locks{
		"twice":               held(lock(1, 1, 4, impl.LkS), lock(1, 1, 4, impl.LkS)),
		"twice, not together": held(lock(1, 1, -1, 1), lock(1, 1, -1, 2), lock(2, 1, -1, 1), lock(1, 1, -1, 1)),
		"two of LkX":          held(lock(1, 3, 1000, 4), lock(2, 1, 1000, 4), lock(3, 3, 1000, 4)),
		"61 held":             held(manyHeld(61)...),
		"101 waits":           {Waits: manyWaits(101)},
		"for itself":          {Waits: waiting(1, 2, 3, 3)},
		"of 0":                {Waits: waiting(0, 2)},
		"for 0":               {Waits: waiting(2, 0)},
		"of -1":               {Waits: waiting(1, 2, -1, 2)},
		"for -1":              {Waits: waiting(1, 2, 2, -1)},
		"of 61":               {Waits: waiting(impl.MaxTx+1, 2)},
		"for 61":              {Waits: waiting(2, impl.MaxTx+1)},
		"of the least":        {Waits: waiting(math.MinInt, 2)},
		"for the greatest":    {Waits: waiting(2, math.MaxInt)},
	}
	for _, k := range wrong {
		some[fmt.Sprint("just ", k)] = held(k)
		some[fmt.Sprint("behind another one ", k)] = held(lock(9, 3, 7, impl.LkS), k)
		some[fmt.Sprint("ahead of another one ", k)] = held(k, lock(9, 3, 7, impl.LkS))
	}
	return some
}

func TestConstantsOfLocks(t *testing.T) {
	got := []int{impl.LkIS, impl.LkIX, impl.LkS, impl.LkX, impl.MaxLocks, impl.MaxTables}
	if want := []int{1, 2, 3, 4, 60, 3}; !slices.Equal(got, want) {
		t.Errorf("constants %v, want %v", got, want)
	}
}

func TestModesFit(t *testing.T) {
	for a := -3; a < 9; a++ {
		for b := -3; b < 9; b++ {
			right := 1 <= a && a <= 4 && 1 <= b && b <= 4
			fit, code := impl.ModesFit(a, b)
			if right && (fit != wantFit[[2]int{a, b}] || code != impl.OK) || !right && (fit || code != impl.ErrRange) {
				t.Errorf("ModesFit of %d and %d: %v, code %d", a, b, fit, code)
			}
		}
	}
	for _, n := range []int{math.MinInt, math.MaxInt, 64, 65, 68, -64, 1 << 32} {
		for _, mode := range allModes {
			for _, pair := range [][2]int{{n, mode}, {mode, n}, {n, n}} {
				if fit, code := impl.ModesFit(pair[0], pair[1]); fit || code != impl.ErrRange {
					t.Errorf("ModesFit of %v: %v, code %d", pair, fit, code)
				}
			}
		}
	}
}

func TestLocksOK(t *testing.T) {
	for name, l := range rightLocks() {
		if !impl.LocksOK(l) {
			t.Errorf("%s: not right", name)
		}
	}
	for name, l := range wrongLocks() {
		if impl.LocksOK(l) {
			t.Errorf("%s: right", name)
		}
	}
}

// TestTwoOfAThing: each mode beside each one, of one thing, of things that are alike but for one number, by one and by
// two transactions.
func TestTwoOfAThing(t *testing.T) {
	for _, a := range allModes {
		for _, b := range allModes {
			fit := wantFit[[2]int{a, b}]
			for _, x := range []struct {
				l    impl.Locks
				want bool
			}{
				{held(lock(1, 1, -1, a), lock(2, 1, -1, b)), fit},
				{held(lock(1, 1, -1, a), lock(3, 2, -1, impl.LkX), lock(2, 1, -1, b)), fit},
				{held(lock(impl.MaxTx, 3, -1, a), lock(1, 3, -1, b)), fit},
				{held(lock(1, 1, -1, a), lock(2, 2, -1, b)), true},
				{held(lock(1, 1, -1, a), lock(1, 1, -1, b)), a != b},
				{held(lock(1, 2, -1, b), lock(1, 1, -1, a)), true},
			} {
				if impl.LocksOK(x.l) != x.want {
					t.Errorf("%s: right is %v", tellLocks(x.l), !x.want)
				}
			}
			if a < impl.LkS || b < impl.LkS {
				continue
			}
			for _, row := range []int{0, 7, 1000} {
				if l := held(lock(1, 2, row, a), lock(2, 2, row, b)); impl.LocksOK(l) != fit {
					t.Errorf("%s: right is %v", tellLocks(l), !fit)
				}
				if l := held(lock(1, 2, row, a), lock(2, 2, -1, b)); !impl.LocksOK(l) {
					t.Errorf("%s: a row and its table are not one thing", tellLocks(l))
				}
				if l := held(lock(1, 2, row, a), lock(2, 3, row, b)); !impl.LocksOK(l) {
					t.Errorf("%s: rows of two tables are not one thing", tellLocks(l))
				}
			}
		}
	}
}

func TestHoldsLock(t *testing.T) {
	for _, a := range allModes {
		for _, b := range allModes {
			want := wantHas[[2]int{a, b}]
			l := held(lock(5, 2, -1, impl.LkIS), lock(1, 1, -1, a))
			if ok, code := impl.HoldsLock(l, 1, 1, -1, b); ok != want || code != impl.OK {
				t.Errorf("who holds %d has %d: %v, code %d", a, b, ok, code)
			}
			for _, k := range []impl.Lock{lock(2, 1, -1, b), lock(1, 2, -1, b), lock(5, 1, -1, b), lock(1, 1, 0, impl.LkS)} {
				if ok, code := impl.HoldsLock(l, k.Tx, k.Table, k.Row, k.Mode); ok || code != impl.OK {
					t.Errorf("%s: %v has it %v, code %d", tellLocks(l), k, ok, code)
				}
			}
			if a < impl.LkS || b < impl.LkS {
				continue
			}
			l = held(lock(1, 1, -1, impl.LkIS), lock(1, 1, 0, a))
			if ok, code := impl.HoldsLock(l, 1, 1, 0, b); ok != want || code != impl.OK {
				t.Errorf("of a row, who holds %d has %d: %v, code %d", a, b, ok, code)
			}
		}
	}
	l := held(lock(1, 1, -1, impl.LkIX), lock(1, 1, -1, impl.LkS), lock(1, 2, -1, impl.LkX))
	for mode, want := range map[int]bool{impl.LkIS: true, impl.LkIX: true, impl.LkS: true, impl.LkX: false} {
		if ok, _ := impl.HoldsLock(l, 1, 1, -1, mode); ok != want {
			t.Errorf("who holds LkIX and LkS has %d: %v", mode, ok)
		}
	}
}

func TestLocksOfTx(t *testing.T) {
	l := held(lock(2, 1, -1, 2), lock(1, 1, -1, 2), lock(1, 1, 5, 4), lock(2, 1, 4, 3), lock(1, 1, 2, 3), lock(60, 3, 0, 4), lock(1, 1, -1, 1))
	for tx, want := range map[int][]impl.Lock{
		1:  {lock(1, 1, -1, 2), lock(1, 1, 5, 4), lock(1, 1, 2, 3), lock(1, 1, -1, 1)},
		2:  {lock(2, 1, -1, 2), lock(2, 1, 4, 3)},
		60: {lock(60, 3, 0, 4)},
		3:  nil,
	} {
		if list, code := impl.LocksOfTx(l, tx); !slices.Equal(list, want) || code != impl.OK {
			t.Errorf("LocksOfTx of %d: %v, code %d", tx, list, code)
		}
	}
	if list, code := impl.LocksOfTx(held(manyHeld(60)...), 7); !slices.Equal(list, manyHeld(60)) || code != impl.OK {
		t.Errorf("LocksOfTx of all: %d, code %d", len(list), code)
	}
}

// TestTakeLock: each mode asked for where each is held, by the same one and by another one.
func TestTakeLock(t *testing.T) {
	for _, a := range allModes {
		for _, b := range allModes {
			for _, row := range []int{-1, 3} {
				if row >= 0 && (a < impl.LkS || b < impl.LkS) {
					continue
				}
				l := held(lock(9, 2, 5, impl.LkX), lock(1, 1, row, a))
				want := held(lock(9, 2, 5, impl.LkX), lock(1, 1, row, a), lock(1, 1, row, b))
				if wantHas[[2]int{a, b}] {
					want = l
				}
				name := fmt.Sprintf("of %d, %d is held and %d is asked for by ", row, a, b)
				checkLocks(t, name+"the same one", take(t, l, lock(1, 1, row, b), impl.OK), want)
				want, code := held(lock(9, 2, 5, impl.LkX), lock(1, 1, row, a), lock(2, 1, row, b)), impl.OK
				if !wantFit[[2]int{a, b}] {
					want, code = impl.Locks{Held: l.Held, Waits: waiting(2, 1)}, impl.ErrWait
				}
				checkLocks(t, name+"another one", take(t, l, lock(2, 1, row, b), code), want)
			}
		}
	}
}

func TestEdgesAreTaken(t *testing.T) {
	right, wrong := edgeLocks()
	for _, k := range right {
		l := held(lock(30, 3, 77, impl.LkS))
		next := take(t, l, k, impl.OK)
		checkLocks(t, fmt.Sprint(k), next, held(l.Held[0], k))
		if ok, code := impl.HoldsLock(next, k.Tx, k.Table, k.Row, k.Mode); !ok || code != impl.OK {
			t.Errorf("%v is not held when it was taken: code %d", k, code)
		}
	}
	for _, k := range wrong {
		for _, l := range []impl.Locks{{}, held(lock(30, 3, 77, impl.LkS)), held(manyHeld(60)...), {Waits: manyWaits(100)}} {
			next, code := impl.TakeLock(l, k.Tx, k.Table, k.Row, k.Mode)
			if code != impl.ErrRange {
				t.Errorf("TakeLock of %v: code %d", k, code)
			}
			checkLocks(t, fmt.Sprint(k), next, impl.Locks{})
			if ok, code := impl.HoldsLock(l, k.Tx, k.Table, k.Row, k.Mode); ok || code != impl.ErrRange {
				t.Errorf("HoldsLock of %v: %v, code %d", k, ok, code)
			}
		}
	}
}

func TestMostLocks(t *testing.T) {
	l := impl.Locks{Held: manyHeld(59), Waits: waiting(1, 2, 2, 7)}
	l = take(t, l, lock(1, 1, 600, impl.LkS), impl.OK)
	checkLocks(t, "a 60th", l, impl.Locks{Held: append(manyHeld(59), lock(1, 1, 600, impl.LkS)), Waits: waiting(2, 7)})
	without := impl.Locks{Held: l.Held}
	checkLocks(t, "a 61st", take(t, l, lock(2, 1, 601, impl.LkS), impl.ErrFull), without)
	checkLocks(t, "a 61st that fits", take(t, l, lock(2, 1, 600, impl.LkS), impl.ErrFull), without)
	checkLocks(t, "more of one's own", take(t, l, lock(1, 1, 600, impl.LkX), impl.ErrFull), l)
	checkLocks(t, "what is held", take(t, l, lock(1, 1, 600, impl.LkS), impl.OK), l)
	checkLocks(t, "less of one's own", take(t, l, lock(7, 1, 0, impl.LkS), impl.OK), l)
	checkLocks(t, "what does not fit", take(t, l, lock(2, 1, 0, impl.LkS), impl.ErrWait), l)
}

func TestWhoIsOverHoldsNothing(t *testing.T) {
	l := impl.Locks{
		Held:  []impl.Lock{lock(2, 1, -1, 2), lock(1, 1, -1, 2), lock(1, 1, 5, 4), lock(2, 1, 4, 3), lock(1, 3, 0, 3), lock(3, 3, 0, 3)},
		Waits: waiting(2, 1, 3, 2, 1, 3, 4, 1, 2, 4, 1, 60, 60, 1, 60, 2),
	}
	for tx, want := range map[int]impl.Locks{
		1: {Held: []impl.Lock{lock(2, 1, -1, 2), lock(2, 1, 4, 3), lock(3, 3, 0, 3)}, Waits: waiting(3, 2, 2, 4, 60, 2)},
		2: {Held: []impl.Lock{lock(1, 1, -1, 2), lock(1, 1, 5, 4), lock(1, 3, 0, 3), lock(3, 3, 0, 3)},
			Waits: waiting(1, 3, 4, 1, 1, 60, 60, 1)},
		60: {Held: l.Held, Waits: waiting(2, 1, 3, 2, 1, 3, 4, 1, 2, 4)},
		5:  l,
	} {
		next, code := impl.FreeLocks(l, tx)
		if code != impl.OK || !impl.LocksOK(next) {
			t.Errorf("FreeLocks of %d: code %d", tx, code)
		}
		checkLocks(t, fmt.Sprint("FreeLocks of ", tx), next, want)
		if list, code := impl.LocksOfTx(next, tx); len(list) != 0 || code != impl.OK {
			t.Errorf("who is over holds %v", list)
		}
	}
	for _, tx := range []int{2, 1, 3, 60} {
		l, _ = impl.FreeLocks(l, tx)
	}
	checkLocks(t, "all are over", l, impl.Locks{})
}

// TestFaultsOfLocks: ErrBad comes ahead of ErrRange, and both with nothing else.
func TestFaultsOfLocks(t *testing.T) {
	for name, l := range wrongLocks() {
		for _, n := range []int{1, 0, impl.MaxTx + 1} {
			next, code := impl.TakeLock(l, n, 1, -1, impl.LkX)
			checkLockFault(t, name+", TakeLock", next, code, impl.ErrBad)
			next, code = impl.FreeLocks(l, n)
			checkLockFault(t, name+", FreeLocks", next, code, impl.ErrBad)
			if ok, code := impl.HoldsLock(l, n, 1, -1, impl.LkX); ok || code != impl.ErrBad {
				t.Errorf("%s, HoldsLock: %v, code %d", name, ok, code)
			}
			if list, code := impl.LocksOfTx(l, n); len(list) != 0 || code != impl.ErrBad {
				t.Errorf("%s, LocksOfTx: %v, code %d", name, list, code)
			}
			if ok, code := impl.WaitsRound(l, n); ok || code != impl.ErrBad {
				t.Errorf("%s, WaitsRound: %v, code %d", name, ok, code)
			}
		}
	}
	for name, l := range rightLocks() {
		for _, n := range []int{0, -1, impl.MaxTx + 1, 64, 65, math.MinInt, math.MaxInt} {
			next, code := impl.FreeLocks(l, n)
			checkLockFault(t, name+", FreeLocks", next, code, impl.ErrRange)
			if list, code := impl.LocksOfTx(l, n); len(list) != 0 || code != impl.ErrRange {
				t.Errorf("%s, LocksOfTx of %d: %v, code %d", name, n, list, code)
			}
			if ok, code := impl.WaitsRound(l, n); ok || code != impl.ErrRange {
				t.Errorf("%s, WaitsRound of %d: %v, code %d", name, n, ok, code)
			}
		}
		for _, tx := range []int{1, impl.MaxTx} {
			if _, code := impl.FreeLocks(l, tx); code != impl.OK {
				t.Errorf("%s, FreeLocks of %d: code %d", name, tx, code)
			}
			if _, code := impl.LocksOfTx(l, tx); code != impl.OK {
				t.Errorf("%s, LocksOfTx of %d: code %d", name, tx, code)
			}
			if _, code := impl.WaitsRound(l, tx); code != impl.OK {
				t.Errorf("%s, WaitsRound of %d: code %d", name, tx, code)
			}
		}
	}
}

func checkLockFault(t *testing.T, name string, l impl.Locks, code, want int) {
	t.Helper()
	if code != want {
		t.Errorf("%s: code %d, want %d", name, code, want)
	}
	checkLocks(t, name, l, impl.Locks{})
}
