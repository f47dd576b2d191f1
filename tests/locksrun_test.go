package tests

import (
	"fmt"
	"slices"
	"testing"

	"loop.example/g00332/impl"
)

// plainLocks says the document's rules once more, by going through the lists alone.
type plainLocks struct {
	held  []impl.Lock
	waits []impl.Wait
}

func (p *plainLocks) asLocks() impl.Locks { return impl.Locks{Held: p.held, Waits: p.waits} }

func (p *plainLocks) has(k impl.Lock) bool {
	return slices.ContainsFunc(p.held, func(h impl.Lock) bool {
		return h.Tx == k.Tx && h.Table == k.Table && h.Row == k.Row && wantHas[[2]int{h.Mode, k.Mode}]
	})
}

// bars are those that hold what does not fit, in their order.
func (p *plainLocks) bars(k impl.Lock) []int {
	var list []int
	for _, h := range p.held {
		if h.Tx == k.Tx || h.Table != k.Table || h.Row != k.Row || wantFit[[2]int{h.Mode, k.Mode}] {
			continue
		}
		if !slices.Contains(list, h.Tx) {
			list = append(list, h.Tx)
		}
	}
	return list
}

// reaches follows the waits from one on, each of them at most as often as there are waits.
func reaches(waits []impl.Wait, from, to int) bool {
	at := []int{from}
	for range waits {
		var next []int
		for _, w := range waits {
			if slices.Contains(at, w.Tx) && !slices.Contains(next, w.For) {
				next = append(next, w.For)
			}
		}
		if slices.Contains(next, to) {
			return true
		}
		at = next
	}
	return false
}

func (p *plainLocks) take(k impl.Lock) int {
	p.waits = slices.DeleteFunc(p.waits, func(w impl.Wait) bool { return w.Tx == k.Tx })
	if p.has(k) {
		return impl.OK
	}
	bars := p.bars(k)
	if len(bars) == 0 {
		if len(p.held) == impl.MaxLocks {
			return impl.ErrFull
		}
		p.held = append(p.held, k)
		return impl.OK
	}
	waits := slices.Clone(p.waits)
	for _, other := range bars {
		waits = append(waits, impl.Wait{Tx: k.Tx, For: other})
	}
	if len(waits) > 100 {
		return impl.ErrFull
	}
	if reaches(waits, k.Tx, k.Tx) {
		return impl.ErrDeadlock
	}
	p.waits = waits
	return impl.ErrWait
}

func (p *plainLocks) free(tx int) {
	p.held = slices.DeleteFunc(p.held, func(k impl.Lock) bool { return k.Tx == tx })
	p.waits = slices.DeleteFunc(p.waits, func(w impl.Wait) bool { return w.Tx == tx || w.For == tx })
}

// lock is a right one, of few things, so that they meet.
func (x *dice) lock(txs, rows int) impl.Lock {
	k := lock(1+x.below(txs), 1+x.below(impl.MaxTables), x.below(rows)-1, 1+x.below(4))
	if k.Row >= 0 {
		k.Mode = impl.LkS + x.below(2)
	}
	return k
}

// checkHeld: what is held by several fits, and who waits, waits for one that holds something.
func checkHeld(t *testing.T, name string, l impl.Locks) {
	t.Helper()
	for i, a := range l.Held {
		for _, b := range l.Held[:i] {
			if a.Tx != b.Tx && a.Table == b.Table && a.Row == b.Row && !wantFit[[2]int{a.Mode, b.Mode}] {
				t.Fatalf("%s: %v and %v are held", name, a, b)
			}
		}
	}
	for _, w := range l.Waits {
		if list, _ := impl.LocksOfTx(l, w.For); len(list) == 0 {
			t.Fatalf("%s: %v waits for one that holds nothing", name, w)
		}
		if ok, _ := impl.WaitsRound(l, w.Tx); ok {
			t.Fatalf("%s: %v leads round", name, w)
		}
	}
}

func TestRunsOfLocks(t *testing.T) {
	t.Parallel()
	codes := map[int]int{}
	for run := range 120 {
		x := dice(run)
		txs, rows := 2+x.below(12), 1+x.below(12)*(1+x.below(5))
		l, p := impl.Locks{}, &plainLocks{}
		for i := range 160 {
			name := fmt.Sprintf("run %d, step %d", run, i)
			if x.below(25) == 0 {
				tx := 1 + x.below(txs)
				l, _ = impl.FreeLocks(l, tx)
				p.free(tx)
			} else {
				k := x.lock(txs, rows)
				next, code := impl.TakeLock(l, k.Tx, k.Table, k.Row, k.Mode)
				if want := p.take(k); code != want {
					t.Fatalf("%s, %v: code %d, want %d", name, k, code, want)
				}
				codes[code]++
				l = next
			}
			if !impl.LocksOK(l) {
				t.Fatalf("%s: not right", name)
			}
			if tellLocks(l) != tellLocks(p.asLocks()) {
				t.Fatalf("%s: %s\nwant %s", name, tellLocks(l), tellLocks(p.asLocks()))
			}
			asked := x.lock(txs, rows)
			if ok, code := impl.HoldsLock(l, asked.Tx, asked.Table, asked.Row, asked.Mode); ok != p.has(asked) || code != impl.OK {
				t.Fatalf("%s: HoldsLock of %v is %v, code %d", name, asked, ok, code)
			}
			checkHeld(t, name, l)
		}
	}
	for _, code := range []int{impl.OK, impl.ErrFull, impl.ErrWait, impl.ErrDeadlock} {
		if codes[code] < 20 {
			t.Errorf("code %d came %d times", code, codes[code])
		}
	}
}

// TestRunsOfWaits: waits of any kind, as arguments may have them, against the plain rule.
func TestRunsOfWaits(t *testing.T) {
	led := map[bool]int{}
	for run := range 400 {
		x := dice(run)
		txs := 2 + x.below(impl.MaxTx-1)
		var waits []impl.Wait
		for range x.below(1 + min(100, txs)) {
			a := 1 + x.below(txs)
			waits = append(waits, impl.Wait{Tx: a, For: 1 + (a+x.below(txs-1))%txs})
		}
		for tx := 1; tx <= impl.MaxTx; tx++ {
			ok, code := impl.WaitsRound(impl.Locks{Waits: waits}, tx)
			if want := reaches(waits, tx, tx); ok != want || code != impl.OK {
				t.Fatalf("run %d, %d: %v, code %d", run, tx, ok, code)
			}
			led[ok]++
		}
	}
	if led[true] < 100 || led[false] < 100 {
		t.Errorf("round or not: %v", led)
	}
}

// otherLocks are l in other memory, with other things behind the ends of the lists.
func otherLocks(l impl.Locks) impl.Locks {
	return impl.Locks{
		Held:  append(slices.Clone(l.Held), slices.Repeat([]impl.Lock{lock(77, 77, 77, 77)}, 9)...)[:len(l.Held)],
		Waits: append(slices.Clone(l.Waits), slices.Repeat(waiting(77, 78), 9)...)[:len(l.Waits)],
	}
}

func wholeLocks(l impl.Locks) impl.Locks {
	return impl.Locks{Held: l.Held[:cap(l.Held)], Waits: l.Waits[:cap(l.Waits)]}
}

func spoilLocks(l impl.Locks) {
	spoil(l.Held, lock(7777, 0, 0, 0))
	spoil(l.Waits, impl.Wait{Tx: 7777})
}

type locksAnswer struct {
	name  string
	locks impl.Locks
	list  []impl.Lock
	is    bool
	code  int
}

func (a locksAnswer) tell() string {
	return fmt.Sprintf("%s: %s list %v is %v code %d", a.name, tellLocks(a.locks), a.list, a.is, a.code)
}

func (a locksAnswer) spoil() {
	spoilLocks(a.locks)
	spoil(a.list, lock(7777, 0, 0, 0))
}

// locksAnswers are those of all calls that take locks.
func locksAnswers(l impl.Locks, k impl.Lock) []locksAnswer {
	list := []locksAnswer{{name: "LocksOK", is: impl.LocksOK(l)}}
	next, code := impl.TakeLock(l, k.Tx, k.Table, k.Row, k.Mode)
	list = append(list, locksAnswer{name: "TakeLock", locks: next, code: code})
	next, code = impl.FreeLocks(l, k.Tx)
	list = append(list, locksAnswer{name: "FreeLocks", locks: next, code: code})
	is, code := impl.HoldsLock(l, k.Tx, k.Table, k.Row, k.Mode)
	list = append(list, locksAnswer{name: "HoldsLock", is: is, code: code})
	some, code := impl.LocksOfTx(l, k.Tx)
	list = append(list, locksAnswer{name: "LocksOfTx", list: some, code: code})
	is, code = impl.WaitsRound(l, k.Tx)
	return append(list, locksAnswer{name: "WaitsRound", is: is, code: code})
}

func tellLocksAnswers(list []locksAnswer) string {
	told := ""
	for _, a := range list {
		told += a.tell() + "\n"
	}
	return told
}

func checkLocksApart(t *testing.T, name string, l impl.Locks, k impl.Lock) {
	t.Helper()
	mine, copied := otherLocks(l), otherLocks(l)
	list := locksAnswers(mine, k)
	if tellLocks(wholeLocks(mine)) != tellLocks(wholeLocks(copied)) {
		t.Fatalf("%s: an argument is changed, or what stands behind it", name)
	}
	told := tellLocksAnswers(list)
	spoilLocks(mine)
	if tellLocksAnswers(list) != told {
		t.Fatalf("%s: an answer has memory of an argument", name)
	}
	list = locksAnswers(copied, k)
	if tellLocksAnswers(list) != told {
		t.Fatalf("%s: alike arguments have other answers", name)
	}
	for i, a := range list {
		a.spoil()
		if got, want := tellLocksAnswers(list[i+1:]), tellLocksAnswers(locksAnswers(l, k)[i+1:]); got != want {
			t.Fatalf("%s: the answer of %s has memory of another one", name, a.name)
		}
	}
	if tellLocks(wholeLocks(copied)) != tellLocks(wholeLocks(otherLocks(l))) {
		t.Fatalf("%s: writing into an answer changes an argument", name)
	}
}

// askedLocks are right and wrong ones that the locks of the tests are asked for.
func askedLocks() []impl.Lock {
	_, wrong := edgeLocks()
	return append(wrong, lock(1, 1, -1, impl.LkIS), lock(1, 1, -1, impl.LkX), lock(2, 1, -1, impl.LkX), lock(3, 1, 4, impl.LkX),
		lock(4, 1, 4, impl.LkS), lock(7, 1, 0, impl.LkX), lock(9, 1, 0, impl.LkS), lock(60, 3, 1000, impl.LkS))
}

func TestLocksStandApart(t *testing.T) {
	for _, k := range askedLocks() {
		for name, l := range rightLocks() {
			checkLocksApart(t, fmt.Sprintf("%s, %v", name, k), l, k)
		}
	}
	for name, l := range wrongLocks() {
		checkLocksApart(t, name, l, lock(1, 1, -1, impl.LkX))
	}
}

// lockCalls are calls of all functions of chapter 7.
func lockCalls() []call {
	var list []call
	for _, n := range numberArguments() {
		for _, m := range append(allModes, n) {
			list = append(list, call{"ModesFit", func() string { is, code := impl.ModesFit(n, m); return answers(is, code) }})
		}
	}
	for name, l := range rightLocks() {
		for _, k := range askedLocks() {
			list = append(list, call{name, func() string { return tellLocksAnswers(locksAnswers(l, k)) }})
		}
	}
	for name, l := range wrongLocks() {
		list = append(list, call{name, func() string { return tellLocksAnswers(locksAnswers(l, lock(1, 1, -1, 1))) }})
	}
	return list
}
