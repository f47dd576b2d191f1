package tests

import (
	"fmt"
	"slices"
	"testing"

	"loop.example/g00332/impl"
)

// TestWhoIsRefusedWaits: one waits, is refused again, and gets it when the other one is over.
func TestWhoIsRefusedWaits(t *testing.T) {
	l := take(t, impl.Locks{}, lock(1, 1, -1, impl.LkIX), impl.OK)
	l = take(t, l, lock(1, 1, 5, impl.LkX), impl.OK)
	l = take(t, l, lock(2, 1, -1, impl.LkIX), impl.OK)
	one := slices.Clone(l.Held)
	for range 3 {
		l = take(t, l, lock(2, 1, 5, impl.LkX), impl.ErrWait)
		checkLocks(t, "refused", l, impl.Locks{Held: one, Waits: waiting(2, 1)})
	}
	l, code := impl.FreeLocks(l, 1)
	if code != impl.OK {
		t.Fatalf("FreeLocks: code %d", code)
	}
	checkLocks(t, "the other one is over", l, held(one[2]))
	l = take(t, l, lock(2, 1, 5, impl.LkX), impl.OK)
	checkLocks(t, "taken", l, held(one[2], lock(2, 1, 5, impl.LkX)))
	l = take(t, l, lock(1, 1, 5, impl.LkS), impl.ErrWait)
	checkLocks(t, "the other way round", l, impl.Locks{Held: l.Held, Waits: waiting(1, 2)})
}

// TestWaitsForSeveral: each of those once that hold what does not fit, in the order in which they hold it.
func TestWaitsForSeveral(t *testing.T) {
	l := held(
		lock(8, 1, -1, impl.LkIS), lock(4, 1, -1, impl.LkIX), lock(4, 1, 3, impl.LkS), lock(9, 1, 3, impl.LkS), lock(8, 1, -1, impl.LkIX),
		lock(2, 1, -1, impl.LkIX), lock(2, 1, 3, impl.LkS), lock(8, 2, 3, impl.LkX), lock(1, 1, -1, impl.LkIX), lock(1, 1, 3, impl.LkS),
		lock(6, 2, -1, impl.LkIX), lock(3, 2, -1, impl.LkIX), lock(6, 2, -1, impl.LkIS), lock(3, 2, -1, impl.LkIS),
		lock(7, 3, -1, impl.LkIS), lock(5, 3, -1, impl.LkS), lock(7, 3, -1, impl.LkS), lock(4, 3, -1, impl.LkIS),
	)
	for _, x := range []struct {
		asked impl.Lock
		want  []impl.Wait
	}{
		{lock(1, 1, 3, impl.LkX), waiting(1, 4, 1, 9, 1, 2)},
		{lock(20, 1, 3, impl.LkX), waiting(20, 4, 20, 9, 20, 2, 20, 1)},
		{lock(20, 1, -1, impl.LkX), waiting(20, 8, 20, 4, 20, 2, 20, 1)},
		{lock(20, 1, -1, impl.LkS), waiting(20, 4, 20, 8, 20, 2, 20, 1)},
		{lock(8, 1, -1, impl.LkS), waiting(8, 4, 8, 2, 8, 1)},
		{lock(20, 2, -1, impl.LkX), waiting(20, 6, 20, 3)},
		{lock(20, 2, 3, impl.LkS), waiting(20, 8)},
		{lock(20, 3, -1, impl.LkIX), waiting(20, 5, 20, 7)},
		{lock(7, 3, -1, impl.LkIX), waiting(7, 5)},
		{lock(20, 3, -1, impl.LkX), waiting(20, 7, 20, 5, 20, 4)},
	} {
		next := take(t, l, x.asked, impl.ErrWait)
		checkLocks(t, fmt.Sprint(x.asked), next, impl.Locks{Held: l.Held, Waits: x.want})
		more := impl.Locks{Held: l.Held, Waits: waiting(31, x.asked.Tx, x.asked.Tx, 32, 33, 34, x.asked.Tx, 33)}
		next = take(t, more, x.asked, impl.ErrWait)
		want := slices.Concat(waiting(31, x.asked.Tx, 33, 34), x.want)
		checkLocks(t, fmt.Sprint(x.asked, ", behind others"), next, impl.Locks{Held: l.Held, Waits: want})
	}
}

// TestWaitsAheadAreGone: with each answer the transaction waits for nothing that it waited for ahead, others do.
func TestWaitsAheadAreGone(t *testing.T) {
	some := []impl.Lock{lock(1, 1, 801, impl.LkX), lock(2, 1, 802, impl.LkX), lock(3, 1, 803, impl.LkX)}
	ahead := waiting(1, 4, 3, 1, 1, 5, 4, 5, 1, 4)
	others := waiting(3, 1, 4, 5)
	for _, x := range []struct {
		name  string
		held  []impl.Lock
		asked impl.Lock
		code  int
		more  []impl.Lock
		waits []impl.Wait
	}{
		{"what it has", some, lock(1, 1, 801, impl.LkS), impl.OK, nil, nil},
		{"what is free", some, lock(1, 1, 809, impl.LkS), impl.OK, []impl.Lock{lock(1, 1, 809, impl.LkS)}, nil},
		{"no room", slices.Concat(some, manyHeld(60)[3:]), lock(1, 1, 809, impl.LkS), impl.ErrFull, nil, nil},
		{"what another one holds", some, lock(1, 1, 802, impl.LkS), impl.ErrWait, nil, waiting(1, 2)},
		{"a deadlock", some, lock(1, 1, 803, impl.LkS), impl.ErrDeadlock, nil, nil},
	} {
		next := take(t, impl.Locks{Held: x.held, Waits: ahead}, x.asked, x.code)
		checkLocks(t, x.name, next, impl.Locks{Held: slices.Concat(x.held, x.more), Waits: slices.Concat(others, x.waits)})
	}
}

// rounds are waits, and whom they lead back to.
func rounds() map[string]struct {
	waits []impl.Wait
	round []int
} {
	type waitsAndRound = struct {
		waits []impl.Wait
		round []int
	}
	var line, ring []impl.Wait
	for tx := 1; tx < impl.MaxTx; tx++ {
		line = append(line, impl.Wait{Tx: tx, For: tx + 1})
	}
	ring = append(slices.Clone(line), impl.Wait{Tx: impl.MaxTx, For: 1})
	all := make([]int, impl.MaxTx)
	for i := range all {
		all[i] = i + 1
	}
	back := slices.Clone(ring)
	slices.Reverse(back)
	return map[string]waitsAndRound{
		"none":                  {nil, nil},
		"one":                   {waiting(1, 2), nil},
		"two":                   {waiting(1, 2, 2, 1), []int{1, 2}},
		"the last two":          {waiting(60, 59, 59, 60), []int{59, 60}},
		"three":                 {waiting(1, 2, 2, 3, 3, 1), []int{1, 2, 3}},
		"three, turned round":   {waiting(3, 1, 2, 3, 1, 2), []int{1, 2, 3}},
		"into a round":          {waiting(1, 2, 2, 3, 3, 2), []int{2, 3}},
		"into a greater one":    {waiting(9, 4, 4, 5, 5, 6, 6, 4), []int{4, 5, 6}},
		"out of a round":        {waiting(1, 2, 2, 1, 2, 3, 3, 4), []int{1, 2}},
		"two rounds":            {waiting(1, 2, 2, 1, 3, 4, 4, 3, 2, 3), []int{1, 2, 3, 4}},
		"two rounds that touch": {waiting(5, 1, 1, 5, 5, 9, 9, 5), []int{1, 5, 9}},
		"a fork that joins":     {waiting(1, 2, 1, 3, 2, 4, 3, 4), nil},
		"a fork, one way back":  {waiting(1, 2, 1, 3, 2, 4, 3, 1), []int{1, 3}},
		"alike ones":            {waiting(1, 2, 1, 2, 2, 3, 2, 3), nil},
		"a line":                {line, nil},
		"a ring":                {ring, all},
		"a ring, turned round":  {back, all},
	}
}

func TestWaitsRound(t *testing.T) {
	for name, x := range rounds() {
		for tx := 1; tx <= impl.MaxTx; tx++ {
			want := slices.Contains(x.round, tx)
			for _, l := range []impl.Locks{{Waits: x.waits}, {Held: manyHeld(60), Waits: x.waits}} {
				if ok, code := impl.WaitsRound(l, tx); ok != want || code != impl.OK {
					t.Errorf("%s, %d: %v, code %d", name, tx, ok, code)
				}
			}
		}
	}
}

func TestDeadlockOfTwo(t *testing.T) {
	l := held(lock(1, 1, 1, impl.LkX), lock(2, 1, 2, impl.LkX))
	l = take(t, l, lock(1, 1, 2, impl.LkS), impl.ErrWait)
	checkLocks(t, "the other one asks", take(t, l, lock(2, 1, 1, impl.LkS), impl.ErrDeadlock), l)
	both := held(lock(1, 1, 1, impl.LkS), lock(2, 1, 1, impl.LkS))
	both = take(t, both, lock(1, 1, 1, impl.LkX), impl.ErrWait)
	checkLocks(t, "both want more", take(t, both, lock(2, 1, 1, impl.LkX), impl.ErrDeadlock), both)
	both, _ = impl.FreeLocks(both, 2)
	checkLocks(t, "one is over", take(t, both, lock(1, 1, 1, impl.LkX), impl.OK), held(lock(1, 1, 1, impl.LkS), lock(1, 1, 1, impl.LkX)))
}

// TestDeadlockOfMany: n transactions each hold a row and ask for the next one's; the last one would close the round.
func TestDeadlockOfMany(t *testing.T) {
	for _, n := range []int{2, 3, 10, 59, 60} {
		var l impl.Locks
		for tx := 1; tx <= n; tx++ {
			l = take(t, l, lock(tx, 1, tx, impl.LkX), impl.OK)
		}
		for tx := 1; tx < n; tx++ {
			l = take(t, l, lock(tx, 1, tx+1, impl.LkS), impl.ErrWait)
		}
		if len(l.Waits) != n-1 {
			t.Fatalf("%d transactions: %d waits", n, len(l.Waits))
		}
		for tx := 1; tx < n; tx++ {
			checkLocks(t, fmt.Sprint(n, " transactions"), take(t, l, lock(n, 1, tx, impl.LkS), impl.ErrDeadlock), l)
		}
		for tx := 1; tx <= n; tx++ {
			if ok, _ := impl.WaitsRound(l, tx); ok {
				t.Errorf("%d transactions: refused, and still round from %d", n, tx)
			}
		}
	}
}

// TestDeadlockByOneOfSeveral: of those that it would wait for just one waits for it, wherever that one stands.
func TestDeadlockByOneOfSeveral(t *testing.T) {
	for back := 2; back <= 5; back++ {
		l := held(lock(1, 2, 0, impl.LkX))
		for tx := 2; tx <= 5; tx++ {
			l.Held = append(l.Held, lock(tx, 1, 0, impl.LkS))
		}
		l = take(t, l, lock(back, 2, 0, impl.LkS), impl.ErrWait)
		checkLocks(t, fmt.Sprint(back, " waits"), take(t, l, lock(1, 1, 0, impl.LkX), impl.ErrDeadlock), l)
		over, _ := impl.FreeLocks(l, back)
		over = take(t, over, lock(1, 1, 0, impl.LkX), impl.ErrWait)
		if len(over.Waits) != 3 {
			t.Errorf("%d is over: %s", back, tellLocks(over))
		}
	}
}

// TestARoundWithoutTx: waits that lead round, but not through who asks, are no deadlock of its.
func TestARoundWithoutTx(t *testing.T) {
	for name, x := range rounds() {
		for tx := 1; tx <= impl.MaxTx; tx++ {
			if len(x.waits) > 90 || slices.ContainsFunc(x.waits, func(w impl.Wait) bool { return w.Tx == tx || w.For == tx }) {
				continue
			}
			for other := 1; other <= impl.MaxTx; other++ {
				if other == tx {
					continue
				}
				l := impl.Locks{Held: []impl.Lock{lock(other, 1, 0, impl.LkX)}, Waits: x.waits}
				next := take(t, l, lock(tx, 1, 0, impl.LkS), impl.ErrWait)
				want := slices.Concat(x.waits, []impl.Wait{{Tx: tx, For: other}})
				checkLocks(t, fmt.Sprint(name, ", ", tx), next, impl.Locks{Held: l.Held, Waits: want})
			}
		}
	}
}

// severalHold: n transactions from 2 on hold one row, which 1 asks for, so that it would wait n times.
func severalHold(n int) []impl.Lock {
	var list []impl.Lock
	for tx := 2; tx < 2+n; tx++ {
		list = append(list, lock(tx, 1, 0, impl.LkS))
	}
	return list
}

func TestMostWaits(t *testing.T) {
	asked := lock(1, 1, 0, impl.LkX)
	for n := 1; n <= 15; n++ {
		for ahead := 80; ahead <= 100; ahead++ {
			name := fmt.Sprintf("%d waits, %d more", ahead, n)
			l := impl.Locks{Held: severalHold(n), Waits: manyWaits(ahead)}
			if ahead+n > 100 {
				checkLocks(t, name, take(t, l, asked, impl.ErrFull), l)
				continue
			}
			next := take(t, l, asked, impl.ErrWait)
			if len(next.Waits) != ahead+n || !slices.Equal(next.Waits[:ahead], l.Waits) {
				t.Errorf("%s: %d waits", name, len(next.Waits))
			}
		}
	}
}

// TestItsOwnWaitsMakeRoom: what it waited for ahead is gone, and counts no more, even where it is refused then.
func TestItsOwnWaitsMakeRoom(t *testing.T) {
	asked := lock(1, 1, 0, impl.LkX)
	for own := range 6 {
		l := impl.Locks{Held: severalHold(3), Waits: slices.Concat(slices.Repeat(waiting(1, 9), own), manyWaits(100-own))}
		code, waits := impl.ErrWait, slices.Concat(manyWaits(100-own), waiting(1, 2, 1, 3, 1, 4))
		if own < 3 {
			code, waits = impl.ErrFull, manyWaits(100-own)
		}
		checkLocks(t, fmt.Sprint(own, " of its own"), take(t, l, asked, code), impl.Locks{Held: l.Held, Waits: waits})
	}
}

// TestFullAheadOfDeadlock: the document names ErrFull of the waits ahead of ErrDeadlock.
func TestFullAheadOfDeadlock(t *testing.T) {
	l := impl.Locks{Held: []impl.Lock{lock(1, 1, 1, impl.LkX), lock(2, 1, 2, impl.LkX)}, Waits: append(manyWaits(99), impl.Wait{Tx: 2, For: 1})}
	checkLocks(t, "100 waits", take(t, l, lock(1, 1, 2, impl.LkS), impl.ErrFull), l)
	l.Waits = l.Waits[1:]
	checkLocks(t, "99 waits", take(t, l, lock(1, 1, 2, impl.LkS), impl.ErrDeadlock), l)
	free := take(t, l, lock(1, 1, 3, impl.LkS), impl.OK)
	if len(free.Held) != 3 || len(free.Waits) != 99 {
		t.Errorf("what is free: %s", tellLocks(free))
	}
}

// TestNoRoomOfLocksBesideWaits: who is refused needs no room among the locks, and who gets it none among the waits.
func TestNoRoomOfLocksBesideWaits(t *testing.T) {
	l := impl.Locks{Held: manyHeld(60), Waits: manyWaits(100)}
	checkLocks(t, "both full, free", take(t, l, lock(1, 1, 700, impl.LkX), impl.ErrFull), l)
	checkLocks(t, "both full, held", take(t, l, lock(1, 1, 0, impl.LkX), impl.ErrFull), l)
	checkLocks(t, "both full, its own", take(t, l, lock(7, 1, 0, impl.LkS), impl.OK), l)
	l.Waits = l.Waits[1:]
	next := take(t, l, lock(1, 1, 0, impl.LkX), impl.ErrWait)
	if len(next.Waits) != 100 {
		t.Errorf("room for one wait: %d", len(next.Waits))
	}
	l = impl.Locks{Held: manyHeld(59), Waits: manyWaits(100)}
	next = take(t, l, lock(1, 1, 700, impl.LkX), impl.OK)
	if len(next.Held) != 60 {
		t.Errorf("room for one lock: %d", len(next.Held))
	}
}
