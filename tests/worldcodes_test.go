package tests

import (
	"fmt"
	"math"
	"slices"
	"testing"

	"loop.example/g00332/impl"
)

// actFaults are those of one act in any company; the codes come in their order.
type actFaults struct{ long, world, session, down, tx, own bool }

func allActFaults() []actFaults {
	var list []actFaults
	for n := range 64 {
		list = append(list, actFaults{n&1 > 0, n&2 > 0, n&4 > 0, n&8 > 0, n&16 > 0, n&32 > 0})
	}
	return list
}

// worldOf has sessions 0 and 2 with transactions, unless it is down.
func (f actFaults) worldOf(busy, down impl.World) impl.World {
	w := pick(f.down, down, busy)
	if f.world {
		w = worldWith(w, func(w *impl.World) { w.Done = append(w.Done, impl.Change{}) })
	}
	return w
}

// actOf is one of the kind with the faults that it can have.
func (f actFaults) actOf(kind, noSession int) impl.WorldAct {
	a := impl.WorldAct{Kind: kind, Session: pick(f.tx, 1, 2), Stmt: selectOf(1, lacking, 0, false), Keep: []int{1}}
	switch {
	case kind == impl.WoBegin:
		a.Session = pick(f.own, 2, 1)
	case f.own && kind == impl.WoSql:
		a.Stmt.Table = 4
	case kind == impl.WoEvict:
		a.N = pick(f.own, impl.MaxPages, 7)
	case f.own && kind == impl.WoArm:
		a.Keep = slices.Repeat([]int{1}, 501)
	}
	if f.session {
		a.Session = noSession
	}
	if f.long {
		a.Keep = slices.Repeat([]int{1}, impl.MaxList+1)
	}
	return a
}

func (f actFaults) want(kind int) int {
	own := map[int]int{impl.WoBegin: impl.ErrTwice, impl.WoSql: impl.ErrBad, impl.WoEvict: impl.ErrRange, impl.WoArm: impl.ErrMany}
	switch {
	case f.long:
		return impl.ErrLong
	case f.world:
		return impl.ErrBad
	case kind < 1 || kind > 9:
		return impl.ErrForm
	case f.session && kind <= 4:
		return impl.ErrRange
	case kind == impl.WoRestart:
		return pick(f.down, impl.OK, impl.ErrTwice)
	case f.down:
		return impl.ErrDown
	case f.tx && kind >= 2 && kind <= 4:
		return impl.ErrTx
	case f.own:
		return own[kind]
	}
	return impl.OK
}

// TestFaultsOfActsInTheirOrder: each of the faults with each company, of each kind of act, and of kinds that are none.
func TestFaultsOfActsInTheirOrder(t *testing.T) {
	t.Parallel()
	busy, down := busyWorld(t), downWorld(t)
	met := map[[2]int]bool{}
	for _, f := range allActFaults() {
		w := f.worldOf(busy, down)
		for _, kind := range []int{math.MinInt, -1, 0, 1, 2, 3, 4, 5, 6, 7, 8, 9, 10, 11, 256 + 1, math.MaxInt} {
			for _, noSession := range []int{math.MinInt, -1, impl.MaxSessions, 256, math.MaxInt} {
				a := f.actOf(kind, noSession)
				name := fmt.Sprintf("%+v, %s", f, tellAct(a))
				want := f.want(kind)
				got, answer, code := impl.WorldStep(w, a)
				if code != want || code != impl.OK && !sameAnswer(answer, impl.Answer{}) {
					t.Fatalf("%s: code %d, want %d", name, code, want)
				}
				met[[2]int{kind, code}] = true
				switch {
				case f.long || f.world:
					checkWorld(t, name, got, impl.World{})
				case code != impl.OK:
					checkWorld(t, name, got, w)
				}
			}
		}
	}
	if len(met) < 9*4 {
		t.Errorf("only %d codes of kinds were met", len(met))
	}
}

// TestSessionsThatThereAre: from 0 to MaxSessions - 1; acts that are of no session do not ask for one.
func TestSessionsThatThereAre(t *testing.T) {
	w := impl.NewWorld()
	for _, session := range []int{math.MinInt, -1, 0, 1, impl.MaxSessions - 1, impl.MaxSessions, math.MaxInt} {
		is := session >= 0 && session < 3
		for kind, code := range map[int]int{impl.WoBegin: impl.OK, impl.WoSql: impl.ErrTx, impl.WoCommit: impl.ErrTx, impl.WoAbort: impl.ErrTx,
			impl.WoCheck: impl.OK, impl.WoCrash: impl.OK, impl.WoArm: impl.OK, impl.WoEvict: impl.ErrNone, impl.WoRestart: impl.ErrTwice, 10: impl.ErrForm} {
			got, _, gotCode := checkStep(t, "new", w, impl.WorldAct{Kind: kind, Session: session})
			if want := pick(kind <= 4 && !is, impl.ErrRange, code); gotCode != want || !impl.WorldOK(got) {
				t.Errorf("kind %d, session %d: code %d, want %d", kind, session, gotCode, want)
			}
		}
	}
}

// TestKeepsOfActs: too long for any act beyond MaxList; for an arm beyond 500.
func TestKeepsOfActs(t *testing.T) {
	busy := busyWorld(t)
	for _, n := range []int{0, 1, 499, 500, 501, impl.MaxList - 1, impl.MaxList, impl.MaxList + 1, 3 * impl.MaxList} {
		keep := slices.Repeat([]int{0, 1, 5}, n)[:n]
		for _, a := range oneOfEachAct() {
			a.Keep = keep
			_, _, plain := impl.WorldStep(busy, impl.WorldAct{Kind: a.Kind, Session: a.Session, N: a.N, Stmt: a.Stmt})
			want := pick(n > impl.MaxList, impl.ErrLong, pick(a.Kind == impl.WoArm && n > 500, impl.ErrMany, plain))
			got, _, code := checkStep(t, fmt.Sprint(n, " of Keep"), busy, a)
			if code != want {
				t.Errorf("%d of Keep, act %d: code %d, want %d", n, a.Kind, code, want)
			}
			if d := got.Engine.Store.Disk; a.Kind == impl.WoArm && code == impl.OK && (!d.Armed || !slices.Equal(d.Keep, keep)) {
				t.Errorf("%d of Keep: armed %v with %v", n, d.Armed, d.Keep)
			}
		}
	}
}

// someActs are a run that is OK up to its end, over and over.
func someActs(t *testing.T, n int) []impl.WorldAct {
	t.Helper()
	round := []impl.WorldAct{beginAct(0), sqlAct(0, stmtOf(t, "select 1")), abortAct(0), evictAct(0), armAct(1, 1), checkAct(), restartAct(0), crashAct(1), restartAct(2), {Kind: 77}}
	return slices.Repeat(round, n/len(round)+1)[:n]
}

func TestRunsThatAreRefused(t *testing.T) {
	long := slices.Repeat([]int{1}, impl.MaxList+1)
	check := func(name string, acts []impl.WorldAct, want int) {
		t.Helper()
		w, codes, code := impl.WorldRun(acts)
		if code != want {
			t.Errorf("%s: code %d, want %d", name, code, want)
		}
		if want != impl.OK && (!sameWorld(w, impl.World{}) || len(codes) != 0) {
			t.Errorf("%s: codes %v, %.500s", name, codes, tellWorld(w))
		}
		if want == impl.OK && (!impl.WorldOK(w) || len(codes) != len(acts)) {
			t.Errorf("%s: %d codes of %d acts", name, len(codes), len(acts))
		}
	}
	for _, n := range []int{0, 1, 2, 10, impl.MaxActs - 1, impl.MaxActs, impl.MaxActs + 1, 1000, impl.MaxList - 1, impl.MaxList, impl.MaxList + 1, 2 * impl.MaxList} {
		want := pick(n > impl.MaxList, impl.ErrLong, pick(n > impl.MaxActs, impl.ErrMany, impl.OK))
		check(fmt.Sprint(n, " acts"), someActs(t, n), want)
		check(fmt.Sprint(n, " acts of no kind"), make([]impl.WorldAct, n), want)
		if n == 0 {
			continue
		}
		for _, at := range []int{0, n / 2, n - 1} {
			for _, keep := range [][]int{long, long[1:]} {
				acts := someActs(t, n)
				acts[at].Keep = keep
				check(fmt.Sprintf("%d acts, Keep %d of %d", n, at, len(keep)), acts, pick(want == impl.OK && len(keep) > impl.MaxList, impl.ErrLong, want))
			}
		}
	}
}

// TestARunHasACodeOfEach: and the world of its acts, one behind the other; a code ends nothing.
func TestARunHasACodeOfEach(t *testing.T) {
	acts := []impl.WorldAct{commitAct(0), {}, beginAct(3), beginAct(0), beginAct(0), sqlAct(0, impl.Stmt{}), sqlAct(0, insertOf(1, row(1, 1))), sqlAct(0, insertOf(1, row(1, 1))), beginAct(1), sqlAct(1, selectOf(1, lacking, 0, false)),
		sqlAct(1, insertOf(2, row(1, 1))), sqlAct(0, deleteOf(2, lacking)), sqlAct(1, deleteOf(1, lacking)), commitAct(1), commitAct(0), evictAct(9), evictAct(1), evictAct(0), armAct(slices.Repeat([]int{1}, 501)...), checkAct(),
		restartAct(0), beginAct(2), sqlAct(2, insertOf(3, row(2, 2))), armAct(), commitAct(2), commitAct(2), restartAct(1), crashAct(), restartAct(0), restartAct(0)}
	want := []int{impl.ErrTx, impl.ErrForm, impl.ErrRange, 0, impl.ErrTwice, impl.ErrBad, 0, impl.ErrKey, 0, impl.ErrWait,
		0, impl.ErrWait, impl.ErrDeadlock, impl.ErrTx, 0, impl.ErrRange, impl.ErrNone, 0, impl.ErrMany, 0,
		impl.ErrTwice, 0, 0, 0, impl.ErrDown, impl.ErrDown, impl.ErrDown, impl.ErrDown, 0, impl.ErrTwice}
	w, codes, code := impl.WorldRun(acts)
	if code != impl.OK || !slices.Equal(codes, want) {
		t.Fatalf("code %d, codes %v, want %v", code, codes, want)
	}
	for n := range len(acts) + 1 {
		_, codes, code := impl.WorldRun(acts[:n])
		if code != impl.OK || !slices.Equal(codes, want[:n]) {
			t.Errorf("%d acts: code %d, codes %v", n, code, codes)
		}
	}
	p := newPlayer(t)
	for i, a := range acts {
		p.act(a, want[i])
	}
	checkWorld(t, "a run", w, p.w)
	p.has("a run", nil, []impl.Change{put(0, 1, row(1, 1))}, nil)
}
