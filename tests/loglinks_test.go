package tests

import (
	"fmt"
	"math"
	"slices"
	"testing"

	"loop.example/g00332/impl"
)

// wovenLog has records of all kinds; transactions 9, 3 and 60 stand between each other, and 3 goes back twice.
func wovenLog() []impl.LogRecord {
	return []impl.LogRecord{
		begin(1, 1, 9), begin(1, 2, 3), update(1, 3, 3, 2, "", "a"), update(1, 4, 9, 1, "", "b"), check(1, 5, pairs([2]int{3, 3})+pairs([2]int{3, 3}, [2]int{9, 4})),
		update(2, 6, 3, 3, "a", "c"), begin(2, 7, 60), clr(2, 8, 3, 6, 3, "a"), commit(2, 9, 9, 4), update(2, 10, 3, 8, "a", "d"), update(2, 11, 60, 7, "", "e"),
		clr(3, 12, 3, 10, 8, "a"), clr(3, 13, 3, 12, 2, ""), end(3, 14, 3, 13), check(3, 15, pairs()+pairs([2]int{60, 11})), clr(3, 16, 60, 11, 7, ""), end(3, 17, 60, 16),
	}
}

// lastAhead is the transaction's last record ahead of the one at that place of the list, 0 without one.
func lastAhead(log []impl.LogRecord, place int) int {
	for i := place - 1; i >= 0; i-- {
		if log[i].Kind != impl.LoCheck && log[i].Tx == log[place].Tx {
			return log[i].Lsn
		}
	}
	return 0
}

func withRecord(log []impl.LogRecord, r impl.LogRecord) []impl.LogRecord {
	log = slices.Clone(log)
	log[r.Lsn-1] = r
	return log
}

func TestLogsThatAreLinked(t *testing.T) {
	open, _ := manyOpen()
	for name, log := range map[string][]impl.LogRecord{
		"none": nil, "an empty one": {}, "a begin": {begin(1, 1, 1)}, "a checkpoint alone": {check(1, 1, pairs()+pairs())}, "60 checkpoints": slices.Collect(func(yield func(impl.LogRecord) bool) {
			for lsn := 1; lsn <= impl.MaxLog && yield(check(1, lsn, pairs()+pairs())); lsn++ {
			}
		}),
		"some log": someLog(), "a full log": fullLog(), "an engine's log": engineLog(), "a mixed log": mixedLog(), "60 are open": open, "a woven log": wovenLog(),
		"a commit of nothing": {begin(1, 1, 7), commit(1, 2, 7, 1)}, "an end of nothing": {begin(1, 1, 7), end(1, 2, 7, 1)},
		"epochs that fall":   {begin(60, 1, 1), begin(1, 2, 2), commit(30, 3, 1, 1)},
		"numbers that fall":  {begin(1, 1, 60), begin(1, 2, 59), begin(1, 3, 1), commit(1, 4, 60, 1)},
		"more than 10 open":  open[:11],
		"a story's":          story(t).e.Store.Log,
		"a chronicle's":      played(t, chronicle(t)...).Engine.Store.Log,
		"a CLR at its begin": {begin(1, 1, 5), clr(1, 2, 5, 1, 1, "a")},
		"a CLR at a CLR":     {begin(1, 1, 5), clr(1, 2, 5, 1, 1, "a"), clr(1, 3, 5, 2, 2, "a")},
	} {
		checkLogLinks(t, name, log, true)
		for n := range log {
			checkLogLinks(t, fmt.Sprint(name, ", the first ", n), log[:n], true)
		}
	}
}

// TestEachPrevOfALog: of each record just one is right: that of its transaction's last record ahead, be it near or far, be
// others between or not.
func TestEachPrevOfALog(t *testing.T) {
	for name, log := range map[string][]impl.LogRecord{"woven": wovenLog(), "some": someLog(), "an engine's": engineLog(), "mixed": mixedLog(), "full": fullLog()} {
		for i, r := range log {
			for prev := -2; prev <= impl.MaxLog+2; prev++ {
				r.Prev = prev
				other, told := withRecord(log, r), fmt.Sprintf("%s, record %d, Prev %d", name, i+1, prev)
				if impl.RecordOK(r) {
					checkLogLinks(t, told, other, prev == lastAhead(log, i))
				} else {
					linked, code := impl.LogLinks(other)
					checkNotAsked(t, told, linked, code, impl.ErrBad)
				}
			}
		}
	}
}

// TestRecordsWithoutOneAhead: such a one has Prev 0, and that a begin alone can have.
func TestRecordsWithoutOneAhead(t *testing.T) {
	ahead := []impl.LogRecord{begin(1, 1, 1), update(1, 2, 1, 1, "", "a"), check(1, 3, pairs()+pairs())}
	for prev := 1; prev <= 3; prev++ {
		for _, r := range []impl.LogRecord{update(1, 4, 2, prev, "", "a"), clr(1, 4, 2, prev, 1, "a"), commit(1, 4, 2, prev), end(1, 4, 2, prev)} {
			checkLogLinks(t, fmt.Sprintf("kind %d of another one, Prev %d", r.Kind, prev), append(slices.Clone(ahead), r), false)
			r.Tx, r.Next = 1, pick(r.Kind == impl.LoClr, 1, 0)
			checkLogLinks(t, fmt.Sprintf("kind %d, Prev %d", r.Kind, prev), append(slices.Clone(ahead), r), prev == 2)
		}
	}
	checkLogLinks(t, "a begin of another one", append(slices.Clone(ahead), begin(1, 4, 2)), true)
	checkLogLinks(t, "a begin of one that has records", append(slices.Clone(ahead), begin(1, 4, 1)), false)
	checkLogLinks(t, "two begins of one", []impl.LogRecord{begin(1, 1, 1), begin(1, 2, 1)}, false)
	checkLogLinks(t, "a begin of each, one again", []impl.LogRecord{begin(1, 1, 1), begin(1, 2, 2), begin(1, 3, 1)}, false)
}

// TestWhatStandsBehindTheEnd: nothing of a transaction does, of no kind; others go on.
func TestWhatStandsBehindTheEnd(t *testing.T) {
	for _, over := range []impl.LogRecord{commit(1, 4, 1, 3), end(1, 4, 1, 3)} {
		ahead := []impl.LogRecord{begin(1, 1, 1), begin(1, 2, 2), update(1, 3, 1, 1, "", "a"), over}
		checkLogLinks(t, fmt.Sprint("kind ", over.Kind, ", nothing behind"), ahead, true)
		for between := range 3 {
			log := slices.Clone(ahead)
			for range between {
				log = append(log, check(1, len(log)+1, pairs()+pairs()))
			}
			lsn := len(log) + 1
			name := fmt.Sprintf("behind kind %d, %d between, ", over.Kind, between)
			for _, r := range []impl.LogRecord{begin(1, lsn, 1), update(1, lsn, 1, 4, "", "a"), clr(1, lsn, 1, 4, 1, "a"), clr(1, lsn, 1, 4, 4, "a"), commit(1, lsn, 1, 4), end(1, lsn, 1, 4),
				update(1, lsn, 1, 3, "", "a"), commit(1, lsn, 1, 3), end(1, lsn, 1, 1)} {
				checkLogLinks(t, fmt.Sprintf("%skind %d, Prev %d", name, r.Kind, r.Prev), append(slices.Clone(log), r), false)
			}
			for _, r := range []impl.LogRecord{begin(1, lsn, 3), update(1, lsn, 2, 2, "", "a"), clr(1, lsn, 2, 2, 2, "a"), commit(1, lsn, 2, 2), end(1, lsn, 2, 2), check(1, lsn, pairs()+pairs([2]int{1, 4}))} {
				checkLogLinks(t, fmt.Sprintf("%skind %d of another one", name, r.Kind), append(slices.Clone(log), r), true)
			}
		}
	}
}

// TestEachNextOfALog: a CLR leads to a record of its transaction, whichever; not to none, and not to another's, and not to
// a checkpoint. One that comes later, and itself, is not right by chapter 5.
func TestEachNextOfALog(t *testing.T) {
	log := wovenLog()
	for i, r := range log {
		if r.Kind != impl.LoClr {
			continue
		}
		for next := -2; next <= impl.MaxLog+2; next++ {
			r.Next = next
			name := fmt.Sprintf("CLR %d, Next %d", i+1, next)
			linked, code := impl.LogLinks(withRecord(log, r))
			switch {
			case next < 0 || next > i:
				checkNotAsked(t, name, linked, code, impl.ErrBad)
			case next == 0:
				checkLogLinks(t, name, withRecord(log, r), false)
			default:
				checkLogLinks(t, name, withRecord(log, r), log[next-1].Tx == r.Tx)
			}
		}
	}
}

// TestCheckpointsLinkNothing: at each place of a log there may be some, whatever they tell.
func TestCheckpointsLinkNothing(t *testing.T) {
	for at := range 9 {
		for n := range 4 {
			// A log of transaction 1 whose records stand behind the checkpoints as they would without them.
			var log []impl.LogRecord
			prev := 0
			for i := range 9 {
				for range pick(i == at, n, 0) {
					lsn := len(log) + 1
					log = append(log, check(1, lsn, pick(lsn > 1, pairs([2]int{7, lsn - 1})+pairs([2]int{1, 1}, [2]int{44, 1}), pairs()+pairs())))
				}
				lsn := len(log) + 1
				r := []impl.LogRecord{begin(1, lsn, 1), update(1, lsn, 1, prev, "", "a"), clr(1, lsn, 1, prev, prev, "a"), commit(1, lsn, 1, prev)}[pick(i == 0, 0, pick(i == 8, 3, 1+i%2))]
				log, prev = append(log, r), lsn
			}
			checkLogLinks(t, fmt.Sprintf("%d checkpoints at %d", n, at), log, true)
			if n > 0 && at > 0 {
				r := log[at+n]
				r.Prev = at + n
				checkLogLinks(t, fmt.Sprintf("%d checkpoints at %d, one of them is a Prev", n, at), withRecord(log, r), false)
			}
		}
	}
}

// TestEachTransactionOfALog: one record more of each number behind a log, and each record given to each other one.
func TestEachTransactionOfALog(t *testing.T) {
	log := wovenLog()
	lsn := len(log) + 1
	for tx := 1; tx <= impl.MaxTx; tx++ {
		isThere := tx == 3 || tx == 9 || tx == 60
		checkLogLinks(t, fmt.Sprint("a begin of ", tx), append(slices.Clone(log), begin(3, lsn, tx)), !isThere)
		for i, r := range log {
			if r.Kind != impl.LoCheck {
				was := r.Tx
				r.Tx = tx
				checkLogLinks(t, fmt.Sprintf("record %d of %d", i+1, tx), withRecord(log, r), tx == was)
			}
		}
	}
}

// TestLogLinksCodes: too long, too many, not right; then what is not linked, wherever it stands.
func TestLogLinksCodes(t *testing.T) {
	full := fullLog()
	longer := func(n int) []impl.LogRecord {
		return append(slices.Clone(full), make([]impl.LogRecord, n-len(full))...)
	}
	unlinked := []impl.LogRecord{begin(1, 1, 1), begin(1, 2, 1)}
	for name, x := range map[string]struct {
		log  []impl.LogRecord
		want int
	}{
		"MaxLog + 1":                          {longer(61), impl.ErrMany},
		"MaxLog + 1, all right":               {append(slices.Clone(full), begin(60, 60, 1)), impl.ErrMany},
		"MaxLog + 2":                          {longer(62), impl.ErrMany},
		"MaxList":                             {longer(impl.MaxList), impl.ErrMany},
		"MaxList, of nothing":                 {make([]impl.LogRecord, impl.MaxList), impl.ErrMany},
		"MaxList, unlinked":                   {append(slices.Clone(unlinked), longer(impl.MaxList-2)...), impl.ErrMany},
		"MaxList + 1":                         {longer(impl.MaxList + 1), impl.ErrLong},
		"MaxList + 1, of nothing":             {make([]impl.LogRecord, impl.MaxList+1), impl.ErrLong},
		"one of nothing":                      {make([]impl.LogRecord, 1), impl.ErrBad},
		"MaxLog of nothing":                   {make([]impl.LogRecord, impl.MaxLog), impl.ErrBad},
		"it begins with the second":           {full[1:], impl.ErrBad},
		"it begins with the last":             {full[59:], impl.ErrBad},
		"one is left out":                     {slices.Concat(full[:30], full[31:]), impl.ErrBad},
		"one is there twice":                  {slices.Concat(full[:30], full[29:59]), impl.ErrBad},
		"two the other way round":             {[]impl.LogRecord{begin(1, 2, 1), begin(1, 1, 2)}, impl.ErrBad},
		"the last is wrong":                   {append(slices.Clone(full[:59]), impl.LogRecord{}), impl.ErrBad},
		"unlinked, then one that is wrong":    {append(slices.Clone(unlinked), impl.LogRecord{}), impl.ErrBad},
		"unlinked, then one of another place": {append(slices.Clone(unlinked), begin(1, 4, 7)), impl.ErrBad},
		"one that is wrong, then unlinked":    {[]impl.LogRecord{{}, begin(1, 2, 1), begin(1, 3, 1)}, impl.ErrBad},
		"a number beyond MaxTx":               {[]impl.LogRecord{begin(1, 1, impl.MaxTx+1)}, impl.ErrBad},
		"a great number":                      {[]impl.LogRecord{begin(1, 1, math.MaxInt)}, impl.ErrBad},
		"a number below 0":                    {[]impl.LogRecord{begin(1, 1, math.MinInt)}, impl.ErrBad},
		"a great Next":                        {[]impl.LogRecord{begin(1, 1, 1), clr(1, 2, 1, 1, math.MaxInt, "")}, impl.ErrBad},
		"a Next below 0":                      {[]impl.LogRecord{begin(1, 1, 1), clr(1, 2, 1, 1, -1, "")}, impl.ErrBad},
		"a checkpoint with a Tx":              {[]impl.LogRecord{{Epoch: 1, Lsn: 1, Tx: 1, Kind: impl.LoCheck, After: pairs() + pairs()}}, impl.ErrBad},
	} {
		linked, code := impl.LogLinks(x.log)
		checkNotAsked(t, name, linked, code, x.want)
	}
	for name, r := range wrongRecords() {
		log := []impl.LogRecord{begin(1, 1, 1), begin(1, 2, 1), begin(1, 3, 3), begin(1, 4, 4), begin(1, 5, 5), begin(1, 6, 6), begin(1, 7, 7), begin(1, 8, 8), r}
		linked, code := impl.LogLinks(log)
		checkNotAsked(t, name, linked, code, impl.ErrBad)
	}
	checkLogLinks(t, "MaxLog, unlinked at the last", append(slices.Clone(full[:59]), begin(60, 60, 7)), false)
	checkLogLinks(t, "MaxLog, unlinked at the second", withRecord(full, begin(1, 2, 7)), false)
}

// TestRunsOfLogs: of whatever records a log has; most of them are linked, but for one or two.
func TestRunsOfLogs(t *testing.T) {
	x := dice(15)
	met := map[bool]int{}
	for run := range 20000 {
		var log []impl.LogRecord
		last, over := map[int]int{}, map[int]bool{}
		for range x.below(pick(run%3 == 0, impl.MaxLog+1, 12)) {
			r := x.logRecord(1+x.below(impl.MaxEpoch), len(log)+1)
			if tx := 1 + x.below(4); r.Kind != impl.LoCheck && x.below(30) > 0 {
				if over[tx] || last[tx] == 0 {
					tx = pick(last[tx+10] == 0, tx+10, 1+x.below(impl.MaxTx))
				}
				r.Tx, r.Prev = tx, last[tx]
				if r.Next != 0 || r.Kind == impl.LoClr && x.below(20) > 0 {
					r.Next = last[tx]
				}
				if r.Prev == 0 {
					r = begin(r.Epoch, r.Lsn, tx)
				} else if r.Kind == impl.LoBegin {
					r = update(r.Epoch, r.Lsn, tx, r.Prev, "a", "b")
				}
			}
			if r.Kind != impl.LoCheck {
				last[r.Tx], over[r.Tx] = r.Lsn, r.Kind == impl.LoCommit || r.Kind == impl.LoEnd
			}
			log = append(log, r)
		}
		want := plainLogLinks(log)
		checkLogLinks(t, fmt.Sprint("run ", run), log, want)
		met[want]++
	}
	if met[true] < 2000 || met[false] < 2000 {
		t.Errorf("linked and not: %v", met)
	}
}
