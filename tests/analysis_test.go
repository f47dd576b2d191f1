package tests

import (
	"fmt"
	"slices"
	"testing"

	"loop.example/g00332/impl"
)

func dirtyOf(list ...[2]int) []impl.Dirty {
	var pages []impl.Dirty
	for _, p := range list {
		pages = append(pages, impl.Dirty{No: p[0], First: p[1]})
	}
	return pages
}

func txsOf(list ...[2]int) []impl.Tx {
	var txs []impl.Tx
	for _, x := range list {
		txs = append(txs, impl.Tx{Id: x[0], Last: x[1]})
	}
	return txs
}

func checkAnalysis(t *testing.T, name string, log []impl.LogRecord, pages []impl.Dirty, txs []impl.Tx) {
	t.Helper()
	gotPages, gotTxs, code := impl.AnalyzeLog(log)
	if code != impl.OK || !slices.Equal(gotPages, pages) || !slices.Equal(gotTxs, txs) {
		t.Errorf("%s: %v, %v, code %d\nwant %v, %v", name, gotPages, gotTxs, code, pages, txs)
	}
}

// changeIn is an update of a slot of a page, or a CLR of it if next is not 0.
func changeIn(no, lsn, tx, prev, next int) impl.LogRecord {
	if next != 0 {
		return at(clr(1, lsn, tx, prev, next, "b"), no, 1)
	}
	return at(update(1, lsn, tx, prev, "b", "a"), no, 1)
}

func TestAnalysisWithoutACheckpoint(t *testing.T) {
	checkAnalysis(t, "no log", nil, nil, nil)
	checkAnalysis(t, "an empty log", []impl.LogRecord{}, nil, nil)
	checkAnalysis(t, "a begin", []impl.LogRecord{begin(1, 1, 60)}, nil, txsOf([2]int{60, 1}))
	log := []impl.LogRecord{begin(1, 1, 9), begin(1, 2, 3), changeIn(7, 3, 9, 1, 0), changeIn(0, 4, 3, 2, 0), changeIn(7, 5, 3, 4, 0),
		begin(1, 6, 1), changeIn(5, 7, 3, 5, 4), commit(1, 8, 9, 3), changeIn(2, 9, 3, 7, 2), end(1, 10, 3, 9), begin(1, 11, 10), commit(1, 12, 1, 6)}
	for n, want := range []struct {
		pages []impl.Dirty
		txs   []impl.Tx
	}{
		0:  {nil, nil},
		1:  {nil, txsOf([2]int{9, 1})},
		2:  {nil, txsOf([2]int{3, 2}, [2]int{9, 1})},
		3:  {dirtyOf([2]int{7, 3}), txsOf([2]int{3, 2}, [2]int{9, 3})},
		4:  {dirtyOf([2]int{0, 4}, [2]int{7, 3}), txsOf([2]int{3, 4}, [2]int{9, 3})},
		5:  {dirtyOf([2]int{0, 4}, [2]int{7, 3}), txsOf([2]int{3, 5}, [2]int{9, 3})},
		6:  {dirtyOf([2]int{0, 4}, [2]int{7, 3}), txsOf([2]int{1, 6}, [2]int{3, 5}, [2]int{9, 3})},
		7:  {dirtyOf([2]int{0, 4}, [2]int{5, 7}, [2]int{7, 3}), txsOf([2]int{1, 6}, [2]int{3, 7}, [2]int{9, 3})},
		8:  {dirtyOf([2]int{0, 4}, [2]int{5, 7}, [2]int{7, 3}), txsOf([2]int{1, 6}, [2]int{3, 7})},
		9:  {dirtyOf([2]int{0, 4}, [2]int{2, 9}, [2]int{5, 7}, [2]int{7, 3}), txsOf([2]int{1, 6}, [2]int{3, 9})},
		10: {dirtyOf([2]int{0, 4}, [2]int{2, 9}, [2]int{5, 7}, [2]int{7, 3}), txsOf([2]int{1, 6})},
		11: {dirtyOf([2]int{0, 4}, [2]int{2, 9}, [2]int{5, 7}, [2]int{7, 3}), txsOf([2]int{1, 6}, [2]int{10, 11})},
		12: {dirtyOf([2]int{0, 4}, [2]int{2, 9}, [2]int{5, 7}, [2]int{7, 3}), txsOf([2]int{10, 11})},
	} {
		checkAnalysis(t, fmt.Sprint(n, " records"), log[:n], want.pages, want.txs)
	}
}

// TestAnalysisFromACheckpoint: what stands ahead of it is told by it alone, be it right or not; what stands behind goes on.
func TestAnalysisFromACheckpoint(t *testing.T) {
	ahead := []impl.LogRecord{begin(1, 1, 2), changeIn(3, 2, 2, 1, 0), begin(1, 3, 7), changeIn(6, 4, 7, 3, 0), begin(1, 5, 8)}
	with := func(after string, behind ...impl.LogRecord) []impl.LogRecord {
		return slices.Concat(ahead, []impl.LogRecord{check(1, 6, after)}, behind)
	}
	told := pairs([2]int{3, 2}, [2]int{6, 4}) + pairs([2]int{2, 2}, [2]int{7, 4})
	pages, txs := dirtyOf([2]int{3, 2}, [2]int{6, 4}), txsOf([2]int{2, 2}, [2]int{7, 4})
	checkAnalysis(t, "it is the last record", with(told), pages, txs)
	checkAnalysis(t, "of nothing", with(pairs()+pairs()), nil, nil)
	checkAnalysis(t, "of pages alone", with(pairs([2]int{0, 5}, [2]int{7, 1})+pairs()), dirtyOf([2]int{0, 5}, [2]int{7, 1}), nil)
	checkAnalysis(t, "of transactions alone", with(pairs()+pairs([2]int{1, 5}, [2]int{60, 1})), nil, txsOf([2]int{1, 5}, [2]int{60, 1}))
	checkAnalysis(t, "a page goes on", with(told, changeIn(3, 7, 2, 2, 0)), pages, txsOf([2]int{2, 7}, [2]int{7, 4}))
	checkAnalysis(t, "a page comes behind", with(told, changeIn(4, 7, 7, 4, 0), changeIn(4, 8, 7, 7, 4)),
		dirtyOf([2]int{3, 2}, [2]int{4, 7}, [2]int{6, 4}), txsOf([2]int{2, 2}, [2]int{7, 8}))
	checkAnalysis(t, "a page that was put out ahead comes again", with(pairs([2]int{6, 4})+pairs([2]int{2, 2}), changeIn(3, 7, 2, 2, 0)),
		dirtyOf([2]int{3, 7}, [2]int{6, 4}), txsOf([2]int{2, 7}))
	checkAnalysis(t, "one ends behind", with(told, end(1, 7, 2, 2)), pages, txsOf([2]int{7, 4}))
	checkAnalysis(t, "one is committed behind", with(told, commit(1, 7, 7, 4)), pages, txsOf([2]int{2, 2}))
	checkAnalysis(t, "all are over behind", with(told, commit(1, 7, 7, 4), end(1, 8, 2, 2)), pages, nil)
	checkAnalysis(t, "one that it does not tell ends behind", with(told, end(1, 7, 8, 5)), pages, txs)
	checkAnalysis(t, "one that it does not tell goes on", with(told, changeIn(3, 7, 8, 5, 0)), pages, append(slices.Clone(txs), impl.Tx{Id: 8, Last: 7}))
	checkAnalysis(t, "one begins behind", with(told, begin(1, 7, 5)), pages, txsOf([2]int{2, 2}, [2]int{5, 7}, [2]int{7, 4}))
	checkAnalysis(t, "one begins again behind its commit", with(told, commit(1, 7, 2, 2), begin(1, 8, 2)), pages, txsOf([2]int{2, 8}, [2]int{7, 4}))
}

// TestTheLastCheckpointCounts: those ahead of it are as if they were not there.
func TestTheLastCheckpointCounts(t *testing.T) {
	first := check(1, 3, pairs([2]int{1, 1}, [2]int{2, 2})+pairs([2]int{5, 1}, [2]int{6, 2}))
	log := []impl.LogRecord{begin(1, 1, 1), changeIn(0, 2, 1, 1, 0), first, changeIn(4, 4, 1, 2, 0),
		check(1, 5, pairs([2]int{4, 4})+pairs([2]int{1, 4})), begin(1, 6, 9), check(1, 7, pairs([2]int{7, 6})+pairs([2]int{30, 3})), changeIn(0, 8, 9, 6, 0)}
	for n, want := range map[int]struct {
		pages []impl.Dirty
		txs   []impl.Tx
	}{
		3: {dirtyOf([2]int{1, 1}, [2]int{2, 2}), txsOf([2]int{5, 1}, [2]int{6, 2})},
		4: {dirtyOf([2]int{1, 1}, [2]int{2, 2}, [2]int{4, 4}), txsOf([2]int{1, 4}, [2]int{5, 1}, [2]int{6, 2})},
		5: {dirtyOf([2]int{4, 4}), txsOf([2]int{1, 4})},
		6: {dirtyOf([2]int{4, 4}), txsOf([2]int{1, 4}, [2]int{9, 6})},
		7: {dirtyOf([2]int{7, 6}), txsOf([2]int{30, 3})},
		8: {dirtyOf([2]int{0, 8}, [2]int{7, 6}), txsOf([2]int{9, 8}, [2]int{30, 3})},
	} {
		checkAnalysis(t, fmt.Sprint(n, " records"), log[:n], want.pages, want.txs)
	}
	checkAnalysis(t, "a checkpoint alone", []impl.LogRecord{check(1, 1, pairs()+pairs())}, nil, nil)
}

// manyOpen is a log of MaxLog begins, each of another transaction.
func manyOpen() ([]impl.LogRecord, []impl.Tx) {
	var log []impl.LogRecord
	var txs []impl.Tx
	for i := range impl.MaxLog {
		log = append(log, begin(1, i+1, impl.MaxTx-i))
		txs = append(txs, impl.Tx{Id: i + 1, Last: impl.MaxTx - i})
	}
	return log, txs
}

// TestAnalysisOfLogsThatNoEngineHas: it asks no more than that the records are right and of their places.
func TestAnalysisOfLogsThatNoEngineHas(t *testing.T) {
	log, txs := manyOpen()
	checkAnalysis(t, "60 are open", log, nil, txs)
	checkAnalysis(t, "epochs fall", []impl.LogRecord{begin(60, 1, 1), commit(1, 2, 1, 1), begin(30, 3, 2)}, nil, txsOf([2]int{2, 3}))
	checkAnalysis(t, "an update without a begin", []impl.LogRecord{begin(1, 1, 1), changeIn(2, 2, 5, 1, 0)}, dirtyOf([2]int{2, 2}), txsOf([2]int{1, 1}, [2]int{5, 2}))
	checkAnalysis(t, "an end without a begin", []impl.LogRecord{begin(1, 1, 1), end(1, 2, 5, 1)}, nil, txsOf([2]int{1, 1}))
	checkAnalysis(t, "an update behind an end", []impl.LogRecord{begin(1, 1, 1), end(1, 2, 1, 1), changeIn(2, 3, 1, 2, 0)}, dirtyOf([2]int{2, 3}), txsOf([2]int{1, 3}))
	checkAnalysis(t, "some log", someLog(), dirtyOf([2]int{3, 2}), nil)
	checkAnalysis(t, "a full log", fullLog(), dirtyOf([2]int{3, 2}), txsOf([2]int{7, 60}))
	checkAnalysis(t, "an engine's log", engineLog(), dirtyOf([2]int{0, 2}), txsOf([2]int{2, 9}, [2]int{4, 11}))
}

func TestAnalysisOfEachPageAndTransaction(t *testing.T) {
	for no := range impl.MaxPages {
		log := []impl.LogRecord{begin(1, 1, 1), changeIn(no, 2, 1, 1, 0), changeIn(no, 3, 1, 2, 2)}
		checkAnalysis(t, fmt.Sprint("page ", no), log, dirtyOf([2]int{no, 2}), txsOf([2]int{1, 3}))
	}
	for tx := 1; tx <= impl.MaxTx; tx++ {
		log := []impl.LogRecord{begin(1, 1, tx), changeIn(0, 2, tx, 1, 0), commit(1, 3, tx, 2)}
		checkAnalysis(t, fmt.Sprint("transaction ", tx), log[:2], dirtyOf([2]int{0, 2}), txsOf([2]int{tx, 2}))
		checkAnalysis(t, fmt.Sprint("transaction ", tx, ", over"), log, dirtyOf([2]int{0, 2}), nil)
	}
}

// TestRunsOfAnalysis: of whatever records a log has.
func TestRunsOfAnalysis(t *testing.T) {
	x := dice(8)
	for run := range 3000 {
		var log []impl.LogRecord
		for range x.below(impl.MaxLog + 1) {
			r := x.logRecord(1+x.below(impl.MaxEpoch), len(log)+1)
			if r.Kind == impl.LoCheck && x.below(4) > 0 {
				r = begin(1, r.Lsn, 1+x.below(4))
			}
			if r.Kind != impl.LoCheck && x.below(2) == 0 {
				r.Tx = 1 + x.below(5)
			}
			log = append(log, r)
		}
		pages, txs := plainAnalysis(log)
		checkAnalysis(t, fmt.Sprint("run ", run), log, pages, txs)
	}
}

func TestAnalyzeLogCodes(t *testing.T) {
	full := fullLog()
	longer := func(n int) []impl.LogRecord {
		return append(slices.Clone(full), make([]impl.LogRecord, n-len(full))...)
	}
	again := append(slices.Clone(full), begin(60, 60, 1))
	for name, x := range map[string]struct {
		log  []impl.LogRecord
		want int
	}{
		"MaxLog":                      {full, impl.OK},
		"MaxLog + 1":                  {longer(61), impl.ErrMany},
		"MaxLog + 1, all right":       {again, impl.ErrMany},
		"MaxLog + 2":                  {longer(62), impl.ErrMany},
		"MaxList":                     {longer(impl.MaxList), impl.ErrMany},
		"MaxList, of nothing":         {make([]impl.LogRecord, impl.MaxList), impl.ErrMany},
		"MaxList + 1":                 {longer(impl.MaxList + 1), impl.ErrLong},
		"MaxList + 1, of nothing":     {make([]impl.LogRecord, impl.MaxList+1), impl.ErrLong},
		"one record of nothing":       {make([]impl.LogRecord, 1), impl.ErrBad},
		"MaxLog, of nothing":          {make([]impl.LogRecord, impl.MaxLog), impl.ErrBad},
		"it begins with the second":   {full[1:], impl.ErrBad},
		"it begins with the last":     {full[59:], impl.ErrBad},
		"one is left out":             {slices.Concat(full[:30], full[31:]), impl.ErrBad},
		"one is there twice":          {slices.Concat(full[:30], full[29:59]), impl.ErrBad},
		"two the other way round":     {[]impl.LogRecord{begin(1, 2, 1), begin(1, 1, 2)}, impl.ErrBad},
		"the first of two is wrong":   {[]impl.LogRecord{{}, begin(1, 2, 2)}, impl.ErrBad},
		"the last of two is wrong":    {[]impl.LogRecord{begin(1, 1, 2), {}}, impl.ErrBad},
		"a place of its own twice":    {[]impl.LogRecord{begin(1, 1, 2), begin(1, 1, 3)}, impl.ErrBad},
		"the last of MaxLog is wrong": {append(slices.Clone(full[:59]), impl.LogRecord{}), impl.ErrBad},
	} {
		pages, txs, code := impl.AnalyzeLog(x.log)
		if code != x.want || code != impl.OK && len(pages)+len(txs) > 0 {
			t.Errorf("%s: %v, %v, code %d, want %d", name, pages, txs, code, x.want)
		}
	}
	for name, r := range wrongRecords() {
		log := []impl.LogRecord{begin(1, 1, 1), begin(1, 2, 2), begin(1, 3, 3), begin(1, 4, 4), begin(1, 5, 5), begin(1, 6, 6), begin(1, 7, 7), begin(1, 8, 8), r}
		if pages, txs, code := impl.AnalyzeLog(log); code != impl.ErrBad || len(pages)+len(txs) > 0 {
			t.Errorf("%s: %v, %v, code %d", name, pages, txs, code)
		}
	}
}
