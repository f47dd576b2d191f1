package tests

import (
	"fmt"
	"slices"
	"testing"

	"loop.example/g00332/impl"
)

// restartAnswers are those of all calls of chapter 9 that take an engine.
func restartAnswers(e impl.Engine, q asked) []engineAnswer {
	keep := []int{q.tx, 0, 1}
	checked, code := impl.TakeCheck(e)
	list := []engineAnswer{{name: "TakeCheck", engine: checked, code: code}}
	crashed, code := impl.CrashEngine(e, keep)
	list = append(list, engineAnswer{name: "CrashEngine", engine: crashed, code: code})
	armed, code := impl.ArmEngine(e, keep)
	list = append(list, engineAnswer{name: "ArmEngine", engine: armed, code: code})
	up, code := impl.RestartEngine(e)
	list = append(list, engineAnswer{name: "RestartEngine", engine: up, code: code})
	rows, code := impl.TableRows(e, q.table)
	list = append(list, engineAnswer{name: "TableRows", rows: rows, code: code})
	n, code := impl.UndoNeeds(e)
	return append(list, engineAnswer{name: "UndoNeeds", n: n, code: code})
}

func logArguments() map[string][]impl.LogRecord {
	open, _ := manyOpen()
	return map[string][]impl.LogRecord{"none": nil, "one": {begin(1, 1, 1)}, "some log": someLog(), "an engine's log": engineLog(), "a full log": fullLog(),
		"60 are open": open, "a mixed log": mixedLog(), "not of its place": fullLog()[1:], "of nothing": make([]impl.LogRecord, 3),
		"too many": make([]impl.LogRecord, 61), "too long": make([]impl.LogRecord, impl.MaxList+1)}
}

func TestAnalysisStandsApart(t *testing.T) {
	for name, log := range logArguments() {
		checkApart(t, "AnalyzeLog, pages, "+name, log, begin(9, 9, 9), impl.Dirty{No: 99}, func(log []impl.LogRecord) ([]impl.Dirty, int) {
			pages, _, code := impl.AnalyzeLog(log)
			return pages, code
		})
		checkApart(t, "AnalyzeLog, transactions, "+name, log, begin(9, 9, 9), impl.Tx{Id: 99}, func(log []impl.LogRecord) ([]impl.Tx, int) {
			_, txs, code := impl.AnalyzeLog(log)
			return txs, code
		})
	}
}

// TestWhatIsKeptStandsApart: the numbers that are handed in are not changed, and not kept.
func TestWhatIsKeptStandsApart(t *testing.T) {
	for name, call := range map[string]func(e impl.Engine, keep []int) (impl.Engine, int){"CrashEngine": impl.CrashEngine, "ArmEngine": impl.ArmEngine} {
		for _, n := range []int{0, 1, 3, 500, 501, impl.MaxList, impl.MaxList + 1} {
			whole := slices.Repeat([]int{5}, n+16)
			before := slices.Clone(whole)
			got, code := call(story(t).e, whole[:n])
			if !slices.Equal(whole, before) {
				t.Fatalf("%s of %d writes into its argument, or behind it", name, n)
			}
			told := tellEngine(got)
			spoil(whole, 77)
			if tellEngine(got) != told {
				t.Fatalf("%s of %d answers memory of its argument", name, n)
			}
			copy(whole, before)
			spoilEngine(got)
			if !slices.Equal(whole, before) {
				t.Fatalf("%s of %d: writing into the answer changes the argument", name, n)
			}
			again, code2 := call(story(t).e, slices.Clip(whole[:n]))
			if tellEngine(again) != told || code != code2 {
				t.Fatalf("%s of %d tells another answer of an alike argument", name, n)
			}
		}
	}
}

// restartCalls are calls of the functions of chapter 9 that engineCalls do not have.
func restartCalls() []call {
	var list []call
	for name, log := range logArguments() {
		list = append(list, call{"AnalyzeLog of " + name, func() string {
			pages, txs, code := impl.AnalyzeLog(log)
			return fmt.Sprint(pages, txs, code)
		}})
	}
	for name, d := range noEngines() {
		list = append(list, call{"RestartEngine, " + name, func() string { e, code := impl.RestartEngine(downWith(d)); return fmt.Sprint(tellEngine(e), code) }})
	}
	for _, b := range wrongHeaders() {
		d := diskOf(1, mixedLog())
		d.Sectors[0] = b
		list = append(list, call{"RestartEngine, a header", func() string { e, code := impl.RestartEngine(downWith(d)); return fmt.Sprint(tellEngine(e), code) }})
	}
	return list
}
