package tests

import (
	"fmt"
	"math"
	"slices"
	"strings"
	"testing"

	"loop.example/g00332/impl"
)

// byteArguments are right and wrong bytes for all calls that take some.
func byteArguments() [][]byte {
	list := [][]byte{nil, {0}, {1}, {2}, {3}, {4}, {255}, []byte("123456789"),
		patterned(160), patterned(impl.MaxText), patterned(impl.MaxText + 1),
		make([]byte, impl.MaxText), make([]byte, impl.MaxText+1), slices.Repeat([]byte{1}, impl.MaxList),
		slices.Repeat([]byte{1}, impl.MaxList+1), []byte("\x02\x00\x00\x00"), []byte("\x03ab"), []byte("\x01\x02a"),
		[]byte("\x01\x02\x3b\x9a\xc9\xfb\x03ab\x00"), []byte("\x03ab\x00\x03cd\x00")}
	for _, f := range rightFields() {
		list = append(list, []byte(bytesOfFields(f)))
	}
	return list
}

func fieldArguments() [][]string {
	return append(rightFields(), make([]string, 101), make([]string, impl.MaxList), make([]string, impl.MaxList+1),
		[]string{"a", string(make([]byte, 256)), "b"}, []string{strings.Repeat("a", impl.MaxText+1)})
}

func keyArguments() [][]impl.Value {
	lists := [][]impl.Value{nil, risingValues(), make([]impl.Value, impl.MaxList), make([]impl.Value, impl.MaxList+1)}
	for _, v := range append(risingValues(), badValues()...) {
		lists = append(lists, []impl.Value{v}, []impl.Value{none, v, number(1)})
	}
	return lists
}

func numberArguments() []int {
	list := []int{math.MinInt, math.MinInt + 1, -1 << 32, -256, 256, 1 << 32, math.MaxInt - 1, math.MaxInt}
	for n := -3; n < 25; n++ {
		list = append(list, n)
	}
	return list
}

func textArguments() []string {
	list := []string{"", "a", "_", "0", "a0", "0a", "a b", "Zz_9", "\xff", "\x00", "é", "ok", "Ok", "deadlock", "errors",
		strings.Repeat("a", impl.MaxName), strings.Repeat("a", impl.MaxName+1),
		strings.Repeat("a", impl.MaxText), strings.Repeat("a", impl.MaxText+1)}
	return append(list, wantedWords...)
}

// tellList tells nil and an empty list alike: they are the same value.
func tellList[T any](list []T, code int) string {
	if len(list) == 0 {
		return fmt.Sprintf("nothing %d", code)
	}
	return fmt.Sprintf("%#v %d", list, code)
}

// checkApart: a call writes neither into its argument nor behind the end of it, shares no memory with it,
// and tells the same of the same elements, whatever room stands behind them.
func checkApart[A comparable, R any](t *testing.T, name string, arg []A, otherA A, otherR R, call func([]A) ([]R, int)) {
	t.Helper()
	whole := slices.Concat(arg, slices.Repeat([]A{otherA}, 16))
	before := slices.Clone(whole)
	got, code := call(whole[:len(arg)])
	if !slices.Equal(whole, before) {
		t.Fatalf("%s writes into its argument, or behind it", name)
	}
	told := tellList(got, code)
	for i := range whole {
		whole[i] = otherA
	}
	if tellList(got, code) != told {
		t.Fatalf("%s answers memory of its argument", name)
	}
	copy(whole, before)
	for i := range got[:cap(got)] {
		got[:cap(got)][i] = otherR
	}
	if !slices.Equal(whole, before) {
		t.Fatalf("%s: writing into the answer changes the argument", name)
	}
	for _, alike := range [][]A{whole[:len(arg)], slices.Clip(slices.Clone(arg)), append([]A{}, arg...)} {
		again, code := call(alike)
		if tellList(again, code) != told {
			t.Fatalf("%s tells another answer of an alike argument", name)
		}
	}
}

func TestArgumentsAndAnswersStandApart(t *testing.T) {
	for _, b := range byteArguments() {
		checkApart(t, "Check32", b, 'x', 0, func(b []byte) ([]int, int) { return nil, impl.Check32(b) })
		checkApart(t, "ReadFields", b, 'x', "x", impl.ReadFields)
		checkApart(t, "ReadKey", b, 'x', word("x"), impl.ReadKey)
	}
	for _, list := range fieldArguments() {
		checkApart(t, "FieldsBytes", list, "x", 'x', impl.FieldsBytes)
	}
	for _, list := range keyArguments() {
		checkApart(t, "KeyBytes", list, word("x"), 'x', impl.KeyBytes)
	}
}

type call struct {
	name string
	tell func() string
}

func answers(list ...any) string { return fmt.Sprintf("%#v", list) }

// codeCalls are calls of all functions of chapters 1 and 2.
func codeCalls() []call {
	var list []call
	add := func(name string, tell func() string) { list = append(list, call{name, tell}) }
	for _, n := range numberArguments() {
		add("CodeWord", func() string { return answers(impl.CodeWord(n)) })
	}
	for _, s := range textArguments() {
		add("NameOK", func() string { return answers(impl.NameOK(s)) })
		add("CodeOf", func() string { return answers(impl.CodeOf(s)) })
	}
	for _, b := range byteArguments() {
		add("Check32", func() string { return answers(impl.Check32(b)) })
		add("ReadFields", func() string { return tellList(impl.ReadFields(b)) })
		add("ReadKey", func() string { return tellList(impl.ReadKey(b)) })
	}
	for _, f := range fieldArguments() {
		add("FieldsBytes", func() string { return tellList(impl.FieldsBytes(f)) })
	}
	for _, k := range keyArguments() {
		add("KeyBytes", func() string { return tellList(impl.KeyBytes(k)) })
	}
	for _, v := range append(risingValues(), badValues()...) {
		add("ValueOK", func() string { return answers(impl.ValueOK(v)) })
		add("ValueText", func() string { a, code := impl.ValueText(v); return answers(a, code) })
		add("CompareValues", func() string { a, code := impl.CompareValues(v, number(0)); return answers(a, code) })
	}
	return list
}

func tellOf(t *testing.T, c call) string {
	t.Helper()
	defer func() {
		if r := recover(); r != nil {
			t.Errorf("%s panics: %v", c.name, r)
		}
	}()
	return c.tell()
}

func TestAnswersDoNotHangOnWhatWasCalledAhead(t *testing.T) {
	t.Parallel()
	calls := slices.Concat(codeCalls(), diskCalls(), pageCalls(), logCalls(), poolCalls(), lockCalls(), engineCalls(t), restartCalls(), treeCalls(), exprCalls(), compiledCalls(), sqlCalls(t), execCalls(t), worldCalls(t), auditCalls(t), consoleCalls(t))
	first := make([]string, len(calls))
	for i, c := range calls {
		first[i] = tellOf(t, c)
	}
	for i, c := range slices.Backward(calls) {
		if tellOf(t, c) != first[i] {
			t.Errorf("%s, call %d, tells another answer the other way round", c.name, i)
		}
	}
}
