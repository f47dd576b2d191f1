package tests

import (
	"math"
	"testing"

	"loop.example/g00332/impl"
)

func checkBinary(t *testing.T, op int, a, b, want impl.Value, wantCode int) {
	t.Helper()
	if got, code := impl.BinaryValue(op, a, b); got != want || code != wantCode {
		t.Errorf("op %d of %.40v and %.40v: %v, code %d, want %v, code %d", op, a, b, got, code, want, wantCode)
	}
}

// someNumbers are those near the edges of what two of them make.
func someNumbers() []int {
	return []int{-1000000000, -999999999, -500000001, -500000000, -31623, -31622, -8, -7, -3, -2, -1, 0, 1, 2, 3, 7, 8, 31622, 31623, 499999999, 500000000, 500000001, 999999999, 1000000000}
}

func someValues() []impl.Value {
	list := []impl.Value{none}
	for _, n := range someNumbers() {
		list = append(list, number(n))
	}
	return append(list, word(""), word("a"), word("aa"), word("ab"), word("b"), word("zzzzzzzzzz"))
}

// TestEachOpOfEachTwoValues: numbers, words and nothing on either side, held against the plain rules.
func TestEachOpOfEachTwoValues(t *testing.T) {
	codes := map[int]int{}
	for _, op := range binaryOps() {
		for _, a := range someValues() {
			for _, b := range someValues() {
				want, code := plainBinary(op, a, b)
				checkBinary(t, op, a, b, want, code)
				codes[code]++
			}
		}
	}
	for _, code := range []int{impl.OK, impl.ErrType, impl.ErrZero, impl.ErrOver} {
		if codes[code] < 20 {
			t.Errorf("code %d came %d times", code, codes[code])
		}
	}
}

func TestNumbersThatAreReckoned(t *testing.T) {
	const most = impl.MaxNumber
	for _, c := range []struct{ op, a, b, want, code int }{
		{impl.ExAdd, 2, 3, 5, 0}, {impl.ExAdd, -2, -3, -5, 0}, {impl.ExAdd, most, -most, 0, 0}, {impl.ExAdd, most, 0, most, 0}, {impl.ExAdd, most - 1, 1, most, 0},
		{impl.ExAdd, most, 1, 0, impl.ErrOver}, {impl.ExAdd, 1, most, 0, impl.ErrOver}, {impl.ExAdd, most, most, 0, impl.ErrOver}, {impl.ExAdd, 1 - most, -1, -most, 0}, {impl.ExAdd, -most, -1, 0, impl.ErrOver}, {impl.ExAdd, -most, -most, 0, impl.ErrOver},
		{impl.ExSub, 2, 3, -1, 0}, {impl.ExSub, -2, -3, 1, 0}, {impl.ExSub, most, most, 0, 0}, {impl.ExSub, 1 - most, 1, -most, 0}, {impl.ExSub, most - 1, -1, most, 0}, {impl.ExSub, 0, most, -most, 0}, {impl.ExSub, 0, -most, most, 0},
		{impl.ExSub, most, -1, 0, impl.ErrOver}, {impl.ExSub, -most, 1, 0, impl.ErrOver}, {impl.ExSub, -1, most, 0, impl.ErrOver}, {impl.ExSub, 1, -most, 0, impl.ErrOver}, {impl.ExSub, most, -most, 0, impl.ErrOver}, {impl.ExSub, -most, most, 0, impl.ErrOver},
		{impl.ExMul, 2, 3, 6, 0}, {impl.ExMul, -2, 3, -6, 0}, {impl.ExMul, -2, -3, 6, 0}, {impl.ExMul, most, 0, 0, 0}, {impl.ExMul, most, 1, most, 0}, {impl.ExMul, most, -1, -most, 0}, {impl.ExMul, -most, -1, most, 0}, {impl.ExMul, 500000000, 2, most, 0}, {impl.ExMul, 31622, 31622, 999950884, 0},
		{impl.ExMul, 500000001, 2, 0, impl.ErrOver}, {impl.ExMul, 2, -500000001, 0, impl.ErrOver}, {impl.ExMul, 31623, 31623, 0, impl.ErrOver}, {impl.ExMul, most, 2, 0, impl.ErrOver}, {impl.ExMul, most, most, 0, impl.ErrOver}, {impl.ExMul, -most, most, 0, impl.ErrOver}, {impl.ExMul, -most, -most, 0, impl.ErrOver},
		{impl.ExDiv, 7, 2, 3, 0}, {impl.ExDiv, -7, 2, -3, 0}, {impl.ExDiv, 7, -2, -3, 0}, {impl.ExDiv, -7, -2, 3, 0}, {impl.ExDiv, 1, 2, 0, 0}, {impl.ExDiv, -1, 2, 0, 0}, {impl.ExDiv, 1, -2, 0, 0}, {impl.ExDiv, -1, -2, 0, 0}, {impl.ExDiv, 6, 3, 2, 0}, {impl.ExDiv, -6, 3, -2, 0},
		{impl.ExDiv, 0, 5, 0, 0}, {impl.ExDiv, most, -1, -most, 0}, {impl.ExDiv, -most, -1, most, 0}, {impl.ExDiv, most, most, 1, 0}, {impl.ExDiv, -most, most, -1, 0}, {impl.ExDiv, most - 1, most, 0, 0},
		{impl.ExDiv, 1, 0, 0, impl.ErrZero}, {impl.ExDiv, 0, 0, 0, impl.ErrZero}, {impl.ExDiv, -1, 0, 0, impl.ErrZero}, {impl.ExDiv, most, 0, 0, impl.ErrZero},
		{impl.ExEq, 2, 2, 1, 0}, {impl.ExEq, 2, -2, 0, 0}, {impl.ExEq, 2, 3, 0, 0}, {impl.ExEq, 0, 0, 1, 0}, {impl.ExEq, most, most, 1, 0}, {impl.ExEq, -most, most, 0, 0},
		{impl.ExLt, 2, 3, 1, 0}, {impl.ExLt, 2, 2, 0, 0}, {impl.ExLt, 3, 2, 0, 0}, {impl.ExLt, -3, 2, 1, 0}, {impl.ExLt, 2, -3, 0, 0}, {impl.ExLt, -3, -2, 1, 0}, {impl.ExLt, 10, 9, 0, 0}, {impl.ExLt, -most, most, 1, 0},
		{impl.ExAnd, 0, 0, 0, 0}, {impl.ExAnd, 0, 1, 0, 0}, {impl.ExAnd, 1, 0, 0, 0}, {impl.ExAnd, 1, 1, 1, 0}, {impl.ExAnd, 2, 3, 1, 0}, {impl.ExAnd, -1, most, 1, 0}, {impl.ExAnd, 1, -1, 1, 0},
		{impl.ExOr, 0, 0, 0, 0}, {impl.ExOr, 0, 1, 1, 0}, {impl.ExOr, 1, 0, 1, 0}, {impl.ExOr, 1, 1, 1, 0}, {impl.ExOr, 2, 3, 1, 0}, {impl.ExOr, 0, -5, 1, 0}, {impl.ExOr, -most, 0, 1, 0}, {impl.ExOr, 1, -1, 1, 0},
	} {
		want := number(c.want)
		if c.code != impl.OK {
			want = none
		}
		checkBinary(t, c.op, number(c.a), number(c.b), want, c.code)
	}
}

// TestWordsAndNothing: a word is refused ahead of nothing, nothing ahead of different kinds and of a division by 0.
func TestWordsAndNothing(t *testing.T) {
	ab, zero, one := word("ab"), number(0), number(1)
	for _, op := range []int{impl.ExAdd, impl.ExSub, impl.ExMul, impl.ExDiv} {
		for _, v := range []impl.Value{none, zero, one, number(impl.MaxNumber), ab, word("")} {
			checkBinary(t, op, ab, v, none, impl.ErrType)
			checkBinary(t, op, v, ab, none, impl.ErrType)
			checkBinary(t, op, word(""), v, none, impl.ErrType)
		}
		for _, v := range []impl.Value{none, zero, one, number(impl.MaxNumber)} {
			checkBinary(t, op, none, v, none, impl.OK)
			checkBinary(t, op, v, none, none, impl.OK)
		}
	}
	for _, op := range []int{impl.ExEq, impl.ExLt} {
		for _, v := range []impl.Value{none, zero, one, ab, word("")} {
			checkBinary(t, op, none, v, none, impl.OK)
			checkBinary(t, op, v, none, none, impl.OK)
		}
		for _, v := range []impl.Value{zero, one, number(-1)} {
			checkBinary(t, op, v, ab, none, impl.ErrType)
			checkBinary(t, op, ab, v, none, impl.ErrType)
			checkBinary(t, op, word(""), v, none, impl.ErrType)
		}
	}
	for _, c := range []struct {
		a, b     string
		eq, less int
	}{{"", "", 1, 0}, {"", "a", 0, 1}, {"a", "", 0, 0}, {"a", "a", 1, 0}, {"a", "b", 0, 1}, {"b", "a", 0, 0}, {"a", "aa", 0, 1}, {"aa", "a", 0, 0}, {"aa", "b", 0, 1}, {"az", "b", 0, 1}, {"b", "az", 0, 0}} {
		checkBinary(t, impl.ExEq, word(c.a), word(c.b), number(c.eq), impl.OK)
		checkBinary(t, impl.ExLt, word(c.a), word(c.b), number(c.less), impl.OK)
	}
}

// TestWhatKnowsBetter: an and with 0, and an or with another number, are known though the other side is nothing; not
// though it is a word.
func TestWhatKnowsBetter(t *testing.T) {
	zero, one := number(0), number(1)
	for _, v := range []impl.Value{one, number(-1), number(7), number(impl.MaxNumber), number(-impl.MaxNumber)} {
		checkBinary(t, impl.ExAnd, none, v, none, impl.OK)
		checkBinary(t, impl.ExAnd, v, none, none, impl.OK)
		checkBinary(t, impl.ExOr, none, v, one, impl.OK)
		checkBinary(t, impl.ExOr, v, none, one, impl.OK)
		checkBinary(t, impl.ExAnd, v, zero, zero, impl.OK)
		checkBinary(t, impl.ExAnd, zero, v, zero, impl.OK)
		checkBinary(t, impl.ExAnd, v, v, one, impl.OK)
		checkBinary(t, impl.ExOr, v, zero, one, impl.OK)
		checkBinary(t, impl.ExOr, zero, v, one, impl.OK)
		checkBinary(t, impl.ExOr, v, v, one, impl.OK)
	}
	checkBinary(t, impl.ExAnd, none, zero, zero, impl.OK)
	checkBinary(t, impl.ExAnd, zero, none, zero, impl.OK)
	checkBinary(t, impl.ExAnd, none, none, none, impl.OK)
	checkBinary(t, impl.ExOr, none, zero, none, impl.OK)
	checkBinary(t, impl.ExOr, zero, none, none, impl.OK)
	checkBinary(t, impl.ExOr, none, none, none, impl.OK)
	for _, op := range []int{impl.ExAnd, impl.ExOr} {
		for _, v := range []impl.Value{none, zero, one, number(-1), word(""), word("a")} {
			checkBinary(t, op, word("ab"), v, none, impl.ErrType)
			checkBinary(t, op, v, word("ab"), none, impl.ErrType)
			checkBinary(t, op, v, word(""), none, impl.ErrType)
		}
	}
}

// TestFaultsOfTwoValues: what is not right comes ahead of the op, the op ahead of the kinds.
func TestFaultsOfTwoValues(t *testing.T) {
	others := []int{math.MinInt, -6, -1, 0, impl.ExConst, impl.ExColumn, impl.ExNot, impl.ExIsNull, impl.ExNeg, 14, 15, 256 + impl.ExAdd, math.MaxInt}
	for _, op := range others {
		for _, a := range []impl.Value{none, number(0), number(5), word("a")} {
			for _, b := range []impl.Value{none, number(0), number(5), word("a")} {
				checkBinary(t, op, a, b, none, impl.ErrRange)
			}
		}
	}
	for _, op := range append(others, binaryOps()...) {
		for _, bad := range badValues() {
			for _, v := range []impl.Value{none, number(0), number(5), word("a"), bad} {
				checkBinary(t, op, bad, v, none, impl.ErrBad)
				checkBinary(t, op, v, bad, none, impl.ErrBad)
			}
		}
	}
}
