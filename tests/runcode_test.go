package tests

import (
	"fmt"
	"testing"

	"loop.example/g00332/impl"
)

func checkRun(t *testing.T, name string, list []impl.Ins, r impl.Row, want impl.Value, wantCode int) {
	t.Helper()
	if got, code := impl.RunCode(list, r); got != want || code != wantCode {
		t.Errorf("RunCode of %s by %.80v: %v, code %d, want %v, code %d: %s", name, r, got, code, want, wantCode, tellCode(list))
	}
}

func TestValuesThatCodeTells(t *testing.T) {
	for _, v := range risingValues() {
		checkRun(t, "a value", codeOf(pushIns(v)), impl.Row{}, v, impl.OK)
	}
	for _, r := range rightRows() {
		checkRun(t, "id", codeOf(columnIns(0)), r, number(r.Id), impl.OK)
		checkRun(t, "n", codeOf(columnIns(1)), r, r.N, impl.OK)
		checkRun(t, "name", codeOf(columnIns(2)), r, r.Name, impl.OK)
	}
	for _, v := range someValues() {
		for _, op := range unaryOps() {
			want, code := plainUnary(op, v)
			checkRun(t, fmt.Sprint("op ", op), codeOf(pushIns(v), unaryIns(op)), impl.Row{}, want, code)
		}
	}
}

// TestJoiningsOfCode: without a jump ahead of it an ExAnd and an ExOr are what BinaryValue says, too.
func TestJoiningsOfCode(t *testing.T) {
	for _, op := range binaryOps() {
		for _, a := range someValues() {
			for _, b := range someValues() {
				want, code := plainBinary(op, a, b)
				checkRun(t, fmt.Sprint("op ", op), codeOf(pushIns(a), pushIns(b), binaryIns(op)), impl.Row{}, want, code)
			}
		}
	}
}

// TestJumpsOfCode: with a value of each kind; one that is not taken leaves the value as it is.
func TestJumpsOfCode(t *testing.T) {
	seven, add, isNull := pushIns(number(7)), binaryIns(impl.ExAdd), unaryIns(impl.ExIsNull)
	for _, v := range risingValues() {
		goneOn := number(pick(v == none, 8, 7))
		isNo, isYes := v == number(0), v.Kind == impl.VaInt && v.N != 0
		name := fmt.Sprint("a jump with ", v)
		checkRun(t, name, codeOf(pushIns(v), noIns(2)), impl.Row{}, v, impl.OK)
		checkRun(t, name, codeOf(pushIns(v), yesIns(2)), impl.Row{}, pick(isYes, number(1), v), impl.OK)
		checkRun(t, name, codeOf(pushIns(v), noIns(5), isNull, seven, add), impl.Row{}, pick(isNo, number(0), goneOn), impl.OK)
		checkRun(t, name, codeOf(pushIns(v), yesIns(5), isNull, seven, add), impl.Row{}, pick(isYes, number(1), goneOn), impl.OK)
		// With a value below, which stays.
		checkRun(t, name, codeOf(seven, pushIns(v), noIns(4), isNull, add), impl.Row{}, pick(isNo, number(7), goneOn), impl.OK)
		checkRun(t, name, codeOf(seven, pushIns(v), yesIns(4), isNull, add), impl.Row{}, pick(isYes, number(8), goneOn), impl.OK)
	}
}

// TestJumpsLeadJustThere: a number is made 3 times as great and 3 more, four times, or fewer where a jump leads beyond.
func TestJumpsLeadJustThere(t *testing.T) {
	three, mul, add := pushIns(number(3)), binaryIns(impl.ExMul), binaryIns(impl.ExAdd)
	list := codeOf(columnIns(0), impl.Ins{})
	for range 4 {
		list = append(list, three, mul, three, add)
	}
	fromNought, fromOne := []int{120, 39, 12, 3, 0}, []int{201, 66, 21, 6, 1}
	for skip := range 5 {
		list[1] = noIns(2 + 4*skip)
		checkRun(t, fmt.Sprint("CoNo over ", skip), list, impl.Row{Id: 0}, number(fromNought[skip]), impl.OK)
		checkRun(t, fmt.Sprint("CoNo, not taken, over ", skip), list, impl.Row{Id: 1}, number(fromOne[0]), impl.OK)
		list[1] = yesIns(2 + 4*skip)
		checkRun(t, fmt.Sprint("CoYes over ", skip), list, impl.Row{Id: 1}, number(fromOne[skip]), impl.OK)
		checkRun(t, fmt.Sprint("CoYes, not taken, over ", skip), list, impl.Row{Id: 0}, number(fromNought[0]), impl.OK)
	}
}

// TestCodeThatNoExpressionHas: jumps that cross, into a joining, to other jumps.
func TestCodeThatNoExpressionHas(t *testing.T) {
	id, n, name := columnIns(0), columnIns(1), columnIns(2)
	not, neg, add, sub := unaryIns(impl.ExNot), unaryIns(impl.ExNeg), binaryIns(impl.ExAdd), binaryIns(impl.ExSub)
	row := func(id int, n impl.Value) impl.Row { return impl.Row{Id: id, N: n, Name: word("ab")} }
	for _, c := range []struct {
		list []impl.Ins
		r    impl.Row
		want impl.Value
		code int
	}{
		// A 0 goes to the second jump, which it does not take; another number is turned round first.
		{codeOf(id, noIns(3), not, yesIns(5), neg), row(0, none), number(0), 0},
		{codeOf(id, noIns(3), not, yesIns(5), neg), row(5, none), number(0), 0},
		{codeOf(id, noIns(3), neg, yesIns(5), neg), row(5, none), number(1), 0},
		// Jumps that cross: CoNo over the CoYes and its first ExNot.
		{codeOf(n, noIns(4), yesIns(5), neg, not, neg), row(1, number(0)), number(-1), 0},
		{codeOf(n, noIns(4), yesIns(5), neg, not, neg), row(1, number(9)), number(-1), 0},
		{codeOf(n, noIns(4), yesIns(5), neg, not, neg), row(1, none), none, 0},
		// With two values, over the last joining but one.
		{codeOf(n, id, yesIns(5), n, sub, add), row(4, number(9)), number(10), 0},
		{codeOf(n, id, yesIns(5), n, sub, add), row(0, number(9)), number(0), 0},
		// A fault that is jumped over, and one that is not.
		{codeOf(id, noIns(4), name, add), row(0, none), number(0), 0},
		{codeOf(id, noIns(4), name, add), row(1, none), none, impl.ErrType},
		{codeOf(name, noIns(2), yesIns(3), unaryIns(impl.ExIsNull)), row(1, none), number(0), 0},
		{codeOf(id, yesIns(2), noIns(3), pushIns(number(4)), add), row(9, none), number(5), 0},
		{codeOf(id, yesIns(2), noIns(3), pushIns(number(4)), add), row(0, none), number(4), 0},
	} {
		if !impl.CodeOK(c.list) {
			t.Errorf("not right: %s", tellCode(c.list))
		}
		checkRun(t, "code", c.list, c.r, c.want, c.code)
	}
}

// TestTheFirstCodeIsTold: in the order in which instructions are done.
func TestTheFirstCodeIsTold(t *testing.T) {
	one := pushIns(number(1))
	faults := map[int][]impl.Ins{
		impl.ErrZero: codeOf(one, pushIns(number(0)), binaryIns(impl.ExDiv)),
		impl.ErrType: codeOf(pushIns(word("a")), unaryIns(impl.ExNot)),
		impl.ErrOver: codeOf(pushIns(number(impl.MaxNumber)), one, binaryIns(impl.ExAdd)),
	}
	for first, a := range faults {
		checkRun(t, "a fault", a, impl.Row{}, none, first)
		for second, b := range faults {
			for _, op := range binaryOps() {
				var list []impl.Ins
				list = append(append(append(list, a...), b...), binaryIns(op))
				checkRun(t, fmt.Sprintf("%d ahead of %d", first, second), list, impl.Row{}, none, first)
			}
		}
		for _, op := range unaryOps() {
			checkRun(t, "a fault", append(a[:len(a):len(a)], unaryIns(op)), impl.Row{}, none, first)
		}
		for _, jump := range []int{impl.CoNo, impl.CoYes} {
			checkRun(t, "a fault", append(a[:len(a):len(a)], impl.Ins{Op: jump, N: len(a) + 1}), impl.Row{}, none, first)
		}
	}
}

// TestRowsThatNoCodeTakes: also where no column is asked for, and where a fault would come.
func TestRowsThatNoCodeTakes(t *testing.T) {
	one := pushIns(number(1))
	for _, r := range wrongRows() {
		for _, list := range [][]impl.Ins{codeOf(one), codeOf(columnIns(0)), codeOf(columnIns(1)), codeOf(columnIns(2)), codeOf(one, yesIns(4), columnIns(1), binaryIns(impl.ExOr)),
			codeOf(one, pushIns(number(0)), binaryIns(impl.ExDiv)), codeOf(pushIns(word("a")), unaryIns(impl.ExNeg)), nil, codeOf(one, one)} {
			checkRun(t, "code", list, r, none, impl.ErrBad)
		}
	}
}
