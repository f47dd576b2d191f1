package tests

import (
	"fmt"
	"testing"

	"loop.example/g00332/impl"
)

func checkEval(t *testing.T, name string, e impl.Expr, r impl.Row, want impl.Value, wantCode int) {
	t.Helper()
	if got, code := impl.EvalExpr(e, r); got != want || code != wantCode {
		t.Errorf("EvalExpr of %s by %v: %v, code %d, want %v, code %d", name, r, got, code, want, wantCode)
	}
}

func evalRow() impl.Row { return impl.Row{Id: 7, N: number(3)} }

func TestValuesOfTexts(t *testing.T) {
	for text, want := range map[string]impl.Value{
		"null": none, "5": number(5), "-5": number(-5), "0": number(0), "''": word(""), "'ab'": word("ab"),
		"id": number(7), "n": number(3), "name": none,
		"id + n * 2": number(13), "(id + n) * 2": number(20), "id - n - 1": number(3), "id - (n - 1)": number(5), "id / n": number(2), "-id / n": number(-2), "id / -n": number(-2), "-(id / n)": number(-2), "7 / 2 - -7 / 2": number(6),
		"id * n / 2 * 2": number(20), "id = 7": number(1), "id = 8": number(0), "id < 8": number(1), "id < 7": number(0), "id = n + 4": number(1),
		"(id = 7) = 1": number(1), "(id < n) = 0": number(1), "not id = 7": number(0), "not id = 8": number(1), "not not 5": number(1), "not 0": number(1), "not 5": number(0), "not -5": number(0), "not null": none,
		"- n": number(-3), "- -5": number(5), "-0": number(0), "- null": none, "-(-1000000000)": number(1000000000), "-(1000000000)": number(-1000000000),
		"name is null": number(1), "id is null": number(0), "n is null": number(0), "null is null": number(1), "'' is null": number(0), "'a' is null": number(0), "0 is null": number(0), "name + 1 is null": number(1), "(not null) is null": number(1), "(n is null) is null": number(0),
		"name = 'a'": none, "name < 'a'": none, "'a' = name": none, "name = name": none, "'a' < 'b'": number(1), "'a' = 'a'": number(1), "'b' < 'a'": number(0),
		"name + 1": none, "1 / name": none, "name / 0": none, "null * null": none,
		"null and 0": number(0), "0 and null": number(0), "null and 1": none, "1 and null": none, "null or 2": number(1), "2 or null": number(1), "null or 0": none, "0 or null": none, "2 and 3": number(1), "0 or 0": number(0), "0 or -1": number(1),
		"1000000000 - 1": number(999999999), "-1000000000 + 1": number(-999999999), "1 - 1000000000": number(-999999999), "1000000000 - 1000000000": number(0),
		"id = 7 and n = 3 and name is null": number(1), "id = 8 or n = 4 or name is null": number(1), "not (id = 7 and n = 3) or name is null and id < n": number(0),
	} {
		checkEval(t, text, parsed(t, text), evalRow(), want, impl.OK)
	}
}

// TestCodesOfTexts: the left part comes first, with its code; the right one is not asked where the left one knows.
func TestCodesOfTexts(t *testing.T) {
	const zero, kind, over = "(1 / 0)", "('a' + 1)", "(1000000000 + 1)"
	codes := map[string]int{zero: impl.ErrZero, kind: impl.ErrType, over: impl.ErrOver, "(- ('a'))": impl.ErrType, "(not 'a')": impl.ErrType, "('a' = 1)": impl.ErrType, "(1 < 'a')": impl.ErrType, "('a' and 1)": impl.ErrType, "(null or 'a')": impl.ErrType,
		"(n / (id - 7))": impl.ErrZero, "(1000000000 * n)": impl.ErrOver, "(-1000000000 - 1)": impl.ErrOver, "('a' + null)": impl.ErrType, "(null / 'a')": impl.ErrType, "(0 / 0)": impl.ErrZero}
	row := evalRow()
	for left, code := range codes {
		checkEval(t, left, parsed(t, left), row, none, code)
		for _, ahead := range []string{"not ", "- "} {
			checkEval(t, ahead+left, parsed(t, ahead+left), row, none, code)
		}
		checkEval(t, left+" is null", parsed(t, left+" is null"), row, none, code)
		for _, op := range binaryOps() {
			for right := range codes {
				text := left + " " + signOf(op) + " " + right
				checkEval(t, text, parsed(t, text), row, none, code)
			}
			for _, v := range []string{"0", "1", "null", "'a'"} {
				text := left + " " + signOf(op) + " " + v
				checkEval(t, text, parsed(t, text), row, none, code)
				// The right part's code comes ahead of that of the joining, unless the left part knows better.
				text = v + " " + signOf(op) + " " + left
				switch {
				case op == impl.ExAnd && v == "0":
					checkEval(t, text, parsed(t, text), row, number(0), impl.OK)
				case op == impl.ExOr && v == "1":
					checkEval(t, text, parsed(t, text), row, number(1), impl.OK)
				default:
					checkEval(t, text, parsed(t, text), row, none, code)
				}
			}
		}
	}
}

func TestWhateverIsToTheRight(t *testing.T) {
	rights := []string{"0", "1", "-1", "null", "'a'", "id", "n", "name", "(1 / 0)", "('a' + 1)", "(1000000000 * 2)", "(not 'a')", "('a' = 1)", "(1 and 1 / 0)"}
	for _, right := range rights {
		for text, want := range map[string]int{"0 and " + right: 0, "5 or " + right: 1, "-5 or " + right: 1, "id or " + right: 1, "id = 8 and " + right: 0, "not id and " + right: 0, "id - 7 and " + right: 0, "1 or " + right + " and " + right: 1,
			"0 and " + right + " and " + right: 0, "n or " + right + " or " + right: 1, "1000000000 or " + right: 1} {
			checkEval(t, text, parsed(t, text), evalRow(), number(want), impl.OK)
		}
	}
	for text, c := range map[string]struct {
		v    impl.Value
		code int
	}{
		"1 and 1 / 0": {none, impl.ErrZero}, "0 or 1 / 0": {none, impl.ErrZero}, "null and 1 / 0": {none, impl.ErrZero}, "null or 1 / 0": {none, impl.ErrZero},
		"'a' and 0": {none, impl.ErrType}, "'a' or 1": {none, impl.ErrType}, "'a' and 1 / 0": {none, impl.ErrZero}, "'a' or 1 / 0": {none, impl.ErrZero}, "1 and 'a'": {none, impl.ErrType}, "0 or 'a'": {none, impl.ErrType}, "null and 'a'": {none, impl.ErrType}, "null or 'a'": {none, impl.ErrType},
		"1 / 0 and 0": {none, impl.ErrZero}, "1 / 0 or 1": {none, impl.ErrZero}, "0 and 1 / 0 or 1 / 0": {none, impl.ErrZero}, "0 and 1 / 0 or 5": {number(1), impl.OK}, "(1 or 1 / 0) and 0": {number(0), impl.OK}, "0 * (1 / 0)": {none, impl.ErrZero},
		"not (0 and 1 / 0)": {number(1), impl.OK}, "(0 and 'a') + (1 or 'a')": {number(1), impl.OK}, "null and 0 and 1 / 0": {number(0), impl.OK}, "null or 1 or 1 / 0": {number(1), impl.OK},
	} {
		checkEval(t, text, parsed(t, text), evalRow(), c.v, c.code)
	}
}

// TestOpsOfOneValue: each of them at numbers, words and nothing.
func TestOpsOfOneValue(t *testing.T) {
	for _, v := range someValues() {
		for _, op := range unaryOps() {
			want, code := plainUnary(op, v)
			checkEval(t, fmt.Sprintf("op %d of %v", op, v), unaryExpr(op, valueExpr(v)), impl.Row{}, want, code)
		}
	}
	for _, c := range []struct {
		op      int
		v, want impl.Value
		code    int
	}{
		{impl.ExNot, none, none, 0}, {impl.ExNot, number(0), number(1), 0}, {impl.ExNot, number(1), number(0), 0}, {impl.ExNot, number(-1), number(0), 0}, {impl.ExNot, number(impl.MaxNumber), number(0), 0}, {impl.ExNot, word(""), none, impl.ErrType}, {impl.ExNot, word("a"), none, impl.ErrType},
		{impl.ExIsNull, none, number(1), 0}, {impl.ExIsNull, number(0), number(0), 0}, {impl.ExIsNull, number(5), number(0), 0}, {impl.ExIsNull, word(""), number(0), 0}, {impl.ExIsNull, word("a"), number(0), 0},
		{impl.ExNeg, none, none, 0}, {impl.ExNeg, number(0), number(0), 0}, {impl.ExNeg, number(5), number(-5), 0}, {impl.ExNeg, number(-5), number(5), 0}, {impl.ExNeg, number(impl.MaxNumber), number(-impl.MaxNumber), 0}, {impl.ExNeg, number(-impl.MaxNumber), number(impl.MaxNumber), 0}, {impl.ExNeg, word(""), none, impl.ErrType}, {impl.ExNeg, word("a"), none, impl.ErrType},
	} {
		checkEval(t, fmt.Sprintf("op %d of %v", c.op, c.v), unaryExpr(c.op, valueExpr(c.v)), impl.Row{}, c.want, c.code)
	}
}

// TestOpsOfTwoParts: what an expression joins is what BinaryValue joins, unless the left part knows better.
func TestOpsOfTwoParts(t *testing.T) {
	for _, op := range binaryOps() {
		for _, a := range someValues() {
			for _, b := range someValues() {
				want, code := plainBinary(op, a, b)
				if op == impl.ExAnd && a == number(0) {
					want, code = number(0), impl.OK
				}
				if op == impl.ExOr && a.Kind == impl.VaInt && a.N != 0 {
					want, code = number(1), impl.OK
				}
				checkEval(t, fmt.Sprintf("op %d of %v and %v", op, a, b), binaryExpr(op, valueExpr(a), valueExpr(b)), impl.Row{}, want, code)
			}
		}
	}
}

func TestColumnsOfRows(t *testing.T) {
	for _, r := range rightRows() {
		checkEval(t, "id", columnExpr(0), r, number(r.Id), impl.OK)
		checkEval(t, "n", columnExpr(1), r, r.N, impl.OK)
		checkEval(t, "name", columnExpr(2), r, r.Name, impl.OK)
		checkEval(t, "5", valueExpr(number(5)), r, number(5), impl.OK)
	}
}

// TestRowsThatNoExpressionTakes: also where no column is asked for, and where the left part would know.
func TestRowsThatNoExpressionTakes(t *testing.T) {
	for _, r := range wrongRows() {
		for _, text := range []string{"5", "id", "n", "name", "0 and n", "1 / 0", "'a' + 1"} {
			checkEval(t, text, parsed(t, text), r, none, impl.ErrBad)
		}
		checkEval(t, "no nodes", impl.Expr{}, r, none, impl.ErrBad)
	}
}

// TestRunsOfValues: whatever an expression is, by rows of all kinds, held against the plain rules.
func TestRunsOfValues(t *testing.T) {
	t.Parallel()
	x := dice(41)
	codes, kinds := map[int]int{}, map[int]int{}
	rows := rightRows()
	for range 60000 {
		e, r := x.expr(1+x.below(impl.MaxNodes), 1+x.below(impl.MaxDepth)), rows[x.below(len(rows))]
		want, wantCode := plainEval(e, len(e.Nodes)-1, r)
		got, code := impl.EvalExpr(e, r)
		if got != want || code != wantCode {
			t.Fatalf("%s by %v: %v, code %d, want %v, code %d", plainText(e), r, got, code, want, wantCode)
		}
		codes[code]++
		if code == impl.OK {
			kinds[got.Kind]++
		}
		if !impl.ValueOK(got) {
			t.Fatalf("%s by %v: %v is not right", plainText(e), r, got)
		}
	}
	for _, code := range []int{impl.OK, impl.ErrType, impl.ErrZero, impl.ErrOver} {
		if codes[code] < 500 {
			t.Errorf("code %d came %d times", code, codes[code])
		}
	}
	for kind := range 3 {
		if kinds[kind] < 500 {
			t.Errorf("kind %d came %d times", kind, kinds[kind])
		}
	}
}
