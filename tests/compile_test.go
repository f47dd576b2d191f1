package tests

import (
	"fmt"
	"slices"
	"testing"

	"loop.example/g00332/impl"
)

func checkCompiled(t *testing.T, name string, e impl.Expr, want []impl.Ins) {
	t.Helper()
	got, code := impl.CompileExpr(e)
	if !slices.Equal(got, want) || code != impl.OK {
		t.Errorf("CompileExpr of %s: code %d, %s\nwant %s", name, code, tellCode(got), tellCode(want))
	}
}

func TestCodeOfValuesAndColumns(t *testing.T) {
	for _, v := range risingValues() {
		checkCompiled(t, fmt.Sprint("a value ", v), valueExpr(v), codeOf(impl.Ins{Op: impl.CoPush, V: v}))
	}
	for column := range 3 {
		checkCompiled(t, fmt.Sprint("column ", column), columnExpr(column), codeOf(impl.Ins{Op: impl.CoColumn, N: column}))
	}
}

// TestCodeOfEachOp: the left part's stands first, and an ExAnd and an ExOr have a jump to behind the joining.
func TestCodeOfEachOp(t *testing.T) {
	id, five := columnIns(0), pushIns(number(5))
	for _, op := range unaryOps() {
		checkCompiled(t, fmt.Sprint("op ", op), unaryExpr(op, columnExpr(0)), codeOf(id, impl.Ins{Op: impl.CoUnary, N: op}))
	}
	for _, op := range binaryOps() {
		want := codeOf(id, five, impl.Ins{Op: impl.CoBinary, N: op})
		switch op {
		case impl.ExAnd:
			want = codeOf(id, impl.Ins{Op: impl.CoNo, N: 4}, five, impl.Ins{Op: impl.CoBinary, N: op})
		case impl.ExOr:
			want = codeOf(id, impl.Ins{Op: impl.CoYes, N: 4}, five, impl.Ins{Op: impl.CoBinary, N: op})
		}
		checkCompiled(t, fmt.Sprint("op ", op), binaryExpr(op, columnExpr(0), valueExpr(number(5))), want)
	}
}

func TestCodeOfTexts(t *testing.T) {
	id, n, name := columnIns(0), columnIns(1), columnIns(2)
	and, or, not := binaryIns(impl.ExAnd), binaryIns(impl.ExOr), unaryIns(impl.ExNot)
	one := pushIns(number(1))
	for text, want := range map[string][]impl.Ins{
		"- n":                         codeOf(n, unaryIns(impl.ExNeg)),
		"-1":                          codeOf(pushIns(number(-1))),
		"n - 1 - id":                  codeOf(n, one, binaryIns(impl.ExSub), id, binaryIns(impl.ExSub)),
		"n - (1 - id)":                codeOf(n, one, id, binaryIns(impl.ExSub), binaryIns(impl.ExSub)),
		"id and n and name":           codeOf(id, noIns(4), n, and, noIns(7), name, and),
		"id and (n and name)":         codeOf(id, noIns(7), n, noIns(6), name, and, and),
		"id or n or name":             codeOf(id, yesIns(4), n, or, yesIns(7), name, or),
		"id or (n or name)":           codeOf(id, yesIns(7), n, yesIns(6), name, or, or),
		"id and n or name":            codeOf(id, noIns(4), n, and, yesIns(7), name, or),
		"id or n and name":            codeOf(id, yesIns(7), n, noIns(6), name, and, or),
		"(id or n) and name":          codeOf(id, yesIns(4), n, or, noIns(7), name, and),
		"id and (n or name)":          codeOf(id, noIns(7), n, yesIns(6), name, or, and),
		"not (id and n)":              codeOf(id, noIns(4), n, and, not),
		"not id and not n":            codeOf(id, not, noIns(6), n, not, and),
		"1 + (id or n) * 1":           codeOf(one, id, yesIns(5), n, or, one, binaryIns(impl.ExMul), binaryIns(impl.ExAdd)),
		"(id and n) = (n or id)":      codeOf(id, noIns(4), n, and, n, yesIns(8), id, or, binaryIns(impl.ExEq)),
		"id and n or n and id":        codeOf(id, noIns(4), n, and, yesIns(10), n, noIns(9), id, and, or),
		"(id or n) and (n or id)":     codeOf(id, yesIns(4), n, or, noIns(10), n, yesIns(9), id, or, and),
		"(id and n) is null and name": codeOf(id, noIns(4), n, and, unaryIns(impl.ExIsNull), noIns(8), name, and),
		"id and (n + 1 < name)":       codeOf(id, noIns(8), n, one, binaryIns(impl.ExAdd), name, binaryIns(impl.ExLt), and),
	} {
		checkCompiled(t, text, parsed(t, text), want)
	}
}

// TestCodeOfTheGreatest: of MaxNodes nodes, and MaxDepth deep, to the left and to the right.
func TestCodeOfTheGreatest(t *testing.T) {
	for _, op := range binaryOps() {
		jumps := pick(op >= impl.ExAnd, 1, 0)
		toRight := columnExpr(1)
		for range impl.MaxDepth - 1 {
			toRight = binaryExpr(op, valueExpr(number(5)), toRight)
		}
		for _, c := range []struct {
			name        string
			e           impl.Expr
			size, depth int
		}{
			{"MaxNodes nodes", unaryExpr(impl.ExNot, bushy(op, 20)), 40 + 19*jumps, 6},
			{"deep to the left", chain(op, impl.MaxDepth), 23 + 11*jumps, 2},
			{"deep to the right", toRight, 23 + 11*jumps, 12},
		} {
			name := fmt.Sprintf("%s, op %d", c.name, op)
			if !impl.ExprOK(c.e) {
				t.Fatalf("%s: not right", name)
			}
			want := plainCodeOf(c.e)
			checkCompiled(t, name, c.e, want)
			if depth, code := impl.CodeDepth(want); len(want) != c.size || depth != c.depth || code != impl.OK || !impl.CodeOK(want) {
				t.Errorf("%s: %d instructions, depth %d, code %d", name, len(want), depth, code)
			}
			for _, r := range rightRows() {
				checkMeans(t, name, c.e, r)
			}
		}
	}
}

func TestExpressionsThatHaveNoCode(t *testing.T) {
	for name, e := range wrongExprs() {
		if got, code := impl.CompileExpr(e); len(got) != 0 || code != impl.ErrBad {
			t.Errorf("%s: code %d, %s", name, code, tellCode(got))
		}
	}
}

// checkMeans: the code of a right expression is right, and tells what the expression means.
func checkMeans(t *testing.T, name string, e impl.Expr, r impl.Row) (impl.Value, int) {
	t.Helper()
	list, code := impl.CompileExpr(e)
	if code != impl.OK || !impl.CodeOK(list) {
		t.Fatalf("%s: code %d, right is %v: %s", name, code, impl.CodeOK(list), tellCode(list))
	}
	want, wantCode := impl.EvalExpr(e, r)
	got, code := impl.RunCode(list, r)
	if got != want || code != wantCode {
		t.Fatalf("%s by %v: its code tells %v, code %d, it means %v, code %d%s", name, r, got, code, want, wantCode, tellCode(list))
	}
	return got, code
}

func TestCodeTellsWhatExpressionsMean(t *testing.T) {
	for name, e := range rightExprs() {
		for _, r := range rightRows() {
			checkMeans(t, name, e, r)
		}
	}
	for _, op := range binaryOps() {
		for _, a := range someValues() {
			for _, b := range someValues() {
				e := binaryExpr(op, valueExpr(a), valueExpr(b))
				got, code := checkMeans(t, plainText(e), e, impl.Row{})
				if want, wantCode := plainEval(e, 2, impl.Row{}); got != want || code != wantCode {
					t.Errorf("%s: %v, code %d, want %v, code %d", plainText(e), got, code, want, wantCode)
				}
			}
		}
	}
	for _, op := range unaryOps() {
		for _, v := range someValues() {
			e := unaryExpr(op, valueExpr(v))
			got, code := checkMeans(t, plainText(e), e, impl.Row{})
			if want, wantCode := plainUnary(op, v); got != want || code != wantCode {
				t.Errorf("%s: %v, code %d, want %v, code %d", plainText(e), got, code, want, wantCode)
			}
		}
	}
}

// TestValuesOfCodeOfTexts: written out, so that they do not hang on what EvalExpr says.
func TestValuesOfCodeOfTexts(t *testing.T) {
	for text, c := range map[string]struct {
		v    impl.Value
		code int
	}{
		"id": {number(7), 0}, "n": {number(3), 0}, "name": {none, 0}, "'ab'": {word("ab"), 0}, "null": {none, 0}, "id - n - 1": {number(3), 0}, "id - (n - 1)": {number(5), 0}, "id / n": {number(2), 0}, "-n": {number(-3), 0}, "not n": {number(0), 0}, "name is null": {number(1), 0}, "n < id": {number(1), 0}, "id < n": {number(0), 0}, "n = 3": {number(1), 0},
		"0 and 1 / 0": {number(0), 0}, "5 or 1 / 0": {number(1), 0}, "-5 or 'a'": {number(1), 0}, "1 and 1 / 0": {none, impl.ErrZero}, "0 or 1 / 0": {none, impl.ErrZero}, "null and 1 / 0": {none, impl.ErrZero}, "'a' and 1 / 0": {none, impl.ErrZero}, "'a' and 0": {none, impl.ErrType}, "'a' or 1": {none, impl.ErrType},
		"2 and 3": {number(1), 0}, "0 or 3": {number(1), 0}, "0 or 0": {number(0), 0}, "3 and 0": {number(0), 0}, "null and 0": {number(0), 0}, "null and 1": {none, 0}, "null or 1": {number(1), 0}, "null or 0": {none, 0}, "name and n": {none, 0}, "name or n": {number(1), 0},
		"1 / 0 and 'a' + 1": {none, impl.ErrZero}, "('a' + 1) + 1 / 0": {none, impl.ErrType}, "1000000000 + n": {none, impl.ErrOver}, "0 and n or 5": {number(1), 0}, "(1 or n) and 0": {number(0), 0}, "0 and n + 1 / 0 or 1 / 0": {none, impl.ErrZero}, "(0 and 'a') + (5 or 'a')": {number(1), 0}, "(5 or n) + 4": {number(5), 0}, "not (0 and 1 / 0)": {number(1), 0}, "1 or 1 / 0 and 1 / 0": {number(1), 0}, "0 and 1 / 0 and 1 / 0": {number(0), 0},
	} {
		if got, code := checkMeans(t, text, parsed(t, text), evalRow()); got != c.v || code != c.code {
			t.Errorf("%s: %v, code %d, want %v, code %d", text, got, code, c.v, c.code)
		}
	}
}

// TestRunsOfCompiledExpressions: whatever an expression is, by rows of all kinds, held against the plain rules.
func TestRunsOfCompiledExpressions(t *testing.T) {
	t.Parallel()
	x := dice(51)
	codes, kinds := map[int]int{}, map[int]int{}
	rows := rightRows()
	for range 40000 {
		e, r := x.expr(1+x.below(impl.MaxNodes), 1+x.below(impl.MaxDepth)), rows[x.below(len(rows))]
		list, code := impl.CompileExpr(e)
		if want := plainCodeOf(e); !slices.Equal(list, want) || code != impl.OK {
			t.Fatalf("%s: code %d, %s\nwant %s", plainText(e), code, tellCode(list), tellCode(want))
		}
		if depth, code := impl.CodeDepth(list); depth != plainCodeDepth(list) || code != impl.OK {
			t.Fatalf("%s: depth %d, code %d, want %d", plainText(e), depth, code, plainCodeDepth(list))
		}
		got, code := checkMeans(t, plainText(e), e, r)
		if want, wantCode := plainEval(e, len(e.Nodes)-1, r); got != want || code != wantCode {
			t.Fatalf("%s by %v: %v, code %d, want %v, code %d", plainText(e), r, got, code, want, wantCode)
		}
		codes[code]++
		if code == impl.OK {
			kinds[got.Kind]++
		}
	}
	for _, code := range []int{impl.OK, impl.ErrType, impl.ErrZero, impl.ErrOver} {
		if codes[code] < 300 {
			t.Errorf("code %d came %d times", code, codes[code])
		}
	}
	for kind := range 3 {
		if kinds[kind] < 300 {
			t.Errorf("kind %d came %d times", kind, kinds[kind])
		}
	}
}

// TestRunsOfExpressionsNearRightOnes: there is code of the right ones alone.
func TestRunsOfExpressionsNearRightOnes(t *testing.T) {
	t.Parallel()
	x := dice(53)
	wrongs := 0
	for range 20000 {
		e := x.editedExpr(x.expr(1+x.below(42), 1+x.below(13)))
		list, code := impl.CompileExpr(e)
		if plainExprOK(e) {
			if !slices.Equal(list, plainCodeOf(e)) || code != impl.OK {
				t.Fatalf("code %d, %s: %s", code, tellCode(list), tellExpr(e))
			}
			continue
		}
		wrongs++
		if len(list) != 0 || code != impl.ErrBad {
			t.Fatalf("code %d, %s: %s", code, tellCode(list), tellExpr(e))
		}
	}
	if wrongs < 5000 {
		t.Errorf("%d are not right", wrongs)
	}
}
