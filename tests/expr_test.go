package tests

import (
	"fmt"
	"slices"
	"strings"
	"testing"

	"loop.example/g00332/impl"
)

// parsed is the expression of a text that must have one.
func parsed(t *testing.T, text string) impl.Expr {
	t.Helper()
	e, code := impl.ParseExpr(text)
	if code != impl.OK {
		t.Fatalf("ParseExpr of %.300q: code %d", text, code)
	}
	return e
}

// checkParsed: a text has just these nodes, their text is as it must be, and it is read back to the same nodes.
func checkParsed(t *testing.T, text string, want impl.Expr) {
	t.Helper()
	got, code := impl.ParseExpr(text)
	if !sameExpr(got, want) || code != impl.OK {
		t.Fatalf("ParseExpr of %.300q: %s\ncode %d, want %s", text, tellExpr(got), code, tellExpr(want))
	}
	if !impl.ExprOK(got) {
		t.Errorf("%.300q: not right", text)
	}
	told, code := impl.ExprText(got)
	if told != plainText(want) || code != impl.OK {
		t.Fatalf("ExprText of %.300q: %q, code %d, want %q", text, told, code, plainText(want))
	}
	if back, code := impl.ParseExpr(told); !sameExpr(back, want) || code != impl.OK {
		t.Errorf("%.300q is not read back from %q: code %d", text, told, code)
	}
}

// checkBound: a text is read as another one that has all its brackets.
func checkBound(t *testing.T, text, whole string) {
	t.Helper()
	e, code := impl.ParseExpr(text)
	told, textCode := impl.ExprText(e)
	if told != whole || code != impl.OK || textCode != impl.OK {
		t.Errorf("%q is read as %q, codes %d, %d, want %q", text, told, code, textCode, whole)
		return
	}
	if back, code := impl.ParseExpr(told); !sameExpr(back, e) || code != impl.OK {
		t.Errorf("%q is not read back from %q: code %d", text, told, code)
	}
}

func checkNoExpr(t *testing.T, text string, want int) {
	t.Helper()
	e, code := impl.ParseExpr(text)
	if len(e.Nodes) != 0 || code != want {
		t.Errorf("ParseExpr of %.300q (%d bytes): %s\ncode %d, want %d", text, len(text), tellExpr(e), code, want)
	}
}

func TestExprConstants(t *testing.T) {
	ops := []int{impl.ExConst, impl.ExColumn, impl.ExNot, impl.ExIsNull, impl.ExNeg, impl.ExAdd, impl.ExSub, impl.ExMul, impl.ExDiv, impl.ExEq, impl.ExLt, impl.ExAnd, impl.ExOr}
	for i, op := range ops {
		if op != i+1 {
			t.Errorf("op %d is %d", i+1, op)
		}
	}
	if impl.MaxNodes != 40 || impl.MaxDepth != 12 || impl.MaxTokens != 500 {
		t.Error("constants of chapter 11")
	}
}

func TestEachKindOfNode(t *testing.T) {
	id, n, name := columnExpr(0), columnExpr(1), columnExpr(2)
	five := valueExpr(number(5))
	for text, want := range map[string]impl.Expr{
		"id":             id,
		"n":              n,
		"name":           name,
		"null":           valueExpr(none),
		"0":              valueExpr(number(0)),
		"5":              five,
		"-5":             valueExpr(number(-5)),
		"1000000000":     valueExpr(number(impl.MaxNumber)),
		"-1000000000":    valueExpr(number(-impl.MaxNumber)),
		"''":             valueExpr(word("")),
		"'a'":            valueExpr(word("a")),
		"'zzzzzzzzzz'":   valueExpr(word("zzzzzzzzzz")),
		"'null'":         valueExpr(word("null")),
		"'id'":           valueExpr(word("id")),
		"not n":          unaryExpr(impl.ExNot, n),
		"n is null":      unaryExpr(impl.ExIsNull, n),
		"-n":             unaryExpr(impl.ExNeg, n),
		"id + n":         binaryExpr(impl.ExAdd, id, n),
		"id - n":         binaryExpr(impl.ExSub, id, n),
		"id * n":         binaryExpr(impl.ExMul, id, n),
		"id / n":         binaryExpr(impl.ExDiv, id, n),
		"id = n":         binaryExpr(impl.ExEq, id, n),
		"id < n":         binaryExpr(impl.ExLt, id, n),
		"id and n":       binaryExpr(impl.ExAnd, id, n),
		"id or n":        binaryExpr(impl.ExOr, id, n),
		"(id+n)*name":    binaryExpr(impl.ExMul, binaryExpr(impl.ExAdd, id, n), name),
		"id+n*name":      binaryExpr(impl.ExAdd, id, binaryExpr(impl.ExMul, n, name)),
		"'a'<name":       binaryExpr(impl.ExLt, valueExpr(word("a")), name),
		"12and 5":        binaryExpr(impl.ExAnd, valueExpr(number(12)), five),
		"not(n)is null":  unaryExpr(impl.ExNot, unaryExpr(impl.ExIsNull, n)),
		"(not n)is null": unaryExpr(impl.ExIsNull, unaryExpr(impl.ExNot, n)),
	} {
		checkParsed(t, text, want)
		checkParsed(t, "  "+text+"  ", want)
		checkParsed(t, "("+text+")", want)
		checkParsed(t, "( ( "+text+" ) )", want)
	}
}

// TestPlacesOfParts: the nodes of one expression, written out.
func TestPlacesOfParts(t *testing.T) {
	want := exprOf(columnNode(1), constNode(number(2)), joinNode(impl.ExLt, 0, 1), columnNode(2), joinNode(impl.ExIsNull, 3, 0),
		joinNode(impl.ExNot, 4, 0), joinNode(impl.ExAnd, 2, 5), columnNode(0), joinNode(impl.ExNeg, 7, 0), joinNode(impl.ExOr, 6, 8))
	checkParsed(t, "n < 2 and not name is null or -id", want)
	checkParsed(t, "((n < 2) and (not (name is null))) or (-(id))", want)
}

func TestTextsOfExpressions(t *testing.T) {
	id, five := columnExpr(0), valueExpr(number(5))
	for want, e := range map[string]impl.Expr{
		"id":                           id,
		"n":                            columnExpr(1),
		"name":                         columnExpr(2),
		"5":                            five,
		"0":                            valueExpr(number(0)),
		"-5":                           valueExpr(number(-5)),
		"null":                         valueExpr(none),
		"''":                           valueExpr(word("")),
		"'ab'":                         valueExpr(word("ab")),
		"(not id)":                     unaryExpr(impl.ExNot, id),
		"(id is null)":                 unaryExpr(impl.ExIsNull, id),
		"(- (id))":                     unaryExpr(impl.ExNeg, id),
		"(- (5))":                      unaryExpr(impl.ExNeg, five),
		"(- (-5))":                     unaryExpr(impl.ExNeg, valueExpr(number(-5))),
		"(- ((- (0))))":                unaryTimes(impl.ExNeg, 2, valueExpr(number(0))),
		"(- ((id + 5)))":               unaryExpr(impl.ExNeg, binaryExpr(impl.ExAdd, id, five)),
		"(id + 5)":                     binaryExpr(impl.ExAdd, id, five),
		"(id - -5)":                    binaryExpr(impl.ExSub, id, valueExpr(number(-5))),
		"(-5 * id)":                    binaryExpr(impl.ExMul, valueExpr(number(-5)), id),
		"(id / null)":                  binaryExpr(impl.ExDiv, id, valueExpr(none)),
		"(id = 'a')":                   binaryExpr(impl.ExEq, id, valueExpr(word("a"))),
		"(id < 5)":                     binaryExpr(impl.ExLt, id, five),
		"(id and 5)":                   binaryExpr(impl.ExAnd, id, five),
		"(id or 5)":                    binaryExpr(impl.ExOr, id, five),
		"((not id) or (5 - (id = 5)))": binaryExpr(impl.ExOr, unaryExpr(impl.ExNot, id), binaryExpr(impl.ExSub, five, binaryExpr(impl.ExEq, id, five))),
	} {
		if got, code := impl.ExprText(e); got != want || code != impl.OK {
			t.Errorf("ExprText: %q, code %d, want %q", got, code, want)
		}
		checkParsed(t, want, e)
	}
}

// joins are the ways in which one more part, or none, comes behind a part, with their levels.
func joins() map[string]int {
	return map[string]int{"or": 1, "and": 2, "=": 4, "<": 4, "is": 4, "+": 5, "-": 5, "*": 6, "/": 6}
}

// behind is a part with a sign behind it, and another part but for "is".
func behind(left, sign, right string) string {
	if sign == "is" {
		return left + " is null"
	}
	return left + " " + sign + " " + right
}

// TestEachLevelAgainstEachOther: of two signs the tighter one binds first, of alike ones the left one; of the fourth
// level there is one at most.
func TestEachLevelAgainstEachOther(t *testing.T) {
	for one, level := range joins() {
		for two, other := range joins() {
			text := behind(behind("id", one, "n"), two, "5")
			switch {
			case level == 4 && other == 4:
				checkNoExpr(t, text, impl.ErrForm)
				checkBound(t, behind("("+behind("id", one, "n")+")", two, "5"), "("+behind("("+behind("id", one, "n")+")", two, "5")+")")
			case one == "is" && other > 4:
				checkNoExpr(t, text, impl.ErrForm)
			case level >= other:
				checkBound(t, text, "("+behind("("+behind("id", one, "n")+")", two, "5")+")")
			default:
				checkBound(t, text, "("+behind("id", one, "("+behind("n", two, "5")+")")+")")
			}
		}
		// What stands ahead: not binds less than the signs from the fourth level on, - more than all.
		inner := "(" + behind("id", one, "n") + ")"
		if level > 3 {
			checkBound(t, "not "+behind("id", one, "n"), "(not "+inner+")")
		} else {
			checkBound(t, "not "+behind("id", one, "n"), "("+behind("(not id)", one, "n")+")")
		}
		checkBound(t, "- "+behind("id", one, "n"), "("+behind("(- (id))", one, "n")+")")
		checkBound(t, "- "+behind("5", one, "n"), "("+behind("-5", one, "n")+")")
		if one == "is" {
			continue
		}
		checkBound(t, "id "+one+" - n", "(id "+one+" (- (n)))")
		checkBound(t, "id "+one+" - 5", "(id "+one+" -5)")
		if level < 3 {
			checkBound(t, "id "+one+" not n", "(id "+one+" (not n))")
			checkBound(t, "id "+one+" not n = 5", "(id "+one+" (not (n = 5)))")
			checkBound(t, "id "+one+" not not n "+one+" 5", "((id "+one+" (not (not n))) "+one+" 5)")
		} else {
			checkNoExpr(t, "id "+one+" not n", impl.ErrForm)
			checkBound(t, "id "+one+" (not n)", "(id "+one+" (not n))")
		}
	}
	checkNoExpr(t, "- not n", impl.ErrForm)
	checkBound(t, "not - n", "(not (- (n)))")
	checkBound(t, "- (not n)", "(- ((not n)))")
}

// TestThreeSignsInARow: all texts of three signs between four parts, held against levels that bind.
func TestThreeSignsInARow(t *testing.T) {
	signs := []string{"or", "and", "=", "<", "+", "-", "*", "/"}
	for _, a := range signs {
		for _, b := range signs {
			for _, c := range signs {
				text := "id " + a + " n " + b + " name " + c + " 5"
				want, code := plainParse(text)
				if code != impl.OK {
					checkNoExpr(t, text, impl.ErrForm)
				} else {
					checkParsed(t, text, want)
				}
			}
		}
	}
}

func TestFromLeftToRight(t *testing.T) {
	for _, sign := range []string{"or", "and", "+", "-", "*", "/"} {
		text, want := "id", "id"
		for i := range 11 {
			text, want = fmt.Sprintf("%s %s %d", text, sign, i), fmt.Sprintf("(%s %s %d)", want, sign, i)
			checkBound(t, text, want)
		}
	}
	checkBound(t, "1 - 2 + 3 - 4", "(((1 - 2) + 3) - 4)")
	checkBound(t, "1 * 2 / 3 * 4", "(((1 * 2) / 3) * 4)")
	checkBound(t, "1 - (2 - 3)", "(1 - (2 - 3))")
	checkBound(t, "1 or 2 and 3 or 4", "((1 or (2 and 3)) or 4)")
	checkBound(t, "1 < 2 and 3 = 4", "((1 < 2) and (3 = 4))")
}

// TestASignAheadOfDigits: it is the number's own, unless it stands behind a value, where it is a sign between two.
func TestASignAheadOfDigits(t *testing.T) {
	for text, want := range map[string]string{
		"-5": "-5", "- 5": "-5", "-   5": "-5", "(-5)": "-5", "-1": "-1", "-10": "-10", "-1000000000": "-1000000000", "-999999999": "-999999999",
		"-0": "(- (0))", "- 0": "(- (0))", "-(0)": "(- (0))", "--0": "(- ((- (0))))",
		"--5": "(- (-5))", "- -5": "(- (-5))", "---5": "(- ((- (-5))))", "-(5)": "(- (5))", "-(-5)": "(- (-5))", "-((5))": "(- (5))", "--(5)": "(- ((- (5))))",
		"-n": "(- (n))", "--n": "(- ((- (n))))", "-null": "(- (null))", "-'a'": "(- ('a'))", "-''": "(- (''))",
		"n-5": "(n - 5)", "n - 5": "(n - 5)", "n -5": "(n - 5)", "n--5": "(n - -5)", "n - -5": "(n - -5)", "n---5": "(n - (- (-5)))", "n-(-5)": "(n - -5)", "n-(5)": "(n - 5)", "n-0": "(n - 0)", "n--0": "(n - (- (0)))",
		"5-5": "(5 - 5)", "-5-5": "(-5 - 5)", "-5--5": "(-5 - -5)", "1-2-3": "((1 - 2) - 3)", "(n)-5": "(n - 5)", "'a'-5": "('a' - 5)", "null-5": "(null - 5)", "n+-5": "(n + -5)",
		"n*-5": "(n * -5)", "-5*n": "(-5 * n)", "n/-5": "(n / -5)", "-n*5": "((- (n)) * 5)", "-5*-5": "(-5 * -5)", "n=-5": "(n = -5)", "n<-5": "(n < -5)", "-5<n": "(-5 < n)",
		"n*5-5": "((n * 5) - 5)", "n-5*5": "(n - (5 * 5))", "n-5-5": "((n - 5) - 5)", "n = 1 - 5": "(n = (1 - 5))",
		"not-5": "(not -5)", "not -0": "(not (- (0)))", "n and-5": "(n and -5)", "n or -5": "(n or -5)", "-5is null": "(-5 is null)", "- 5 is null": "(-5 is null)", "(n is null)-5": "((n is null) - 5)",
		"-5 and -0 or -n": "((-5 and (- (0))) or (- (n)))",
	} {
		checkBound(t, text, want)
	}
	for _, text := range []string{"-", "- -", "-1000000001", "- 1000000001", "-9999999999", "-999999999999999999", "-99999999999999999999999999", "-01", "-00", "-05", "--01", "-1000000001 + 1", "n - 1000000001", "n-01", "n - - 01",
		"+5", "n + + 5", "*5", "-)", "-and", "-5n", "-5 5", "- 5 -", "n is null-5", "n is null - 5", "n-+5", "-select", "(-)5", "-()"} {
		checkNoExpr(t, text, impl.ErrForm)
	}
}

// TestBracketsThatSayTheSame: with as few brackets as there can be, with some more, and with all of them.
func TestBracketsThatSayTheSame(t *testing.T) {
	t.Parallel()
	x := dice(11)
	for range 3000 {
		e := x.expr(1+x.below(impl.MaxNodes), 1+x.below(impl.MaxDepth))
		checkParsed(t, x.written(spelt(e, func() bool { return false })), e)
		checkParsed(t, x.written(spelt(e, func() bool { return x.below(8) == 0 })), e)
		checkParsed(t, x.written(spelt(e, func() bool { return true })), e)
		if t.Failed() {
			return
		}
	}
}

// TestExpressionsAreReadBack: whatever stands in a right expression.
func TestExpressionsAreReadBack(t *testing.T) {
	t.Parallel()
	x := dice(12)
	sizes := map[int]int{}
	for range 5000 {
		e := x.expr(1+x.below(impl.MaxNodes), impl.MaxDepth)
		sizes[len(e.Nodes)]++
		checkParsed(t, plainText(e), e)
		if t.Failed() {
			return
		}
	}
	for n := 1; n <= impl.MaxNodes; n++ {
		if sizes[n] == 0 {
			t.Errorf("no expression of %d nodes: %v", n, sizes)
		}
	}
	for _, v := range risingValues() {
		checkParsed(t, plainText(valueExpr(v)), valueExpr(v))
		for _, op := range unaryOps() {
			checkParsed(t, plainText(unaryExpr(op, valueExpr(v))), unaryExpr(op, valueExpr(v)))
		}
		for _, op := range binaryOps() {
			for _, w := range risingValues() {
				e := binaryExpr(op, valueExpr(v), valueExpr(w))
				checkParsed(t, plainText(e), e)
			}
		}
	}
}

// TestTheLongestTexts: the most nodes with the longest values, and the deepest ones of each kind.
func TestTheLongestTexts(t *testing.T) {
	leaf := valueExpr(word(strings.Repeat("w", impl.MaxWord)))
	e := leaf
	for range 6 {
		e = binaryExpr(impl.ExAnd, e, binaryExpr(impl.ExOr, leaf, binaryExpr(impl.ExAnd, leaf, leaf)))
	}
	e = unaryTimes(impl.ExNeg, 3, e)
	if len(e.Nodes) != impl.MaxNodes || plainDepth(e.Nodes) != impl.MaxDepth {
		t.Fatalf("%d nodes, %d deep", len(e.Nodes), plainDepth(e.Nodes))
	}
	checkParsed(t, plainText(e), e)
	for _, op := range unaryOps() {
		deep := unaryTimes(op, impl.MaxDepth-1, leaf)
		checkParsed(t, plainText(deep), deep)
	}
	for _, op := range binaryOps() {
		left, right := leaf, leaf
		for range impl.MaxDepth - 1 {
			left, right = binaryExpr(op, left, leaf), binaryExpr(op, leaf, right)
		}
		checkParsed(t, plainText(left), left)
		checkParsed(t, plainText(right), right)
	}
}

// TestAllShortTexts: all runs of up to five tokens, held against levels that bind.
func TestAllShortTexts(t *testing.T) {
	t.Parallel()
	tokens := []string{"or", "and", "not", "=", "is", "null", "-", "*", "(", ")", "n", "5", "0"}
	all := [][]string{nil}
	right := 0
	for from, size := 0, 0; size < 5; size++ {
		end := len(all)
		for _, some := range all[from:end] {
			for _, token := range tokens {
				all = append(all, append(slices.Clip(some), token))
			}
		}
		from = end
	}
	for _, some := range all {
		text := strings.Join(some, " ")
		want, wantCode := plainParse(text)
		got, code := impl.ParseExpr(text)
		if !sameExpr(got, want) || code != wantCode {
			t.Fatalf("%q: %s\ncode %d, want %s\ncode %d", text, tellExpr(got), code, tellExpr(want), wantCode)
		}
		if code == impl.OK {
			right++
		}
	}
	if right < 1000 {
		t.Errorf("%d of %d texts are expressions", right, len(all))
	}
}
