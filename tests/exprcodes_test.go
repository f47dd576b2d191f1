package tests

import (
	"fmt"
	"strings"
	"testing"

	"loop.example/g00332/impl"
)

// manyNodes is a text of n nodes that is not deep: groups of five leaves, joined by and, and these by or; one sign ahead
// if there are to be more nodes by one.
func manyNodes(n int) string {
	text := pick(n%2 == 0, "- n", "n")
	for i := 1; i < (n+1)/2; i++ {
		text += pick(i%5 == 0, " or ", " and ") + "n"
	}
	return text
}

// deepSums is a text as deep as told, in brackets or not.
func deepSums(deep int) string { return "n" + strings.Repeat(" + n", deep-1) }

func within(brackets int, text string) string {
	return strings.Repeat("(", brackets) + text + strings.Repeat(")", brackets)
}

func TestManyNodes(t *testing.T) {
	for n := 1; n <= impl.MaxNodes; n++ {
		if e := parsed(t, manyNodes(n)); len(e.Nodes) != n {
			t.Errorf("%q has %d nodes", manyNodes(n), len(e.Nodes))
		}
		want, _ := plainParse(manyNodes(n))
		checkParsed(t, manyNodes(n), want)
	}
	for n := impl.MaxNodes + 1; n < 90; n++ {
		checkNoExpr(t, manyNodes(n), impl.ErrMany)
	}
}

// TestNodeFortyOne: of whatever kind it is, it is one too many; what is no node is a fault of its own.
func TestNodeFortyOne(t *testing.T) {
	forty := manyNodes(40)
	for _, more := range []string{" or n", " or name", " or 5", " or -5", " or null", " or ''", " or 'ab'", " or (n)", " or ((((5))))", " or not n", " or -n", " or n is null", " or n + n",
		" and n", " is null", " = n", " < 5", " + n", " - n", " - -n", " * n", " / n"} {
		checkNoExpr(t, forty+more, impl.ErrMany)
		checkNoExpr(t, "("+forty+more+")", impl.ErrMany)
	}
	// The first fault counts: whatever is read behind it, or left.
	for _, fault := range []string{" )", " or", " n", " 01", " select", " is 5", " = =", " or " + strings.Repeat("(", 49)} {
		checkNoExpr(t, forty+" or n"+fault, impl.ErrMany)
	}
	for _, text := range []string{"not (" + forty + ")", "- (" + forty + ")", "(" + forty + ") is null", "n or (" + forty + ")", "(" + forty + ") or n", "not " + forty, "(" + forty + " or n"} {
		checkNoExpr(t, text, impl.ErrMany)
	}
	for _, more := range []string{" or", " or )", " or ()", " or 01", " or 1000000001", " or -1000000001", " or select", " or 'abcdefghijk'", " or or", " or not", " or -", " is 5", " is", " is not null", ")", " n"} {
		checkNoExpr(t, forty+more, impl.ErrForm)
	}
	// Node 40 is there, and the one that joins it is the 41st.
	checkNoExpr(t, manyNodes(39)+" or n", impl.ErrMany)
	checkNoExpr(t, manyNodes(39)+" or n )", impl.ErrMany)
	checkNoExpr(t, manyNodes(39)+" or n *", impl.ErrForm)
	checkNoExpr(t, manyNodes(39)+" or (n", impl.ErrForm)
	checkParsed(t, within(20, forty), parsed(t, forty))
}

func TestDeepExpressions(t *testing.T) {
	for deep := 1; deep <= 20; deep++ {
		for what, text := range map[string]string{
			"not":      strings.Repeat("not ", deep-1) + "n",
			"-":        strings.Repeat("-", deep-1) + "n",
			"a number": strings.Repeat("-", deep) + "5",
			"is null":  strings.Repeat("(", deep-1) + "n" + strings.Repeat(" is null)", deep-1),
			"+":        deepSums(deep),
			"right +":  strings.Repeat("n + (", deep-1) + "n" + strings.Repeat(")", deep-1),
			"and":      "n" + strings.Repeat(" and 5", deep-1),
			"=":        strings.Repeat("(", deep-1) + "n" + strings.Repeat(" = 1)", deep-1),
			"mixed":    strings.Repeat("not -(", (deep-1)/2) + pick(deep%2 == 0, "-n", "n") + strings.Repeat(")", (deep-1)/2),
			"brackets": within(10, deepSums(deep)),
		} {
			if deep > impl.MaxDepth {
				checkNoExpr(t, text, impl.ErrDepth)
				continue
			}
			want, code := plainParse(text)
			if code != impl.OK || plainDepth(want.Nodes) != deep {
				t.Fatalf("%s, %d: %q", what, deep, text)
			}
			checkParsed(t, text, want)
		}
	}
}

// TestManyThatAreOpen: not, - and brackets count together, as long as they are open; nodes are counted beside them.
func TestManyThatAreOpen(t *testing.T) {
	for _, c := range []struct {
		text string
		want int
	}{
		{strings.Repeat("not ", 39) + "n", impl.ErrDepth},
		{strings.Repeat("not ", 40) + "n", impl.ErrMany},
		{strings.Repeat("not ", 48) + "n", impl.ErrMany},
		{strings.Repeat("not ", 49) + "n", impl.ErrDepth},
		{strings.Repeat("not ", 48), impl.ErrForm},
		{strings.Repeat("not ", 49), impl.ErrDepth},
		{strings.Repeat("not ", 300) + "n", impl.ErrDepth},
		{strings.Repeat("- ", 39) + "n", impl.ErrDepth},
		{strings.Repeat("- ", 40) + "n", impl.ErrMany},
		{strings.Repeat("- ", 48) + "n", impl.ErrMany},
		{strings.Repeat("- ", 49) + "n", impl.ErrDepth},
		{strings.Repeat("- ", 48), impl.ErrForm},
		{strings.Repeat("- ", 49), impl.ErrDepth},
		{strings.Repeat("- ", 48) + "0", impl.ErrMany},
		{strings.Repeat("- ", 49) + "0", impl.ErrDepth},
		// The last sign is the number's own.
		{strings.Repeat("- ", 40) + "5", impl.ErrDepth},
		{strings.Repeat("- ", 41) + "5", impl.ErrMany},
		{strings.Repeat("- ", 49) + "5", impl.ErrMany},
		{strings.Repeat("- ", 50) + "5", impl.ErrDepth},
		{strings.Repeat("- ", 49) + "1000000001", impl.ErrDepth},
		{strings.Repeat("- ", 48) + "1000000001", impl.ErrForm},
		{strings.Repeat("(", 48), impl.ErrForm},
		{strings.Repeat("(", 49), impl.ErrDepth},
		{strings.Repeat("(", 48) + "n", impl.ErrForm},
		{strings.Repeat("(", 49) + "n", impl.ErrDepth},
		{strings.Repeat("(", 48) + ")", impl.ErrForm},
		{strings.Repeat("(", 500), impl.ErrDepth},
		{within(49, "n"), impl.ErrDepth},
		{within(100, "n"), impl.ErrDepth},
		{within(48, "not n"), impl.ErrDepth},
		{within(48, "-n"), impl.ErrDepth},
		{within(48, "-0"), impl.ErrDepth},
		{within(48, "-01"), impl.ErrDepth},
		{within(48, "- -5"), impl.ErrDepth},
		{within(48, "n + (n)"), impl.ErrDepth},
		{within(48, "n and not n"), impl.ErrDepth},
		{within(48, "n = -n"), impl.ErrDepth},
		{within(48, "01"), impl.ErrForm},
		{within(48, "n n"), impl.ErrForm},
		{within(49, "01"), impl.ErrDepth},
	} {
		checkNoExpr(t, c.text, c.want)
	}
	for _, inner := range []string{"n", "5", "-5", "null", "'a'", "n + n", "n is null", "n = 1 and n < 2 or 5"} {
		checkParsed(t, within(48, inner), parsed(t, inner))
		checkNoExpr(t, within(49, inner), impl.ErrDepth)
	}
	for nots := range 6 {
		for signs := range 6 {
			brackets := 48 - nots - signs
			inner := strings.Repeat("not ", nots) + strings.Repeat("- ", signs) + "n"
			checkParsed(t, within(brackets, inner), parsed(t, inner))
			checkNoExpr(t, within(brackets+1, inner), impl.ErrDepth)
			spread := strings.Repeat("not (", nots) + strings.Repeat("- (", signs) + "n" + strings.Repeat(")", nots+signs)
			checkParsed(t, within(brackets-nots-signs, spread), parsed(t, inner))
			checkNoExpr(t, within(brackets-nots-signs+1, spread), impl.ErrDepth)
		}
	}
}

// TestWhatIsClosedIsOpenNoMore: many brackets, not and -, one behind the other.
func TestWhatIsClosedIsOpenNoMore(t *testing.T) {
	for text, same := range map[string]string{
		within(48, "n") + " + " + within(48, "n") + " + " + within(48, "n"):                                    "n + n + n",
		within(47, within(1, "n")+" + "+within(1, "n")):                                                        "n + n",
		within(47, "not n and not n and not n"):                                                                "not n and not n and not n",
		within(47, "- n + - n * - n - - n"):                                                                    "- n + - n * - n - - n",
		within(46, "not -n and not (5) or not (n)"):                                                            "not -n and not 5 or not n",
		within(45, "not (n) = ((1)) and ((n))"):                                                                "not n = 1 and n",
		"not " + within(47, "n") + " and not " + within(47, "n") + " and - " + within(47, "n"):                 "not n and not n and - n",
		"- " + within(47, "n") + " = - " + within(47, "-5") + " or " + within(48, "-5"):                        "- n = - (-5) or -5",
		"not - " + within(46, "n") + " is null and not " + within(46, "- 0") + " or " + within(47, "not null"): "not - n is null and not - 0 or not null",
	} {
		checkParsed(t, text, parsed(t, same))
	}
}

func TestManyTokensOfAnExpression(t *testing.T) {
	// Ten leaves within 24 brackets each, nine signs between them, one ahead.
	leaves := strings.TrimSuffix(strings.Repeat(within(24, "n")+" + ", 10), " + ")
	most := "- " + leaves
	if tokens, code := impl.LexSql(most); len(tokens) != impl.MaxTokens || code != impl.OK {
		t.Fatalf("%d tokens, code %d", len(tokens), code)
	}
	checkParsed(t, most, parsed(t, "-"+deepSums(10)))
	checkNoExpr(t, "-"+most, impl.ErrMany)
	checkNoExpr(t, most+")", impl.ErrMany)
	checkNoExpr(t, most+"#", impl.ErrForm)
	checkNoExpr(t, most+" n #", impl.ErrMany)
	checkNoExpr(t, leaves+" or", impl.ErrForm)
	checkNoExpr(t, leaves+" n", impl.ErrForm)
}

func TestTextsThatAreNoExpressions(t *testing.T) {
	for _, text := range []string{"", " ", "   ", "()", "( )", "(", ")", "((n)", "(n))", ")n(", "n)", "n(", "(n)(n)", "n (n)", "n n", "5 5", "5 n", "n 5", "n 'a'", "'a' 'b'", "null null", "id n",
		"or", "and", "not", "is", "is null", "=", "<", "+", "*", "/", ",", "n,", "n, n", ",n", "(n,n)", "n or", "n and", "n not", "n is", "n =", "n <", "n +", "n -", "n *", "n /",
		"or n", "and n", "= n", "< n", "+ n", "* n", "/ n", "n or or n", "n and or n", "n or and n", "n = = n", "n < < n", "n = < n", "n + + n", "n * * n", "n + * n", "n * + n", "n = + n",
		"n = n = n", "n < n < n", "n = n < n", "n < n = n", "n is null is null", "n = n is null", "n is null = n", "n < n is null", "n is null < n", "(n = n = n)", "n = (n = n) = n", "not n = n = n", "n = n = n or n",
		"n is 5", "n is n", "n is not null", "n is not", "n is (null)", "n is", "n is null null", "n is 'null'", "n is is null", "null is", "is n", "n null", "n is null n",
		"not not", "not or", "not and n", "not = n", "not )", "n not n", "n = not n", "n + not n", "n * not n", "- not n", "n < not n", "not n not n",
		"select", "where", "order", "desc", "set", "a", "nn", "ids", "names", "name1", "n1", "i", "d", "nul", "nulls", "true", "false", "x y", "n = x", "n + select", "not x", "- x", "(x)", "x is null",
		"01", "00", "007", "1000000001", "9999999999", "10000000000", "999999999999999999", "1000000000000000000", "9223372036854775808", "18446744073709551617", strings.Repeat("9", 400), strings.Repeat("0", 400), "n = 01", "5 + 1000000001",
		"'abcdefghijk'", "'aaaaaaaaaaaaaaaaaaaa'", "n = 'abcdefghijk'", "5n", "12ab", "n5", "1and1", "1or1", "notn", "not1", "nis null", "n isnull", "n andn", "nor n",
		"#", "n #", "n = #", "'", "'a", "n = 'a", "N", "n = N", "NULL", "Not n", "n AND n", "n\tor n", "n\n", "n > 1", "n != 1", "n <> 1", "n <= 1", "n == 1", "n = \"a\"", "n.n", "1.5", "n;", "é", "n = 'é'", "\xff", "n \x00"} {
		checkNoExpr(t, text, impl.ErrForm)
		checkNoExpr(t, text+" ", impl.ErrForm)
	}
}

// TestCodesOfExpressionsInTheirOrder: what the tokens tell, then what is met first in reading, then how deep it is, then
// what is left.
func TestCodesOfExpressionsInTheirOrder(t *testing.T) {
	open, deep, many := strings.Repeat("(", 49), deepSums(13), manyNodes(41)
	long, tokens := strings.Repeat(" ", impl.MaxText), strings.Repeat(" )", 501)
	for _, c := range []struct {
		what, text string
		want       int
	}{
		{"long, then all else", "#" + long + open + many, impl.ErrLong},
		{"long, of blanks alone", long + " ", impl.ErrLong},
		{"just not long", long[:impl.MaxText-1] + "n", impl.OK},
		{"just not long, of blanks alone", long, impl.ErrForm},
		{"long by one", long + "n", impl.ErrLong},
		{"too many tokens, then a byte", "n" + tokens + " #", impl.ErrMany},
		{"a byte, then too many tokens", "n # " + tokens, impl.ErrForm},
		{"many tokens ahead of a fault in reading", "or or" + tokens, impl.ErrMany},
		{"many tokens ahead of what is open", strings.Repeat("(", 501), impl.ErrMany},
		{"a byte ahead of what is open", open + "#", impl.ErrForm},
		{"a byte ahead of many nodes", many + "#", impl.ErrForm},
		{"a byte ahead of depth", deep + "#", impl.ErrForm},
		{"form, then open", "n + ) " + open, impl.ErrForm},
		{"form, then many", "or " + many, impl.ErrForm},
		{"left, then open: what is left is not read", "n " + open, impl.ErrForm},
		{"left, then many", "5 " + many, impl.ErrForm},
		{"open, then form", open + ")", impl.ErrDepth},
		{"open, then many", open + many, impl.ErrDepth},
		{"open behind a few nodes, then form", "n = 1 and " + open + " or", impl.ErrDepth},
		{"many, then open", many + " or " + open, impl.ErrMany},
		{"forty, then open", manyNodes(40) + " or " + open, impl.ErrDepth},
		{"many, then form", many + " or or", impl.ErrMany},
		{"many, then left", many + " n", impl.ErrMany},
		{"many, and deep", deepSums(30), impl.ErrMany},
		{"deep", deep, impl.ErrDepth},
		{"deep, of the most nodes", "not " + deepSums(20), impl.ErrDepth},
		{"deep, then left", deep + " n", impl.ErrDepth},
		{"deep, then a bracket left", deep + ")", impl.ErrDepth},
		{"deep, then a comma left", deep + ",", impl.ErrDepth},
		{"deep, then a second comparison left", deep + " = 1 = 1", impl.ErrDepth},
		{"deep, then form", deep + " or", impl.ErrForm},
		{"deep, then form of is", deep + " is 5", impl.ErrForm},
		{"deep within a bracket that is not closed", "(" + deep, impl.ErrForm},
		{"deep within a bracket with something left", "(" + deep + " n)", impl.ErrForm},
		{"deep, then open", deep + " or " + open, impl.ErrDepth},
		{"deep, then left and open", deep + " " + open, impl.ErrDepth},
		{"deep enough, then left", deepSums(12) + " n", impl.ErrForm},
		{"deep enough", deepSums(12), impl.OK},
		{"left", "n n", impl.ErrForm},
	} {
		if e, code := impl.ParseExpr(c.text); code != c.want || (len(e.Nodes) > 0) != (code == impl.OK) {
			t.Errorf("%s: code %d, want %d, nodes %s", c.what, code, c.want, tellExpr(e))
		}
	}
}

// soup are the tokens of a right expression, some of them spoilt, and perhaps with a part that is near an edge.
func (x *dice) soup() []string {
	all := []string{"or", "and", "not", "is", "null", "=", "<", "+", "-", "*", "/", "(", ")", ",", "n", "id", "name", "5", "0", "01", "1000000001", "'a'", "'abcdefghijk'", "x"}
	tokens := spelt(x.expr(1+x.below(44), 1+x.below(14)), func() bool { return x.below(9) == 0 })
	for range x.below(4) {
		at := x.below(len(tokens) + 1)
		switch x.below(5) {
		case 0:
			tokens = append(tokens[:at:at], tokens[min(at+1, len(tokens)):]...)
		case 1:
			tokens = append(append(tokens[:at:at], all[x.below(len(all))]), tokens[at:]...)
		case 2:
			many := strings.Fields(strings.Repeat([]string{"( ", "not ", "- "}[x.below(3)], 20+x.below(31)))
			tokens = append(append(tokens[:at:at], many...), tokens[at:]...)
		case 3:
			n := 20 + x.below(30)
			tokens = append(append(strings.Fields(strings.Repeat("( ", n)), tokens...), strings.Fields(strings.Repeat(") ", n))...)
		}
	}
	return tokens
}

// TestRunsOfTexts: whatever stands in a text, held against levels that bind.
func TestRunsOfTexts(t *testing.T) {
	t.Parallel()
	x := dice(21)
	codes := map[int]int{}
	for range 30000 {
		text := strings.Join(x.soup(), " ")
		want, wantCode := plainParse(text)
		got, code := impl.ParseExpr(text)
		if !sameExpr(got, want) || code != wantCode {
			t.Fatalf("%q: %s\ncode %d, want %s\ncode %d", text, tellExpr(got), code, tellExpr(want), wantCode)
		}
		if impl.ExprOK(got) != (code == impl.OK) {
			t.Fatalf("%q: code %d, and right is %v", text, code, impl.ExprOK(got))
		}
		codes[code]++
	}
	for _, code := range []int{impl.OK, impl.ErrForm, impl.ErrMany, impl.ErrDepth} {
		if codes[code] < 300 {
			t.Errorf("code %d came %d times: %v", code, codes[code], fmt.Sprint(codes))
		}
	}
}
