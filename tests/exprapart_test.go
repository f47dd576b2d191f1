package tests

import (
	"fmt"
	"slices"
	"strings"
	"testing"

	"loop.example/g00332/impl"
)

// exprAnswers are those of all calls that take an expression.
func exprAnswers(e impl.Expr, r impl.Row) string {
	text, textCode := impl.ExprText(e)
	v, code := impl.EvalExpr(e, r)
	return fmt.Sprintf("%v, %q %d, %v %d", impl.ExprOK(e), text, textCode, v, code)
}

// TestExpressionsStandApart: no call writes into an expression, or behind its end, or tells what stands behind it.
func TestExpressionsStandApart(t *testing.T) {
	all := rightExprs()
	for name, e := range wrongExprs() {
		all["wrong: "+name] = e
	}
	others := []impl.ExprNode{joinNode(impl.ExNot, 0, 0), constNode(number(77)), {Op: 77, A: 77, B: 77, Column: 77, V: word("behind")}}
	for name, e := range all {
		for _, r := range []impl.Row{row(1, 2), {}, {Id: -1}} {
			told := exprAnswers(exprOf(slices.Clip(slices.Clone(e.Nodes))...), r)
			for _, other := range others {
				mine := exprOf(withRoom(e.Nodes, other)...)
				before := slices.Clone(mine.Nodes[:cap(mine.Nodes)])
				if got := exprAnswers(mine, r); got != told {
					t.Errorf("%s: %s, with nothing behind it %s", name, got, told)
				}
				if !slices.Equal(mine.Nodes[:cap(mine.Nodes)], before) {
					t.Fatalf("%s: an argument is changed, or what stands behind it", name)
				}
			}
		}
	}
}

func exprTexts() []string {
	return []string{"", "n", "-5", "- n", "n = 1 and name is null or not 'ab' < name", "n +", "#", "n n", "'abcdefghijk'", manyNodes(40), manyNodes(41), deepSums(12), deepSums(13), within(48, "n"), within(49, "n"),
		strings.Repeat("n ", 500), strings.Repeat("n ", 501), strings.Repeat(" ", impl.MaxText), strings.Repeat(" ", impl.MaxText+1), strings.Repeat("n", impl.MaxText), "\xff", "é"}
}

// TestAnswersOfTextsStandApart: what is written into one answer, also behind its end, is in no other.
func TestAnswersOfTextsStandApart(t *testing.T) {
	for _, text := range exprTexts() {
		tokens, code := impl.LexSql(text)
		told := tellList(tokens, code)
		e, exprCode := impl.ParseExpr(text)
		toldExpr := tellExpr(e)
		again, _ := impl.LexSql(text)
		againExpr, _ := impl.ParseExpr(text)
		spoil(tokens, "spoilt")
		spoil(e.Nodes, impl.ExprNode{Op: 77})
		if tellList(again, code) != told || tellExpr(againExpr) != toldExpr {
			t.Errorf("%.80q: two answers share memory", text)
		}
		last, lastCode := impl.LexSql(text)
		lastExpr, lastExprCode := impl.ParseExpr(text)
		if tellList(last, lastCode) != told || tellExpr(lastExpr) != toldExpr || lastExprCode != exprCode {
			t.Errorf("%.80q: another answer behind the first one was changed", text)
		}
	}
}

// exprCalls are calls of all functions of chapter 11.
func exprCalls() []call {
	var all []call
	for _, text := range append(exprTexts(), textArguments()...) {
		all = append(all, call{"LexSql", func() string { return tellList(impl.LexSql(text)) }})
		all = append(all, call{"ParseExpr", func() string { e, code := impl.ParseExpr(text); return answers(tellExpr(e), code) }})
	}
	rows := append(wrongRows()[:8], rightRows()...)
	for _, r := range rows {
		for name, e := range rightExprs() {
			all = append(all, call{name, func() string { return exprAnswers(e, r) }})
		}
	}
	for name, e := range wrongExprs() {
		all = append(all, call{name, func() string { return exprAnswers(e, row(1, 2)) }})
	}
	for _, op := range numberArguments() {
		for _, v := range append(badValues()[:20], risingValues()...) {
			all = append(all, call{"BinaryValue", func() string { a, code := impl.BinaryValue(op, v, number(0)); return answers(a, code) }})
			all = append(all, call{"BinaryValue", func() string { a, code := impl.BinaryValue(op, number(5), v); return answers(a, code) }})
		}
	}
	return all
}
