package tests

import (
	"fmt"
	"slices"
	"testing"

	"loop.example/g00332/impl"
)

// codeAnswers are those of all calls that take code.
func codeAnswers(list []impl.Ins, r impl.Row) string {
	v, code := impl.RunCode(list, r)
	depth, depthCode := impl.CodeDepth(list)
	return fmt.Sprintf("%v, %v %d, %d %d", impl.CodeOK(list), v, code, depth, depthCode)
}

func allCode() map[string][]impl.Ins {
	all := map[string][]impl.Ins{}
	for name, c := range rightCode() {
		all["right: "+name] = c.list
	}
	for name, list := range wrongCode() {
		all["wrong: "+name] = list
	}
	for name, list := range longCode() {
		all["long: "+name] = list
	}
	return all
}

// TestCodeStandsApart: no call writes into code, or behind its end, or tells what stands behind it.
func TestCodeStandsApart(t *testing.T) {
	others := codeOf(unaryIns(impl.ExNot), pushIns(number(77)), binaryIns(impl.ExAdd), impl.Ins{Op: 77, N: 77, V: word("behind")})
	for name, list := range allCode() {
		for _, r := range []impl.Row{row(1, 2), {}, {Id: -1}} {
			told := codeAnswers(slices.Clip(slices.Clone(list)), r)
			for _, other := range others {
				mine := withRoom(list, other)
				before := slices.Clone(mine[:cap(mine)])
				if got := codeAnswers(mine, r); got != told {
					t.Errorf("%s: %s, with nothing behind it %s", name, got, told)
				}
				if !slices.Equal(mine[:cap(mine)], before) {
					t.Fatalf("%s: an argument is changed, or what stands behind it", name)
				}
			}
		}
	}
}

// TestCompiledExpressionsStandApart: also of what stands behind their end, and no two answers share memory.
func TestCompiledExpressionsStandApart(t *testing.T) {
	all := rightExprs()
	for name, e := range wrongExprs() {
		all["wrong: "+name] = e
	}
	spoilt := impl.Ins{Op: 77, N: 77, V: word("spoilt")}
	for name, e := range all {
		list, code := impl.CompileExpr(exprOf(slices.Clip(slices.Clone(e.Nodes))...))
		told := tellCode(list)
		spoil(list, spoilt)
		for _, other := range []impl.ExprNode{joinNode(impl.ExNot, 0, 0), constNode(number(77)), {Op: 77, A: 77}} {
			mine := exprOf(withRoom(e.Nodes, other)...)
			before := slices.Clone(mine.Nodes[:cap(mine.Nodes)])
			first, firstCode := impl.CompileExpr(mine)
			again, _ := impl.CompileExpr(mine)
			if tellCode(first) != told || firstCode != code {
				t.Errorf("%s: code %d, %s, with nothing behind it %d, %s", name, firstCode, tellCode(first), code, told)
			}
			spoil(first, spoilt)
			if tellCode(again) != told {
				t.Errorf("%s: two answers share memory", name)
			}
			if !slices.Equal(mine.Nodes[:cap(mine.Nodes)], before) {
				t.Fatalf("%s: an argument is changed, or what stands behind it", name)
			}
		}
	}
}

// compiledCalls are calls of all functions of chapter 12.
func compiledCalls() []call {
	var all []call
	exprs := rightExprs()
	for name, e := range wrongExprs() {
		exprs["wrong: "+name] = e
	}
	for name, e := range exprs {
		all = append(all, call{name, func() string { return tellList(impl.CompileExpr(e)) }})
	}
	rows := append(wrongRows()[:8], rightRows()...)
	for name, list := range allCode() {
		some := rows[:12]
		if len(list) > 0 && len(list) <= 80 {
			some = rows
		}
		for _, r := range some {
			all = append(all, call{name, func() string { return codeAnswers(list, r) }})
		}
	}
	return all
}
