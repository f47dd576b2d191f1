package tests

import (
	"fmt"
	"math"
	"slices"
	"testing"

	"loop.example/g00332/impl"
)

// sum is 1 + n.
func sum() impl.Expr {
	return exprOf(constNode(number(1)), columnNode(1), joinNode(impl.ExAdd, 0, 1))
}

// chain is as deep as it has leaves.
func chain(op, leaves int) impl.Expr {
	e := columnExpr(1)
	for range leaves - 1 {
		e = binaryExpr(op, e, valueExpr(number(5)))
	}
	return e
}

// bushy is as little deep as it can be.
func bushy(op, leaves int) impl.Expr {
	if leaves == 1 {
		return columnExpr(0)
	}
	return binaryExpr(op, bushy(op, leaves/2), bushy(op, leaves-leaves/2))
}

func rightExprs() map[string]impl.Expr {
	all := map[string]impl.Expr{
		"a sum":                 sum(),
		"two alike parts":       binaryExpr(impl.ExMul, columnExpr(1), columnExpr(1)),
		"three to the left":     binaryExpr(impl.ExSub, sum(), columnExpr(2)),
		"three to the right":    binaryExpr(impl.ExSub, columnExpr(2), sum()),
		"three on either side":  binaryExpr(impl.ExOr, sum(), sum()),
		"39 nodes":              bushy(impl.ExAnd, 20),
		"MaxNodes nodes":        unaryExpr(impl.ExNot, bushy(impl.ExAnd, 20)),
		"deep by its left part": chain(impl.ExAdd, impl.MaxDepth),
		"deep by ExNot":         unaryTimes(impl.ExNot, impl.MaxDepth-1, columnExpr(1)),
		"of the most, and deep": unaryTimes(impl.ExNeg, 6, binaryExpr(impl.ExEq, bushy(impl.ExMul, 16), unaryExpr(impl.ExIsNull, columnExpr(2)))),
	}
	for i, v := range risingValues() {
		all[fmt.Sprint("value ", i)] = valueExpr(v)
	}
	for column := range 3 {
		all[fmt.Sprint("column ", column)] = columnExpr(column)
	}
	for _, op := range unaryOps() {
		all[fmt.Sprint("op ", op)] = unaryExpr(op, columnExpr(1))
	}
	for _, op := range binaryOps() {
		all[fmt.Sprint("op ", op)] = binaryExpr(op, valueExpr(word("a")), columnExpr(1))
	}
	return all
}

// exprWith is an expression with one node changed.
func exprWith(e impl.Expr, at int, change func(n *impl.ExprNode)) impl.Expr {
	e.Nodes = slices.Clone(e.Nodes)
	change(&e.Nodes[at])
	return e
}

// wrongForms have parts that do not stand as they must.
func wrongForms() map[string]impl.Expr {
	one, two := constNode(number(1)), columnNode(1)
	return map[string]impl.Expr{
		"no nodes":                             {},
		"an empty list":                        {Nodes: []impl.ExprNode{}},
		"two values":                           exprOf(one, two),
		"three values":                         exprOf(one, two, one),
		"a node that belongs to nothing":       exprOf(one, two, joinNode(impl.ExNot, 1, 0)),
		"one behind":                           exprOf(one, joinNode(impl.ExNot, 0, 0), two),
		"a whole part ahead":                   exprOf(append(sum().Nodes, two, joinNode(impl.ExNot, 3, 0))...),
		"ExNot alone":                          exprOf(joinNode(impl.ExNot, 0, 0)),
		"ExNot of what is ahead of all":        exprOf(joinNode(impl.ExNot, -1, 0)),
		"ExNot that leaves one out":            exprOf(one, two, joinNode(impl.ExNot, 0, 0)),
		"ExNot with two parts":                 exprOf(one, two, joinNode(impl.ExNot, 0, 1)),
		"ExNot with two parts, the last first": exprOf(one, two, joinNode(impl.ExNot, 1, 0)),
		"ExNot with the same part twice":       exprOf(one, one, joinNode(impl.ExNot, 1, 1)),
		"ExNot of itself":                      exprOf(one, joinNode(impl.ExNot, 1, 0)),
		"ExNot of one behind":                  exprOf(joinNode(impl.ExNot, 1, 0), one),
		"ExAdd alone":                          exprOf(joinNode(impl.ExAdd, 0, 0)),
		"ExAdd of what is ahead of all":        exprOf(joinNode(impl.ExAdd, -1, -1)),
		"ExAdd of one part":                    exprOf(one, joinNode(impl.ExAdd, 0, 0)),
		"ExAdd without a left part":            exprOf(one, joinNode(impl.ExAdd, -1, 0)),
		"ExAdd without a right part":           exprOf(one, two, joinNode(impl.ExAdd, 1, 0)),
		"ExAdd of the right part twice":        exprOf(one, two, joinNode(impl.ExAdd, 1, 1)),
		"ExAdd of the left part twice":         exprOf(one, two, joinNode(impl.ExAdd, 0, 0)),
		"ExAdd of three":                       exprOf(one, two, one, joinNode(impl.ExAdd, 1, 2)),
		"ExAdd of three, one left out":         exprOf(one, two, one, joinNode(impl.ExAdd, 0, 2)),
		"ExAdd of a part's part":               exprOf(one, two, joinNode(impl.ExNot, 1, 0), joinNode(impl.ExAdd, 0, 1)),
		"ExAdd of a left part's part":          exprOf(one, joinNode(impl.ExNot, 0, 0), two, joinNode(impl.ExAdd, 0, 2)),
		"ExAdd ahead of its parts":             exprOf(joinNode(impl.ExAdd, 1, 2), one, two),
		"ExAdd between its parts":              exprOf(one, joinNode(impl.ExAdd, 0, 2), two),
		"two that share a part":                exprOf(one, joinNode(impl.ExNot, 0, 0), joinNode(impl.ExNot, 0, 0), joinNode(impl.ExAdd, 1, 2)),
		"parts that lead round":                exprOf(joinNode(impl.ExNot, 1, 0), joinNode(impl.ExNot, 0, 0)),
		"41 nodes":                             bushy(impl.ExAnd, 21),
		"41 nodes by ExNot":                    unaryTimes(impl.ExNot, 2, bushy(impl.ExAnd, 20)),
		"42 nodes":                             unaryExpr(impl.ExNot, bushy(impl.ExAnd, 21)),
		"many nodes":                           bushy(impl.ExAdd, 2048),
		"very many nodes":                      bushy(impl.ExAdd, 4096),
		"deeper by one by the left":            chain(impl.ExAdd, impl.MaxDepth+1),
		"deeper by one by ExNot":               unaryTimes(impl.ExNot, impl.MaxDepth, columnExpr(1)),
		"deeper by one by ExIsNull":            unaryTimes(impl.ExIsNull, impl.MaxDepth, columnExpr(1)),
		"deeper by one by ExNeg":               unaryTimes(impl.ExNeg, impl.MaxDepth, columnExpr(1)),
		"deeper by one by the right":           unaryExpr(impl.ExNot, binaryExpr(impl.ExOr, columnExpr(1), unaryTimes(impl.ExNot, impl.MaxDepth-2, columnExpr(1)))),
		"as deep as it can be":                 unaryTimes(impl.ExNot, impl.MaxNodes-1, columnExpr(1)),
	}
}

// wrongNodes have a node that has what it must not have, alone or within more.
func wrongNodes() map[string]impl.Expr {
	all := map[string]impl.Expr{}
	add := func(name string, e impl.Expr, at int, change func(n *impl.ExprNode)) {
		wrong := exprWith(e, at, change)
		all[name] = wrong
		all[name+", within ExNot"] = unaryExpr(impl.ExNot, wrong)
	}
	for _, op := range []int{math.MinInt, -1, 0, 14, 15, 256 + impl.ExConst, math.MaxInt} {
		set := func(n *impl.ExprNode) { n.Op = op }
		add(fmt.Sprint("a value of op ", op), valueExpr(number(5)), 0, set)
		add(fmt.Sprint("nothing of op ", op), valueExpr(none), 0, set)
		add(fmt.Sprint("a column of op ", op), columnExpr(1), 0, set)
		add(fmt.Sprint("one part of op ", op), unaryExpr(impl.ExNot, columnExpr(1)), 1, set)
		add(fmt.Sprint("two parts of op ", op), sum(), 2, set)
	}
	for i, v := range badValues() {
		add(fmt.Sprint("bad value ", i), valueExpr(v), 0, func(n *impl.ExprNode) {})
	}
	for _, other := range []int{math.MinInt, -1, 1, 2, 3, math.MaxInt} {
		for op := impl.ExConst; op <= impl.ExOr; op++ {
			e, at := sum(), 2
			switch {
			case op == impl.ExConst:
				e, at = valueExpr(number(5)), 0
			case op == impl.ExColumn:
				e, at = columnExpr(0), 0
			case op < impl.ExAdd:
				e, at = unaryExpr(op, columnExpr(1)), 1
			default:
				e.Nodes[2].Op = op
			}
			name := fmt.Sprintf("op %d with %d as ", op, other)
			add(name+"A", e, at, func(n *impl.ExprNode) { n.A = other })
			if op < impl.ExAdd || other != 1 {
				add(name+"B", e, at, func(n *impl.ExprNode) { n.B = other })
			}
			if op != impl.ExColumn || other != 1 && other != 2 {
				add(name+"Column", e, at, func(n *impl.ExprNode) { n.Column = other })
			}
			if op != impl.ExConst {
				add(name+"N", e, at, func(n *impl.ExprNode) { n.V.N = other })
				add(name+"Kind", e, at, func(n *impl.ExprNode) { n.V.Kind = other })
				add(name+"V", e, at, func(n *impl.ExprNode) { n.V = number(0) })
				add(name+"T", e, at, func(n *impl.ExprNode) { n.V.T = "a" })
			}
		}
	}
	return all
}

func wrongExprs() map[string]impl.Expr {
	all := wrongForms()
	for name, e := range wrongNodes() {
		all[name] = e
	}
	return all
}

func TestExpressionsThatAreRight(t *testing.T) {
	for name, e := range rightExprs() {
		if !impl.ExprOK(e) || !plainExprOK(e) {
			t.Errorf("%s: not right: %s", name, tellExpr(e))
		}
		checkParsed(t, plainText(e), e)
	}
}

// TestExpressionsThatAreNotRight: no call takes them, whatever the row is.
func TestExpressionsThatAreNotRight(t *testing.T) {
	for name, e := range wrongExprs() {
		if impl.ExprOK(e) || plainExprOK(e) {
			t.Errorf("%s: right: %.2000s", name, tellExpr(e))
		}
		if text, code := impl.ExprText(e); text != "" || code != impl.ErrBad {
			t.Errorf("%s: ExprText %q, code %d", name, text, code)
		}
		for _, r := range []impl.Row{{}, row(1, 2), {Id: -1}, {Id: 1001, N: word("a")}} {
			if v, code := impl.EvalExpr(e, r); v != none || code != impl.ErrBad {
				t.Errorf("%s: EvalExpr %v, code %d", name, v, code)
			}
		}
	}
}

// TestAllShortExpressions: all lists of up to three nodes out of many, held against the plain conditions.
func TestAllShortExpressions(t *testing.T) {
	t.Parallel()
	var some []impl.ExprNode
	for _, op := range []int{0, impl.ExConst, impl.ExColumn, impl.ExIsNull, impl.ExLt} {
		for a := -1; a < 3; a++ {
			for b := -1; b < 3; b++ {
				some = append(some, joinNode(op, a, b))
			}
		}
	}
	right := 0
	check := func(nodes ...impl.ExprNode) {
		e := exprOf(nodes...)
		if impl.ExprOK(e) != plainExprOK(e) {
			t.Fatalf("right is %v: %s", impl.ExprOK(e), tellExpr(e))
		}
		if impl.ExprOK(e) {
			right++
		}
	}
	for _, a := range some {
		check(a)
		for _, b := range some {
			check(a, b)
			for _, c := range some {
				check(a, b, c)
			}
		}
	}
	// Two leaves, of which ExIsNull is one or two deep, and ExLt of two.
	if right != 2+2+2+4 {
		t.Errorf("%d are right", right)
	}
}

// editedExpr is an expression with one number changed, or a node more, fewer or twice.
func (x *dice) editedExpr(e impl.Expr) impl.Expr {
	e.Nodes = slices.Clone(e.Nodes)
	at := x.below(len(e.Nodes))
	n := &e.Nodes[at]
	switch x.below(9) {
	case 0:
		n.Op = x.below(16) - 1
	case 1:
		n.A += x.below(5) - 2
	case 2:
		n.B += x.below(5) - 2
	case 3:
		n.Column = x.below(5) - 1
	case 4:
		n.V = []impl.Value{none, number(0), word("a"), {N: 1}, {Kind: 3}}[x.below(5)]
	case 5:
		e.Nodes = slices.Delete(e.Nodes, at, at+1)
	case 6:
		e.Nodes = slices.Insert(e.Nodes, at, *n)
	case 7:
		other := x.below(len(e.Nodes))
		e.Nodes[at], e.Nodes[other] = e.Nodes[other], e.Nodes[at]
	}
	return e
}

// TestRunsOfExpressions: right ones and others near them, held against the plain conditions.
func TestRunsOfExpressions(t *testing.T) {
	t.Parallel()
	x := dice(31)
	rights, wrongs := 0, 0
	for range 40000 {
		e := x.expr(1+x.below(44), 1+x.below(14))
		for range x.below(3) {
			if len(e.Nodes) > 0 {
				e = x.editedExpr(e)
			}
		}
		want := plainExprOK(e)
		if impl.ExprOK(e) != want {
			t.Fatalf("right is %v: %s", !want, tellExpr(e))
		}
		text, code := impl.ExprText(e)
		if want {
			rights++
			if text != plainText(e) || code != impl.OK {
				t.Fatalf("ExprText: %q, code %d, want %q", text, code, plainText(e))
			}
			continue
		}
		wrongs++
		if text != "" || code != impl.ErrBad {
			t.Fatalf("ExprText: %q, code %d: %s", text, code, tellExpr(e))
		}
	}
	if rights < 5000 || wrongs < 5000 {
		t.Errorf("%d right ones, %d others", rights, wrongs)
	}
}
