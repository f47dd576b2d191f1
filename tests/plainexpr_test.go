package tests

import (
	"fmt"
	"regexp"
	"slices"
	"strconv"
	"strings"

	"loop.example/g00332/impl"
)

// Expressions made node by node, with no reading of a text.

func exprOf(nodes ...impl.ExprNode) impl.Expr { return impl.Expr{Nodes: nodes} }

func constNode(v impl.Value) impl.ExprNode { return impl.ExprNode{Op: impl.ExConst, V: v} }

func columnNode(n int) impl.ExprNode { return impl.ExprNode{Op: impl.ExColumn, Column: n} }

func joinNode(op, a, b int) impl.ExprNode { return impl.ExprNode{Op: op, A: a, B: b} }

func valueExpr(v impl.Value) impl.Expr { return exprOf(constNode(v)) }

func columnExpr(n int) impl.Expr { return exprOf(columnNode(n)) }

func unaryExpr(op int, a impl.Expr) impl.Expr {
	return exprOf(append(slices.Clone(a.Nodes), joinNode(op, len(a.Nodes)-1, 0))...)
}

func binaryExpr(op int, a, b impl.Expr) impl.Expr {
	nodes := slices.Clone(a.Nodes)
	for _, n := range b.Nodes {
		if n.Op >= impl.ExNot {
			n.A += len(a.Nodes)
		}
		if n.Op >= impl.ExAdd {
			n.B += len(a.Nodes)
		}
		nodes = append(nodes, n)
	}
	return exprOf(append(nodes, joinNode(op, len(a.Nodes)-1, len(nodes)-1))...)
}

func unaryTimes(op, n int, e impl.Expr) impl.Expr {
	for range n {
		e = unaryExpr(op, e)
	}
	return e
}

func unaryOps() []int { return []int{impl.ExNot, impl.ExIsNull, impl.ExNeg} }

func binaryOps() []int {
	return []int{impl.ExAdd, impl.ExSub, impl.ExMul, impl.ExDiv, impl.ExEq, impl.ExLt, impl.ExAnd, impl.ExOr}
}

func sameExpr(a, b impl.Expr) bool { return slices.Equal(a.Nodes, b.Nodes) }

// tellExpr tells nil and an empty list alike: they are the same value.
func tellExpr(e impl.Expr) string {
	told := ""
	for i, n := range e.Nodes {
		told += fmt.Sprintf("\n%d: op %d a %d b %d column %d value %.40v", i, n.Op, n.A, n.B, n.Column, n.V)
	}
	return told
}

// signOf is the sign between two parts, levelOf what it binds by: the more, the tighter.
func signOf(op int) string {
	return []string{"", "", "", "not", "is", "-", "+", "-", "*", "/", "=", "<", "and", "or"}[op]
}

func levelOf(op int) int {
	return []int{0, 8, 8, 3, 4, 7, 5, 5, 6, 6, 4, 4, 2, 1}[op]
}

var plainToken = regexp.MustCompile(`^(?:[a-z][a-z0-9]*|[0-9]+|'[a-z]*'|[-()+*/=<,])`)

// plainLex says what tokens are once more.
func plainLex(t string) ([]string, int) {
	if len(t) > 65536 {
		return nil, impl.ErrLong
	}
	var list []string
	for {
		t = strings.TrimLeft(t, " ")
		token := plainToken.FindString(t)
		switch {
		case t == "":
			return list, impl.OK
		case token == "":
			return nil, impl.ErrForm
		case len(list) == 500:
			return nil, impl.ErrMany
		}
		list = append(list, token)
		t = t[len(token):]
	}
}

// plainParser reads by levels that bind: what a sign joins must bind as much as the sign does. It panics with a code.
type plainParser struct {
	tokens []string
	nodes  []impl.ExprNode
	open   int
}

func plainParse(t string) (e impl.Expr, code int) {
	tokens, code := plainLex(t)
	if code != impl.OK {
		return impl.Expr{}, code
	}
	defer func() {
		if r := recover(); r != nil {
			e, code = impl.Expr{}, r.(int)
		}
	}()
	p := plainParser{tokens: tokens}
	p.read(1)
	if plainDepth(p.nodes) > 12 {
		return impl.Expr{}, impl.ErrDepth
	}
	if len(p.tokens) > 0 {
		return impl.Expr{}, impl.ErrForm
	}
	return exprOf(p.nodes...), impl.OK
}

func (p *plainParser) peek() string {
	if len(p.tokens) == 0 {
		return ""
	}
	return p.tokens[0]
}

func (p *plainParser) take() string {
	token := p.peek()
	p.tokens = p.tokens[min(1, len(p.tokens)):]
	return token
}

func (p *plainParser) need(is bool) {
	if !is {
		panic(impl.ErrForm)
	}
}

func (p *plainParser) add(n impl.ExprNode) int {
	if len(p.nodes) == 40 {
		panic(impl.ErrMany)
	}
	p.nodes = append(p.nodes, n)
	return len(p.nodes) - 1
}

func (p *plainParser) inside(least int) int {
	if p.open++; p.open > 48 {
		panic(impl.ErrDepth)
	}
	place := p.read(least)
	p.open--
	return place
}

// read answers the place of the last node of what binds by least or more.
func (p *plainParser) read(least int) int {
	place, bound := p.first(least)
	for {
		op := slices.Index([]string{"is", "", "+", "-", "*", "/", "=", "<", "and", "or"}, p.peek()) + impl.ExIsNull
		if p.peek() == "" || op < impl.ExIsNull {
			return place
		}
		level := levelOf(op)
		if level < least || bound < level || level == 4 && bound == 4 {
			return place
		}
		p.take()
		if op == impl.ExIsNull {
			p.need(p.take() == "null")
			place = p.add(joinNode(op, place, 0))
		} else {
			place = p.add(joinNode(op, place, p.read(level+1)))
		}
		bound = level
	}
}

// first answers a place, and by what it binds.
func (p *plainParser) first(least int) (int, int) {
	token := p.take()
	switch column := slices.Index([]string{"id", "n", "name"}, token); {
	case column >= 0:
		return p.add(columnNode(column)), 8
	case token == "(":
		place := p.inside(1)
		p.need(p.take() == ")")
		return place, 8
	case token == "not":
		p.need(least <= 3)
		return p.add(joinNode(impl.ExNot, p.inside(3), 0)), 3
	case token == "-" && isPlainNumber(p.peek()) && p.peek() != "0":
		n, _ := strconv.Atoi(p.take())
		return p.add(constNode(number(-n))), 8
	case token == "-":
		return p.add(joinNode(impl.ExNeg, p.inside(7), 0)), 7
	}
	return p.add(constNode(p.value(token))), 8
}

func (p *plainParser) value(token string) impl.Value {
	switch {
	case token == "null":
		return none
	case isPlainNumber(token):
		n, _ := strconv.Atoi(token)
		return number(n)
	}
	p.need(plainWord.MatchString(token))
	return word(strings.Trim(token, "'"))
}

var plainWord = regexp.MustCompile(`^'[a-z]{0,10}'$`)

var plainNumber = regexp.MustCompile(`^(?:0|[1-9][0-9]{0,8}|1000000000)$`)

func isPlainNumber(token string) bool { return plainNumber.MatchString(token) }

func plainDepth(nodes []impl.ExprNode) int {
	depths := make([]int, len(nodes))
	for i, n := range nodes {
		depths[i] = 1
		if n.Op >= impl.ExNot {
			depths[i] = 1 + depths[n.A]
		}
		if n.Op >= impl.ExAdd {
			depths[i] = 1 + max(depths[n.A], depths[n.B])
		}
	}
	return depths[len(nodes)-1]
}

// plainExprOK says the chapter's conditions once more, from the first node on: ends are those of parts that nothing has
// joined yet.
func plainExprOK(e impl.Expr) bool {
	if len(e.Nodes) > 40 {
		return false
	}
	var ends []int
	for i, n := range e.Nodes {
		want := impl.ExprNode{Op: n.Op}
		switch {
		case n.Op == 1 && impl.ValueOK(n.V):
			want.V = n.V
		case n.Op == 2 && n.Column >= 0 && n.Column <= 2:
			want.Column = n.Column
		case n.Op >= 3 && n.Op <= 5 && len(ends) > 0:
			want.A = ends[len(ends)-1]
			ends = ends[:len(ends)-1]
		case n.Op >= 6 && n.Op <= 13 && len(ends) > 1:
			want.A, want.B = ends[len(ends)-2], ends[len(ends)-1]
			ends = ends[:len(ends)-2]
		default:
			return false
		}
		if n != want {
			return false
		}
		ends = append(ends, i)
	}
	return len(ends) == 1 && plainDepth(e.Nodes) <= 12
}

// plainTexts are the texts of all parts of a right expression, by their last nodes.
func plainTexts(e impl.Expr) []string {
	texts := make([]string, len(e.Nodes))
	for i, n := range e.Nodes {
		switch {
		case n.Op == impl.ExConst:
			texts[i] = plainValueText(n.V)
		case n.Op == impl.ExColumn:
			texts[i] = []string{"id", "n", "name"}[n.Column]
		case n.Op == impl.ExNot:
			texts[i] = fmt.Sprintf("(not %s)", texts[n.A])
		case n.Op == impl.ExIsNull:
			texts[i] = fmt.Sprintf("(%s is null)", texts[n.A])
		case n.Op == impl.ExNeg:
			texts[i] = fmt.Sprintf("(- (%s))", texts[n.A])
		default:
			texts[i] = fmt.Sprintf("(%s %s %s)", texts[n.A], signOf(n.Op), texts[n.B])
		}
	}
	return texts
}

func plainText(e impl.Expr) string { return plainTexts(e)[len(e.Nodes)-1] }

func plainValueText(v impl.Value) string {
	switch v.Kind {
	case impl.VaInt:
		return fmt.Sprint(v.N)
	case impl.VaText:
		return "'" + v.T + "'"
	}
	return "null"
}

// spelt are the tokens of a right expression with as few brackets as there can be; more of them say the same, and stand
// where extra says so.
func spelt(e impl.Expr, extra func() bool) []string {
	tokens, _ := speltAt(e, len(e.Nodes)-1, extra)
	return tokens
}

func speltAt(e impl.Expr, at int, extra func() bool) ([]string, int) {
	n := e.Nodes[at]
	inner := func(at, least int) []string {
		tokens, level := speltAt(e, at, extra)
		// A sign ahead of digits would be theirs.
		if level < least || extra() || n.Op == impl.ExNeg && isPlainNumber(tokens[0]) && tokens[0] != "0" {
			return slices.Concat([]string{"("}, tokens, []string{")"})
		}
		return tokens
	}
	level := levelOf(n.Op)
	switch {
	case n.Op == impl.ExConst && n.V.Kind == impl.VaInt && n.V.N < 0:
		return []string{"-", fmt.Sprint(-n.V.N)}, level
	case n.Op == impl.ExConst:
		return []string{plainValueText(n.V)}, level
	case n.Op == impl.ExColumn:
		return []string{[]string{"id", "n", "name"}[n.Column]}, level
	case n.Op == impl.ExIsNull:
		return append(inner(n.A, 5), "is", "null"), level
	case n.Op < impl.ExAdd:
		return slices.Concat([]string{signOf(n.Op)}, inner(n.A, level)), level
	}
	return slices.Concat(inner(n.A, pick(level == 4, 5, level)), []string{signOf(n.Op)}, inner(n.B, level+1)), level
}

// written are tokens as a text, with blanks where tokens would be read as one, and where the dice say so.
func (x *dice) written(tokens []string) string {
	text := ""
	for i, token := range tokens {
		if i > 0 && meets(tokens[i-1], token) || x.below(2) == 0 {
			text += strings.Repeat(" ", 1+x.below(2))
		}
		text += token
	}
	return text
}

// meets: with nothing between them they would be read otherwise.
func meets(a, b string) bool {
	whole, code := plainLex(a + b)
	return code != impl.OK || !slices.Equal(whole, []string{a, b})
}

func (x *dice) leafExpr() impl.Expr {
	switch x.below(6) {
	case 0, 1:
		return columnExpr(x.below(3))
	case 2:
		return valueExpr([]impl.Value{none, word(""), word("ab"), word("null"), word("zzzzzzzzzz")}[x.below(5)])
	case 3:
		return valueExpr(number([]int{impl.MaxNumber, -impl.MaxNumber, impl.MaxNumber - 1, 1 - impl.MaxNumber}[x.below(4)]))
	}
	return valueExpr(number(x.below(7) - 3))
}

// expr is a right expression of at most so many nodes, at most so deep.
func (x *dice) expr(nodes, deep int) impl.Expr {
	switch {
	case nodes == 1 || deep == 1:
		return x.leafExpr()
	case nodes == 2 || x.below(4) == 0:
		return unaryExpr(unaryOps()[x.below(3)], x.expr(nodes-1, deep-1))
	}
	left := 1 + x.below(nodes-2)
	return binaryExpr(binaryOps()[x.below(8)], x.expr(left, deep-1), x.expr(nodes-1-left, deep-1))
}

// plainBinary says what values make once more, op by op.
func plainBinary(op int, a, b impl.Value) (impl.Value, int) {
	if !impl.ValueOK(a) || !impl.ValueOK(b) {
		return impl.Value{}, impl.ErrBad
	}
	kinds := fmt.Sprint(a.Kind, b.Kind)
	words, nothing := strings.Contains(kinds, "2"), strings.Contains(kinds, "0")
	switch op {
	case impl.ExAnd:
		switch {
		case words:
			return impl.Value{}, impl.ErrType
		case a == number(0) || b == number(0):
			return number(0), impl.OK
		case nothing:
			return none, impl.OK
		}
		return number(1), impl.OK
	case impl.ExOr:
		switch {
		case words:
			return impl.Value{}, impl.ErrType
		case a.N != 0 || b.N != 0:
			return number(1), impl.OK
		case nothing:
			return none, impl.OK
		}
		return number(0), impl.OK
	case impl.ExEq, impl.ExLt:
		switch {
		case nothing:
			return none, impl.OK
		case kinds == "1 2" || kinds == "2 1":
			return impl.Value{}, impl.ErrType
		}
		order := a.N - b.N + strings.Compare(a.T, b.T)
		return number(pick(op == impl.ExEq && order == 0 || op == impl.ExLt && order < 0, 1, 0)), impl.OK
	case impl.ExAdd, impl.ExSub, impl.ExMul, impl.ExDiv:
		switch {
		case words:
			return impl.Value{}, impl.ErrType
		case nothing:
			return none, impl.OK
		}
		return plainReckoned(op, a.N, b.N)
	}
	return impl.Value{}, impl.ErrRange
}

func plainReckoned(op, a, b int) (impl.Value, int) {
	if op == impl.ExDiv && b == 0 {
		return impl.Value{}, impl.ErrZero
	}
	n := 0
	switch op {
	case impl.ExAdd:
		n = a + b
	case impl.ExSub:
		n = a - b
	case impl.ExMul:
		n = a * b
	case impl.ExDiv:
		n = max(a, -a) / max(b, -b)
		if (a < 0) != (b < 0) {
			n = -n
		}
	}
	if n > 1000000000 || n < -1000000000 {
		return impl.Value{}, impl.ErrOver
	}
	return number(n), impl.OK
}

func plainUnary(op int, v impl.Value) (impl.Value, int) {
	switch {
	case op == impl.ExIsNull && v == none:
		return number(1), impl.OK
	case op == impl.ExIsNull:
		return number(0), impl.OK
	case v.Kind == impl.VaText:
		return impl.Value{}, impl.ErrType
	case v == none:
		return none, impl.OK
	case op == impl.ExNeg:
		return number(-v.N), impl.OK
	case v.N == 0:
		return number(1), impl.OK
	}
	return number(0), impl.OK
}

// plainEval is the value of the part whose last node stands at a place of a right expression.
func plainEval(e impl.Expr, at int, r impl.Row) (impl.Value, int) {
	n := e.Nodes[at]
	switch n.Op {
	case impl.ExConst:
		return n.V, impl.OK
	case impl.ExColumn:
		return []impl.Value{number(r.Id), r.N, r.Name}[n.Column], impl.OK
	}
	a, code := plainEval(e, n.A, r)
	switch {
	case code != impl.OK:
		return impl.Value{}, code
	case n.Op < impl.ExAdd:
		return plainUnary(n.Op, a)
	case n.Op == impl.ExAnd && a == number(0):
		return number(0), impl.OK
	case n.Op == impl.ExOr && a.N != 0:
		return number(1), impl.OK
	}
	b, code := plainEval(e, n.B, r)
	if code != impl.OK {
		return impl.Value{}, code
	}
	return plainBinary(n.Op, a, b)
}
