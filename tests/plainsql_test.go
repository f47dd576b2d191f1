package tests

import (
	"cmp"
	"fmt"
	"slices"
	"strconv"

	"loop.example/g00332/impl"
)

// Statements made field by field, with no reading of a text.

func selectOf(table int, where impl.Expr, order int, down bool) impl.Stmt {
	return impl.Stmt{Kind: impl.StSelect, Table: table, Where: where, Order: order, Down: down}
}

func insertOf(table int, r impl.Row) impl.Stmt {
	return impl.Stmt{Kind: impl.StInsert, Table: table, Row: r}
}

func updateOf(table, column int, set, where impl.Expr) impl.Stmt {
	return impl.Stmt{Kind: impl.StUpdate, Table: table, Column: column, Set: set, Where: where}
}

func deleteOf(table int, where impl.Expr) impl.Stmt {
	return impl.Stmt{Kind: impl.StDelete, Table: table, Where: where}
}

// lacking is the Where that a statement lacks.
var lacking = impl.Expr{}

func tellStmt(s impl.Stmt) string {
	return fmt.Sprintf("kind %d table %d row %s column %d order %d down %v\nset %.2000s\nwhere %.2000s", s.Kind, s.Table, tellRow(s.Row), s.Column, s.Order, s.Down, tellExpr(s.Set), tellExpr(s.Where))
}

func tellRow(r impl.Row) string { return fmt.Sprintf("%.100s", fmt.Sprint(r)) }

// sameStmt holds nil and an empty list for alike: they are the same value.
func sameStmt(a, b impl.Stmt) bool {
	return a.Kind == b.Kind && a.Table == b.Table && a.Row == b.Row && a.Column == b.Column && a.Order == b.Order && a.Down == b.Down && sameExpr(a.Set, b.Set) && sameExpr(a.Where, b.Where)
}

func isPlainRow(r impl.Row) bool {
	_, code := impl.RowBytes(1, r)
	return code == impl.OK
}

// plainStmtOK says the chapter's conditions once more, by the names of what a statement has.
func plainStmtOK(s impl.Stmt) bool {
	has := map[string]bool{"row": s.Row != impl.Row{}, "column": s.Column != 0, "set": len(s.Set.Nodes) > 0, "where": len(s.Where.Nodes) > 0, "order": s.Order != 0, "down": s.Down}
	named := map[int][]string{1: {"where", "order", "down"}, 2: {"row"}, 3: {"column", "set", "where"}, 4: {"where"}}[s.Kind]
	for name, is := range has {
		if is && !slices.Contains(named, name) {
			return false
		}
	}
	switch {
	case named == nil, s.Table < 1, s.Table > 3, s.Order < 0, s.Order > 2:
		return false
	case has["where"] && !plainExprOK(s.Where):
		return false
	case s.Kind == 2:
		return isPlainRow(s.Row)
	case s.Kind == 3:
		return (s.Column == 1 || s.Column == 2) && plainExprOK(s.Set)
	}
	return true
}

func plainColumn(column int) string { return []string{"id", "n", "name"}[column] }

// plainStmtText is the text of a right statement.
func plainStmtText(s impl.Stmt) string {
	text := fmt.Sprintf("%s %d", []string{"", "select", "insert", "update", "delete"}[s.Kind], s.Table)
	if s.Kind == impl.StInsert {
		text += fmt.Sprintf(" %d %s %s", s.Row.Id, plainValueText(s.Row.N), plainValueText(s.Row.Name))
	}
	if s.Kind == impl.StUpdate {
		text += fmt.Sprintf(" set %s = %s", plainColumn(s.Column), plainText(s.Set))
	}
	if len(s.Where.Nodes) > 0 {
		text += " where " + plainText(s.Where)
	}
	switch {
	case s.Down:
		text += " order " + plainColumn(s.Order) + " desc"
	case s.Order != 0:
		text += " order " + plainColumn(s.Order)
	}
	return text
}

// plainSql reads a statement from the left on, as plainParse an expression.
func plainSql(t string) (s impl.Stmt, code int) {
	tokens, code := plainLex(t)
	if code != impl.OK {
		return impl.Stmt{}, code
	}
	defer func() {
		if r := recover(); r != nil {
			s, code = impl.Stmt{}, r.(int)
		}
	}()
	p := plainParser{tokens: tokens}
	s.Kind = 1 + slices.Index([]string{"select", "insert", "update", "delete"}, p.take())
	p.need(s.Kind > 0)
	s.Table = 1 + slices.Index([]string{"1", "2", "3"}, p.take())
	p.need(s.Table > 0)
	if s.Kind == impl.StInsert {
		id := p.signed()
		s.Row = impl.Row{Id: id.N, N: p.signed(), Name: p.signed()}
		p.need(id.Kind == impl.VaInt && isPlainRow(s.Row))
	}
	if s.Kind == impl.StUpdate {
		p.need(p.take() == "set")
		s.Column = p.column(1)
		p.need(p.take() == "=")
		s.Set = p.whole()
	}
	if s.Kind != impl.StInsert && p.peek() == "where" {
		p.take()
		s.Where = p.whole()
	}
	if s.Kind == impl.StSelect && p.peek() == "order" {
		p.take()
		s.Order = p.column(0)
		if s.Down = p.peek() == "desc"; s.Down {
			p.take()
		}
	}
	p.need(len(p.tokens) == 0)
	return s, impl.OK
}

// signed is a value, perhaps a number below 0.
func (p *plainParser) signed() impl.Value {
	if p.peek() != "-" {
		return p.value(p.take())
	}
	p.take()
	p.need(isPlainNumber(p.peek()) && p.peek() != "0")
	n, _ := strconv.Atoi(p.take())
	return number(-n)
}

func (p *plainParser) column(least int) int {
	column := slices.Index([]string{"id", "n", "name"}, p.take())
	if column < least {
		panic(impl.ErrColumn)
	}
	return column
}

// whole is an expression of its own, with nodes of its own, up to what it leaves.
func (p *plainParser) whole() impl.Expr {
	inner := plainParser{tokens: p.tokens}
	inner.read(1)
	if plainDepth(inner.nodes) > 12 {
		panic(impl.ErrDepth)
	}
	p.tokens = inner.tokens
	return exprOf(inner.nodes...)
}

// plainRowsCode is what a list of rows is refused for.
func plainRowsCode(rows []impl.Row) int {
	switch {
	case len(rows) > 4096:
		return impl.ErrLong
	case len(rows) > 100:
		return impl.ErrMany
	}
	for i, r := range rows {
		if !isPlainRow(r) || i > 0 && rows[i-1].Id >= r.Id {
			return impl.ErrBad
		}
	}
	return impl.OK
}

// plainSorted sorts by keys, which are ordered as their values are.
func plainSorted(rows []impl.Row, column int, down bool) []impl.Row {
	key := func(r impl.Row) string {
		return keyOf([]impl.Value{number(r.Id), r.N, r.Name}[column], number(r.Id))
	}
	rows = slices.Clone(rows)
	slices.SortFunc(rows, func(a, b impl.Row) int { return cmp.Compare(key(a), key(b)) })
	if down {
		slices.Reverse(rows)
	}
	return rows
}

// plainDenote says what a statement means once more: first what becomes of each row, then what is told of that.
func plainDenote(rows []impl.Row, s impl.Stmt) ([]impl.Row, impl.Answer, int) {
	code := plainRowsCode(rows)
	if code == impl.OK && !plainStmtOK(s) {
		code = impl.ErrBad
	}
	after, meant := map[int]impl.Row{}, []impl.Row{}
	for _, r := range rows {
		if code == impl.OK {
			code = plainDenoteRow(r, s, after, &meant)
		}
	}
	a := impl.Answer{Count: len(meant)}
	if code == impl.OK && s.Kind == impl.StInsert {
		if _, is := after[s.Row.Id]; is {
			code = impl.ErrKey
		}
		after[s.Row.Id], a.Count = s.Row, 1
	}
	if code != impl.OK {
		return slices.Clone(rows), impl.Answer{}, code
	}
	if s.Kind == impl.StSelect {
		a.Rows = plainSorted(meant, s.Order, s.Down)
	}
	var now []impl.Row
	for id := range 1001 {
		if r, is := after[id]; is {
			now = append(now, r)
		}
	}
	return now, a, impl.OK
}

// plainDenoteRow notes what comes of a row, and that it is meant.
func plainDenoteRow(r impl.Row, s impl.Stmt, after map[int]impl.Row, meant *[]impl.Row) int {
	after[r.Id] = r
	if s.Kind == impl.StInsert {
		return impl.OK
	}
	if len(s.Where.Nodes) > 0 {
		v, code := plainEval(s.Where, len(s.Where.Nodes)-1, r)
		switch {
		case code != impl.OK:
			return code
		case v.Kind == impl.VaText:
			return impl.ErrType
		case v == none || v == number(0):
			return impl.OK
		}
	}
	*meant = append(*meant, r)
	switch s.Kind {
	case impl.StDelete:
		delete(after, r.Id)
	case impl.StUpdate:
		v, code := plainEval(s.Set, len(s.Set.Nodes)-1, r)
		if code != impl.OK {
			return code
		}
		*[]*impl.Value{nil, &r.N, &r.Name}[s.Column] = v
		if !isPlainRow(r) {
			return impl.ErrType
		}
		after[r.Id] = r
	}
	return impl.OK
}

// row has values of all kinds that it may have.
func (x *dice) row(id int) impl.Row {
	numbers := []impl.Value{none, none, number(-3), number(-1), number(0), number(0), number(1), number(2), number(5), number(impl.MaxNumber), number(-impl.MaxNumber)}
	words := []impl.Value{none, none, word(""), word("a"), word("ab"), word("b"), word("zzzzzzzzzz")}
	return impl.Row{Id: id, N: numbers[x.below(len(numbers))], Name: words[x.below(len(words))]}
}

// rows rise by Id; there are at most so many.
func (x *dice) rows(most int) []impl.Row {
	var rows []impl.Row
	for id, n := x.below(3), x.below(most+1); len(rows) < n; id += 1 + x.below(3) {
		rows = append(rows, x.row(id))
	}
	return rows
}

// stmt is a right statement, with expressions of at most so many nodes.
func (x *dice) stmt(nodes int) impl.Stmt {
	expr := func() impl.Expr { return x.expr(1+x.below(nodes), impl.MaxDepth) }
	where := lacking
	if x.below(3) > 0 {
		where = expr()
	}
	table := 1 + x.below(impl.MaxTables)
	switch x.below(4) {
	case 0:
		return selectOf(table, where, x.below(3), x.below(2) == 0)
	case 1:
		return insertOf(table, x.row([]int{0, 1, 2, 3, 5, 999, 1000}[x.below(7)]))
	case 2:
		return updateOf(table, 1+x.below(2), expr(), where)
	}
	return deleteOf(table, where)
}
