package tests

import (
	"fmt"
	"math"
	"slices"
	"strings"
	"testing"

	"loop.example/g00332/impl"
)

func TestStatementConstants(t *testing.T) {
	if impl.StSelect != 1 || impl.StInsert != 2 || impl.StUpdate != 3 || impl.StDelete != 4 {
		t.Error("constants of chapter 13")
	}
}

// fortyNodes is as great as an expression may be.
func fortyNodes() impl.Expr { return unaryExpr(impl.ExNot, bushy(impl.ExAnd, 20)) }

// oneOfEachKind have what they need, and nothing else.
func oneOfEachKind() map[int]impl.Stmt {
	return map[int]impl.Stmt{
		impl.StSelect: selectOf(1, lacking, 0, false),
		impl.StInsert: insertOf(1, row(5, 6)),
		impl.StUpdate: updateOf(1, 1, sum(), lacking),
		impl.StDelete: deleteOf(1, lacking),
	}
}

func rightStmts() map[string]impl.Stmt {
	all := map[string]impl.Stmt{}
	for table := 1; table <= impl.MaxTables; table++ {
		for kind, s := range oneOfEachKind() {
			s.Table = table
			all[fmt.Sprintf("kind %d of table %d", kind, table)] = s
		}
	}
	for column := range 3 {
		for _, down := range []bool{false, true} {
			all[fmt.Sprint("select by ", column, down)] = selectOf(1, lacking, column, down)
			all[fmt.Sprint("select with a Where by ", column, down)] = selectOf(2, sum(), column, down)
		}
	}
	for name, e := range rightExprs() {
		all["select with "+name] = selectOf(3, e, 0, false)
		all["set of "+name] = updateOf(2, 1, e, lacking)
		all["set of a word of "+name] = updateOf(2, 2, e, columnExpr(1))
		all["update with "+name] = updateOf(3, 2, sum(), e)
		all["delete with "+name] = deleteOf(3, e)
	}
	for i, r := range rightRows() {
		all[fmt.Sprint("insert of row ", i)] = insertOf(1, r)
	}
	all["insert of nothing but 0"] = insertOf(1, impl.Row{})
	all["of the most nodes twice"] = updateOf(3, 2, fortyNodes(), fortyNodes())
	all["with an empty list for a Where"] = selectOf(1, exprOf([]impl.ExprNode{}...), 0, false)
	all["with empty lists"] = impl.Stmt{Kind: impl.StDelete, Table: 1, Set: exprOf([]impl.ExprNode{}...), Where: exprOf([]impl.ExprNode{}...)}
	return all
}

// stmtPart is something of a statement, and which kinds, without it so far, are right with it too.
type stmtPart struct {
	named []int
	set   func(s *impl.Stmt)
}

func partsOfStmts() map[string]stmtPart {
	noKind := []int(nil)
	return map[string]stmtPart{
		"a Row's Id":              {noKind, func(s *impl.Stmt) { s.Row.Id = 1 }},
		"a Row's Id below 0":      {noKind, func(s *impl.Stmt) { s.Row.Id = -1 }},
		"a Row's N":               {noKind, func(s *impl.Stmt) { s.Row.N = number(0) }},
		"a Row's N that is none":  {noKind, func(s *impl.Stmt) { s.Row.N.N = 1 }},
		"a Row's Name":            {noKind, func(s *impl.Stmt) { s.Row.Name = word("") }},
		"a Row's Name of no kind": {noKind, func(s *impl.Stmt) { s.Row.Name.T = "a" }},
		"a Column":                {noKind, func(s *impl.Stmt) { s.Column = 1 }},
		"the last Column":         {noKind, func(s *impl.Stmt) { s.Column = 2 }},
		"a Column below 0":        {noKind, func(s *impl.Stmt) { s.Column = -1 }},
		"a Set":                   {noKind, func(s *impl.Stmt) { s.Set = sum() }},
		"a Set of one node":       {noKind, func(s *impl.Stmt) { s.Set = valueExpr(none) }},
		"a Set that is not right": {noKind, func(s *impl.Stmt) { s.Set = exprOf(impl.ExprNode{}) }},
		"a Where":                 {[]int{1, 3, 4}, func(s *impl.Stmt) { s.Where = sum() }},
		"a Where of one node":     {[]int{1, 3, 4}, func(s *impl.Stmt) { s.Where = valueExpr(none) }},
		"an Order":                {[]int{1}, func(s *impl.Stmt) { s.Order = 1 }},
		"the last Order":          {[]int{1}, func(s *impl.Stmt) { s.Order = 2 }},
		"Down":                    {[]int{1}, func(s *impl.Stmt) { s.Down = true }},
	}
}

// hasPart: the kind has that already, with another value.
func hasPart(kind int, name string) bool {
	return kind == impl.StInsert && strings.HasPrefix(name, "a Row") || kind == impl.StUpdate && (name == "a Column" || name == "the last Column" || name == "a Set" || name == "a Set of one node")
}

func wrongStmts() map[string]impl.Stmt {
	all := map[string]impl.Stmt{"nothing": {}, "a table alone": {Table: 1}}
	add := func(name string, s impl.Stmt, change func(s *impl.Stmt)) {
		change(&s)
		all[name] = s
	}
	for kind, s := range oneOfEachKind() {
		name := fmt.Sprintf("kind %d ", kind)
		for part, p := range partsOfStmts() {
			if !slices.Contains(p.named, kind) && !hasPart(kind, part) {
				add(name+"with "+part, s, p.set)
			}
		}
		for _, table := range wrongTables() {
			add(fmt.Sprint(name, "of table ", table), s, func(s *impl.Stmt) { s.Table = table })
		}
		for _, other := range []int{math.MinInt, -1, 0, 5, 6, 256 + kind, math.MaxInt} {
			add(fmt.Sprint(name, "as kind ", other), s, func(s *impl.Stmt) { s.Kind = other })
		}
		for _, order := range []int{math.MinInt, -1, 3, 256, math.MaxInt} {
			add(fmt.Sprint(name, "by ", order), s, func(s *impl.Stmt) { s.Order = order })
		}
		for wrong, e := range wrongForms() {
			if len(e.Nodes) > 0 {
				add(name+"with a Where of "+wrong, s, func(s *impl.Stmt) { s.Where = e })
			}
			if len(e.Nodes) > 0 || kind == impl.StUpdate {
				add(name+"with a Set of "+wrong, s, func(s *impl.Stmt) { s.Set = e })
			}
		}
	}
	for name, e := range wrongNodes() {
		all["where "+name] = deleteOf(1, e)
		all["set "+name] = updateOf(1, 1, e, lacking)
	}
	for _, column := range []int{math.MinInt, -1, 0, 3, 257, math.MaxInt} {
		all[fmt.Sprint("a set of column ", column)] = updateOf(1, column, sum(), lacking)
	}
	for i, r := range wrongRows() {
		all[fmt.Sprint("an insert of row ", i)] = insertOf(1, r)
	}
	return all
}

// TestStatementsThatAreRight: also with each part that a kind names, set alone.
func TestStatementsThatAreRight(t *testing.T) {
	all := rightStmts()
	for kind, s := range oneOfEachKind() {
		for part, p := range partsOfStmts() {
			if slices.Contains(p.named, kind) {
				with := s
				p.set(&with)
				all[fmt.Sprintf("kind %d with %s", kind, part)] = with
			}
		}
	}
	for name, s := range all {
		if !impl.StmtOK(s) || !plainStmtOK(s) {
			t.Errorf("%s: not right: %s", name, tellStmt(s))
		}
	}
}

// TestStatementsThatAreNotRight: no call takes them.
func TestStatementsThatAreNotRight(t *testing.T) {
	rows := rowsOf(3, 6)
	for name, s := range wrongStmts() {
		if impl.StmtOK(s) || plainStmtOK(s) {
			t.Errorf("%s: right: %s", name, tellStmt(s))
		}
		if text, code := impl.StmtText(s); text != "" || code != impl.ErrBad {
			t.Errorf("%s: StmtText %q, code %d", name, text, code)
		}
		for _, rows := range [][]impl.Row{nil, rows} {
			checkDenoted(t, name, rows, s, rows, impl.Answer{}, impl.ErrBad)
		}
	}
}

// editedStmt is a statement with one thing changed.
func (x *dice) editedStmt(s impl.Stmt) impl.Stmt {
	switch x.below(9) {
	case 0:
		s.Kind = x.below(6)
	case 1:
		s.Table = x.below(6) - 1
	case 2:
		s.Column = x.below(5) - 1
	case 3:
		s.Order = x.below(5) - 1
	case 4:
		s.Down = !s.Down
	case 5:
		s.Row = []impl.Row{{}, row(1, 2), {Id: -1}, {Id: 1001}, {N: word("a")}, {Name: number(1)}}[x.below(6)]
	case 6:
		s.Set = []impl.Expr{{}, sum(), exprOf(impl.ExprNode{}), fortyNodes(), chain(impl.ExAdd, 13)}[x.below(5)]
	case 7:
		s.Where = []impl.Expr{{}, sum(), exprOf(impl.ExprNode{}), fortyNodes(), chain(impl.ExAdd, 13)}[x.below(5)]
	}
	return s
}

// TestRunsOfStatements: right ones and others near them, held against the plain conditions.
func TestRunsOfStatements(t *testing.T) {
	t.Parallel()
	x := dice(51)
	rights, wrongs := map[int]int{}, 0
	for range 30000 {
		s := x.stmt(6)
		for range x.below(4) {
			s = x.editedStmt(s)
		}
		want := plainStmtOK(s)
		if impl.StmtOK(s) != want {
			t.Fatalf("right is %v: %s", !want, tellStmt(s))
		}
		if want {
			rights[s.Kind]++
			checkReadBack(t, s)
		} else {
			wrongs++
		}
	}
	for kind := 1; kind <= 4; kind++ {
		if rights[kind] < 1000 || wrongs < 1000 {
			t.Errorf("kind %d: %d right ones, %d wrong ones of all kinds", kind, rights[kind], wrongs)
		}
	}
}
