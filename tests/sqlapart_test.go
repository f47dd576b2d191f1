package tests

import (
	"fmt"
	"slices"
	"strings"
	"testing"

	"loop.example/g00332/impl"
)

func someNodes() []impl.ExprNode {
	return []impl.ExprNode{joinNode(impl.ExNot, 0, 0), constNode(number(77)), {Op: 77, A: 77, V: word("behind")}}
}

// stmtWithRoom is a statement in other memory, with other nodes behind the ends of its lists.
func stmtWithRoom(s impl.Stmt, other impl.ExprNode) impl.Stmt {
	s.Set, s.Where = exprOf(withRoom(s.Set.Nodes, other)...), exprOf(withRoom(s.Where.Nodes, other)...)
	return s
}

// stmtMemory is all that the lists of a statement lie in.
func stmtMemory(s impl.Stmt) []impl.ExprNode {
	return slices.Concat(s.Set.Nodes[:cap(s.Set.Nodes)], s.Where.Nodes[:cap(s.Where.Nodes)])
}

// stmtAnswers are those of all calls that take a statement.
func stmtAnswers(s impl.Stmt, rows []impl.Row) string {
	text, code := impl.StmtText(s)
	return fmt.Sprintf("%v, %q %d, %s", impl.StmtOK(s), text, code, denoteAnswer(rows, s))
}

func denoteAnswer(rows []impl.Row, s impl.Stmt) string { return tellDenoted(impl.DenoteStmt(rows, s)) }

func allStmts() map[string]impl.Stmt {
	all := rightStmts()
	for name, s := range wrongStmts() {
		all["wrong: "+name] = s
	}
	return all
}

// TestStatementsStandApart: no call writes into a statement, or behind the ends of its lists, or tells what stands there.
func TestStatementsStandApart(t *testing.T) {
	for name, s := range allStmts() {
		told := stmtAnswers(s, fourRows())
		for _, other := range someNodes() {
			mine := stmtWithRoom(s, other)
			before := stmtMemory(mine)
			if got := stmtAnswers(mine, fourRows()); got != told {
				t.Errorf("%s: %s, with nothing behind it %s", name, got, told)
			}
			if !slices.Equal(stmtMemory(mine), before) {
				t.Fatalf("%s: an argument is changed, or what stands behind it", name)
			}
		}
	}
}

// tableRows are right and wrong lists of rows.
func tableRows() map[string][]impl.Row {
	all := wrongTableRows()
	for name, rows := range map[string][]impl.Row{"none": nil, "one": rowsOf(5, 6), "four": fourRows(), "100": rowsOf(0, 100), "101": rowsOf(0, 101), "too long": rowsOf(0, impl.MaxList+1)} {
		all[name] = rows
	}
	return all
}

// TestSortedRowsStandApart: from the rows that were given, and from each other.
func TestSortedRowsStandApart(t *testing.T) {
	for name, rows := range tableRows() {
		for column := range 4 {
			for _, down := range []bool{false, true} {
				checkApart(t, fmt.Sprintf("SortRows of %s by %d", name, column), rows, row(77, 77), row(78, 78), func(rows []impl.Row) ([]impl.Row, int) { return impl.SortRows(rows, column, down) })
			}
		}
	}
}

// someStmts are of each kind, right and not, with codes of rows and without.
func someStmts(t *testing.T) []impl.Stmt {
	list := []impl.Stmt{{}, selectOf(4, lacking, 0, false), insertOf(1, impl.Row{Id: -1})}
	for _, text := range []string{"select 1", "select 1 where n order n", "select 1 order name desc", "select 1 where name", "insert 1 0 1 'a'", "insert 1 3 1 'a'", "insert 1 5 1 'a'", "insert 1 1000 null null",
		"update 1 set n = n + 1", "update 1 set name = 'c' where id = 5", "update 1 set n = 1 where 0", "update 1 set n = 'a'", "update 1 set n = 1 / n", "delete 1", "delete 1 where n", "delete 1 where 0", "delete 1 where 1 / n"} {
		list = append(list, stmtOf(t, text))
	}
	return list
}

// TestDenotedRowsStandApart: from the rows that were given, also with a code, and both lists from each other.
func TestDenotedRowsStandApart(t *testing.T) {
	for name, rows := range tableRows() {
		for i, s := range someStmts(t) {
			name := fmt.Sprintf("DenoteStmt %d of %s", i, name)
			checkApart(t, name, rows, row(77, 77), row(78, 78), func(rows []impl.Row) ([]impl.Row, int) {
				now, _, code := impl.DenoteStmt(rows, s)
				return now, code
			})
			checkApart(t, name, rows, row(77, 77), row(78, 78), func(rows []impl.Row) ([]impl.Row, int) {
				_, a, code := impl.DenoteStmt(rows, s)
				return a.Rows, code
			})
			now, a, code := impl.DenoteStmt(rows, s)
			told := tellList(a.Rows, code)
			spoil(now, row(79, 79))
			if tellList(a.Rows, code) != told {
				t.Errorf("%s: the answer shares memory with the rows", name)
			}
			now, a, code = impl.DenoteStmt(rows, s)
			told = tellList(now, code)
			spoil(a.Rows, row(79, 79))
			if tellList(now, code) != told {
				t.Errorf("%s: the rows share memory with the answer", name)
			}
		}
	}
}

func stmtTexts() []string {
	return []string{"", "select 1", "select 1 where n order name desc", "insert 1 5 -7 'ab'", "update 1 set n = n + 1 where n < 5", "update 1 set name = 'a'", "update 1 set n = n where n", "delete 2 where not n", "drop 1", "select 4", "select 1 order x", "select 1 where n +", "insert 1 1001 1 'a'", "insert 1 1 1 2", "select 1 #", "\xff",
		"update 1 set n = " + manyNodes(40) + " where " + manyNodes(40), "delete 1 where " + manyNodes(41), "delete 1 where " + deepSums(13), "delete 1 where " + within(49, "n"),
		strings.Repeat("n ", 500), strings.Repeat("n ", 501), "select 1" + strings.Repeat(" ", impl.MaxText-8), "select 1" + strings.Repeat(" ", impl.MaxText-7), strings.Repeat("n", impl.MaxText)}
}

// TestStatementsThatAreReadStandApart: no two answers share memory, and no two lists of one.
func TestStatementsThatAreReadStandApart(t *testing.T) {
	spoilt := impl.ExprNode{Op: 77}
	for _, text := range stmtTexts() {
		first, code := impl.ParseSql(text)
		again, _ := impl.ParseSql(text)
		told, where := tellStmt(first), tellExpr(first.Where)
		spoil(first.Set.Nodes, spoilt)
		if tellExpr(first.Where) != where {
			t.Errorf("%.80q: a Set shares memory with a Where", text)
		}
		set := tellExpr(again.Set)
		spoil(first.Where.Nodes, spoilt)
		if tellStmt(again) != told {
			t.Errorf("%.80q: two answers share memory", text)
		}
		spoil(again.Where.Nodes, spoilt)
		if tellExpr(again.Set) != set {
			t.Errorf("%.80q: a Where shares memory with a Set", text)
		}
		if last, lastCode := impl.ParseSql(text); tellStmt(last) != told || lastCode != code {
			t.Errorf("%.80q: another answer behind the first one was changed", text)
		}
	}
}

// sqlCalls are calls of all functions of chapter 13.
func sqlCalls(t *testing.T) []call {
	var all []call
	for _, text := range slices.Concat(stmtTexts(), exprTexts(), textArguments()) {
		all = append(all, call{"ParseSql", func() string { s, code := impl.ParseSql(text); return answers(tellStmt(s), code) }})
	}
	for name, s := range allStmts() {
		for _, rows := range [][]impl.Row{nil, fourRows()} {
			all = append(all, call{name, func() string { return stmtAnswers(s, rows) }})
		}
	}
	for name, rows := range tableRows() {
		for _, column := range numberArguments() {
			for _, down := range []bool{false, true} {
				all = append(all, call{"SortRows of " + name, func() string { return tellList(impl.SortRows(rows, column, down)) }})
			}
		}
		for _, s := range someStmts(t) {
			all = append(all, call{"DenoteStmt of " + name, func() string { return denoteAnswer(rows, s) }})
		}
	}
	return all
}
