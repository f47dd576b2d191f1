package tests

import (
	"strings"
	"testing"

	"loop.example/g00332/impl"
)

// checkReadBack: a right statement has the text that it must have, and is read back from it.
func checkReadBack(t *testing.T, s impl.Stmt) {
	t.Helper()
	text, code := impl.StmtText(s)
	if text != plainStmtText(s) || code != impl.OK {
		t.Fatalf("StmtText: %q, code %d, want %q", text, code, plainStmtText(s))
	}
	if back, code := impl.ParseSql(text); !sameStmt(back, s) || code != impl.OK {
		t.Fatalf("%q is not read back: %s\ncode %d, want %s", text, tellStmt(back), code, tellStmt(s))
	}
}

// checkStmt: a text is read as a statement, which has a text as it is told, and is read back from that.
func checkStmt(t *testing.T, text string, want impl.Stmt, told string) {
	t.Helper()
	got, code := impl.ParseSql(text)
	if !sameStmt(got, want) || code != impl.OK {
		t.Fatalf("ParseSql of %.300q: %s\ncode %d, want %s", text, tellStmt(got), code, tellStmt(want))
	}
	if !impl.StmtOK(got) {
		t.Errorf("%.300q: not right", text)
	}
	if plainStmtText(want) != told {
		t.Errorf("%.300q: the plain text is %q, want %q", text, plainStmtText(want), told)
	}
	checkReadBack(t, got)
}

func checkNoStmt(t *testing.T, text string, want int) {
	t.Helper()
	s, code := impl.ParseSql(text)
	if !sameStmt(s, impl.Stmt{}) || code != want {
		t.Errorf("ParseSql of %.300q (%d bytes): %s\ncode %d, want %d", text, len(text), tellStmt(s), code, want)
	}
	if _, code := plainSql(text); code != want {
		t.Errorf("%.300q (%d bytes): the plain code is %d, want %d", text, len(text), code, want)
	}
}

// TestStatementsOfTexts: texts of all kinds that are told just as they are.
func TestStatementsOfTexts(t *testing.T) {
	id, n, name := columnExpr(0), columnExpr(1), columnExpr(2)
	five := valueExpr(number(5))
	for text, want := range map[string]impl.Stmt{
		"select 1":                               selectOf(1, lacking, 0, false),
		"select 2":                               selectOf(2, lacking, 0, false),
		"select 3":                               selectOf(3, lacking, 0, false),
		"select 1 order n":                       selectOf(1, lacking, 1, false),
		"select 1 order name":                    selectOf(1, lacking, 2, false),
		"select 1 order id desc":                 selectOf(1, lacking, 0, true),
		"select 1 order n desc":                  selectOf(1, lacking, 1, true),
		"select 1 order name desc":               selectOf(1, lacking, 2, true),
		"select 3 where id":                      selectOf(3, id, 0, false),
		"select 3 where 5":                       selectOf(3, five, 0, false),
		"select 3 where 'order'":                 selectOf(3, valueExpr(word("order")), 0, false),
		"select 3 where (n < 5) order n":         selectOf(3, binaryExpr(impl.ExLt, n, five), 1, false),
		"select 3 where n order n desc":          selectOf(3, n, 1, true),
		"select 3 where name order id desc":      selectOf(3, name, 0, true),
		"insert 1 0 null null":                   insertOf(1, impl.Row{}),
		"insert 2 5 -7 'ab'":                     insertOf(2, impl.Row{Id: 5, N: number(-7), Name: word("ab")}),
		"insert 3 1000 0 ''":                     insertOf(3, impl.Row{Id: 1000, N: number(0), Name: word("")}),
		"insert 3 999 1000000000 'zzzzzzzzzz'":   insertOf(3, impl.Row{Id: 999, N: number(1000000000), Name: word("zzzzzzzzzz")}),
		"insert 3 10 -1000000000 null":           insertOf(3, impl.Row{Id: 10, N: number(-1000000000)}),
		"insert 3 1 null 'null'":                 insertOf(3, impl.Row{Id: 1, Name: word("null")}),
		"update 1 set n = 5":                     updateOf(1, 1, five, lacking),
		"update 2 set name = name":               updateOf(2, 2, name, lacking),
		"update 3 set name = 'where' where n":    updateOf(3, 2, valueExpr(word("where")), n),
		"update 3 set n = (n = 5)":               updateOf(3, 1, binaryExpr(impl.ExEq, n, five), lacking),
		"update 3 set n = (- (n)) where (n = 5)": updateOf(3, 1, unaryExpr(impl.ExNeg, n), binaryExpr(impl.ExEq, n, five)),
		"update 3 set n = -5 where null":         updateOf(3, 1, valueExpr(number(-5)), valueExpr(none)),
		"delete 1":                               deleteOf(1, lacking),
		"delete 3":                               deleteOf(3, lacking),
		"delete 2 where (not n)":                 deleteOf(2, unaryExpr(impl.ExNot, n)),
		"delete 2 where (name is null)":          deleteOf(2, unaryExpr(impl.ExIsNull, name)),
	} {
		checkStmt(t, text, want, text)
	}
}

// TestOtherTextsOfStatements: what has fewer or more brackets and blanks, or says what may lack, is read alike.
func TestOtherTextsOfStatements(t *testing.T) {
	for text, told := range map[string]string{
		"  select   1  ":                                  "select 1",
		"select 1 order id":                               "select 1",
		"select 1 order id desc":                          "select 1 order id desc",
		"select 1 where n order id":                       "select 1 where n",
		"select 1 where(n)order n":                        "select 1 where n order n",
		"select 1where n":                                 "select 1 where n",
		"select 1order n desc":                            "select 1 order n desc",
		"select 1 where n < 5":                            "select 1 where (n < 5)",
		"select 1 where n is null order name":             "select 1 where (n is null) order name",
		"select 1 where not id = 1 or n < -2 order n":     "select 1 where ((not (id = 1)) or (n < -2)) order n",
		"insert 1 5 - 7 'ab'":                             "insert 1 5 -7 'ab'",
		"insert 1 5-7'ab'":                                "insert 1 5 -7 'ab'",
		"insert 1 5 7'ab'":                                "insert 1 5 7 'ab'",
		"insert 1 5 null null":                            "insert 1 5 null null",
		"update 1 set n=n+1":                              "update 1 set n = (n + 1)",
		"update 1 set n = n = 1":                          "update 1 set n = (n = 1)",
		"update 1 set n = -n":                             "update 1 set n = (- (n))",
		"update 1 set n = - 0":                            "update 1 set n = (- (0))",
		"update 1 set n = (((n)))where(((n)))":            "update 1 set n = n where n",
		"update 1 set name = 'a'where n":                  "update 1 set name = 'a' where n",
		"update 1 set n = 1 + 2 * 3 where n < 5 and name": "update 1 set n = (1 + (2 * 3)) where ((n < 5) and name)",
		"delete 1 where - 5":                              "delete 1 where -5",
		"delete 1 where n = 1 and name is null":           "delete 1 where ((n = 1) and (name is null))",
	} {
		want, code := plainSql(text)
		if code != impl.OK {
			t.Errorf("%q: the plain code is %d", text, code)
		}
		checkStmt(t, text, want, told)
	}
}

// TestStatementsAreReadBack: those of all kinds, with expressions and rows of all kinds.
func TestStatementsAreReadBack(t *testing.T) {
	for _, s := range rightStmts() {
		checkReadBack(t, s)
		want := plainStmtText(s)
		checkStmt(t, want, s, want)
	}
}

// negParts joins n parts of six nodes each, whose texts have more brackets than any others.
func negParts(n int) impl.Expr {
	part := unaryTimes(impl.ExNeg, 5, columnExpr(1))
	e := part
	for range n - 1 {
		e = binaryExpr(impl.ExSub, e, part)
	}
	return e
}

// TestGreatStatementsAreReadBack: both expressions of MaxNodes nodes, or MaxDepth deep, with the longest texts.
func TestGreatStatementsAreReadBack(t *testing.T) {
	deep := unaryTimes(impl.ExNeg, impl.MaxDepth-1, valueExpr(number(-impl.MaxNumber)))
	wide := binaryExpr(impl.ExSub, unaryTimes(impl.ExNeg, 4, columnExpr(1)), negParts(5))
	if len(wide.Nodes) != impl.MaxNodes || len(negParts(6).Nodes) != impl.MaxNodes+1 {
		t.Fatalf("%d and %d nodes", len(wide.Nodes), len(negParts(6).Nodes))
	}
	great := []impl.Expr{fortyNodes(), deep, wide, chain(impl.ExAdd, impl.MaxDepth)}
	for _, e := range great {
		checkReadBack(t, selectOf(3, e, 2, true))
		checkReadBack(t, deleteOf(3, e))
		for _, other := range great {
			checkReadBack(t, updateOf(3, 2, e, other))
		}
	}
	checkNoStmt(t, "delete 1 where "+plainText(negParts(6)), impl.ErrMany)
}

// TestNodesOfEachExpression: those of a Set are not counted with those of a Where.
func TestNodesOfEachExpression(t *testing.T) {
	forty, fortyOne := manyNodes(40), manyNodes(41)
	want := updateOf(1, 1, parsed(t, forty), parsed(t, forty))
	checkStmt(t, "update 1 set n = "+forty+" where "+forty, want, plainStmtText(want))
	checkNoStmt(t, "update 1 set n = "+forty+" where "+fortyOne, impl.ErrMany)
	checkNoStmt(t, "update 1 set n = "+fortyOne+" where "+forty, impl.ErrMany)
	open, more := within(48, "n"), within(49, "n")
	checkStmt(t, "update 1 set n = "+open+" where "+open, updateOf(1, 1, columnExpr(1), columnExpr(1)), "update 1 set n = n where n")
	checkNoStmt(t, "update 1 set n = "+open+" where "+more, impl.ErrDepth)
	checkNoStmt(t, "update 1 set n = "+more+" where "+open, impl.ErrDepth)
}

// TestRunsOfTextsOfStatements: right statements with as few brackets and blanks as the dice say.
func TestRunsOfTextsOfStatements(t *testing.T) {
	t.Parallel()
	x := dice(61)
	for range 8000 {
		s := x.stmt(impl.MaxNodes)
		tokens := x.stmtTokens(s)
		got, code := impl.ParseSql(x.written(tokens))
		if !sameStmt(got, s) || code != impl.OK {
			t.Fatalf("%s: %s\ncode %d, want %s", strings.Join(tokens, " "), tellStmt(got), code, tellStmt(s))
		}
		checkReadBack(t, s)
	}
}

// stmtTokens are those of a right statement, with as few brackets as there can be, or some more.
func (x *dice) stmtTokens(s impl.Stmt) []string {
	extra := func() bool { return x.below(9) == 0 }
	ahead := s
	ahead.Set, ahead.Where, ahead.Order, ahead.Down = sum(), impl.Expr{}, 0, false
	tokens, _ := plainLex(plainStmtText(ahead))
	if s.Kind == impl.StUpdate {
		tokens = append(tokens[:5:5], spelt(s.Set, extra)...)
	}
	if len(s.Where.Nodes) > 0 {
		tokens = append(append(tokens, "where"), spelt(s.Where, extra)...)
	}
	if s.Order != 0 || s.Down || s.Kind == impl.StSelect && x.below(2) == 0 {
		tokens = append(tokens, "order", plainColumn(s.Order))
	}
	if s.Down {
		tokens = append(tokens, "desc")
	}
	return tokens
}
