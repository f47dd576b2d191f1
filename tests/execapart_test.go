package tests

import (
	"fmt"
	"slices"
	"testing"

	"loop.example/g00332/impl"
)

// execAnswers are those of chapter 14's calls that take an engine: a statement of each kind, one that is undone, and texts.
func execAnswers(e impl.Engine, q asked) []engineAnswer {
	var list []engineAnswer
	add := func(name string, e impl.Engine, a impl.Answer, code int) {
		list = append(list, engineAnswer{name: name, engine: e, rows: a.Rows, n: a.Count, code: code})
	}
	undone := binaryExpr(impl.ExDiv, valueExpr(number(9)), binaryExpr(impl.ExSub, columnExpr(0), valueExpr(number(2))))
	for i, s := range []impl.Stmt{insertOf(q.table, row(q.id, 5)), selectOf(q.table, lacking, 1, true), updateOf(q.table, 2, valueExpr(word("z")), lacking),
		updateOf(q.table, 1, undone, lacking), deleteOf(q.table, columnExpr(0))} {
		next, a, code := impl.ExecStmt(e, q.tx, s)
		add(fmt.Sprint("ExecStmt ", i), next, a, code)
	}
	for _, text := range []string{fmt.Sprintf("select %d", q.table), "drop 1"} {
		next, a, code := impl.ExecSql(e, q.tx, text)
		add("ExecSql of "+text, next, a, code)
	}
	return list
}

// TestStatementsThatAreDoneStandApart: nothing is written into a statement, or behind the ends of its lists, and what
// stands there is not told.
func TestStatementsThatAreDoneStandApart(t *testing.T) {
	d := newDoer(t)
	tx := d.begin()
	d.put(tx, 1, fourRows()...)
	d.put(tx, 3, fourRows()[1:]...)
	tell := func(s impl.Stmt) string {
		e, a, code := impl.ExecStmt(d.e, tx, s)
		return fmt.Sprintf("%s %s %d", tellEngine(e), tellAnswer(a), code)
	}
	for name, s := range allStmts() {
		told := tell(s)
		for _, other := range someNodes() {
			mine := stmtWithRoom(s, other)
			before := stmtMemory(mine)
			if got := tell(mine); got != told {
				t.Errorf("%s: %.1000s, with nothing behind it %.1000s", name, got, told)
			}
			if !slices.Equal(stmtMemory(mine), before) {
				t.Fatalf("%s: an argument is changed, or what stands behind it", name)
			}
		}
	}
}

// TestRowsThatAreToldStandApart: two answers of one engine share no memory.
func TestRowsThatAreToldStandApart(t *testing.T) {
	d := stocked(t, 5)
	tx := d.begin()
	for _, text := range []string{"select 3", "select 3 order n desc", "select 3 where id"} {
		_, first, _ := impl.ExecSql(d.e, tx, text)
		_, again, _ := impl.ExecSql(d.e, tx, text)
		told := tellAnswer(again)
		spoil(first.Rows, row(77, 77))
		if tellAnswer(again) != told {
			t.Errorf("%s: two answers share memory", text)
		}
	}
}

func answerArguments() map[string]impl.Answer {
	list := map[string]impl.Answer{}
	for name, rows := range tableRows() {
		for _, count := range []int{-1, 0, 1, 100, 101} {
			list[fmt.Sprint(name, ", ", count)] = impl.Answer{Count: count, Rows: rows}
		}
	}
	return list
}

func TestAnswersThatAreToldStandApart(t *testing.T) {
	for name, a := range answerArguments() {
		checkApart(t, "AnswerText of "+name, a.Rows, row(77, 77), 'x', func(rows []impl.Row) ([]byte, int) {
			text, code := impl.AnswerText(impl.Answer{Count: a.Count, Rows: rows})
			return []byte(text), code
		})
	}
}

// execCalls are calls of all functions of chapter 14, but for those that engineCalls has.
func execCalls(t *testing.T) []call {
	var all []call
	for name, a := range answerArguments() {
		all = append(all, call{"AnswerText of " + name, func() string { text, code := impl.AnswerText(a); return answers(text, code) }})
	}
	d := stocked(t, 5)
	tx := d.begin()
	tell := func(e impl.Engine, a impl.Answer, code int) string {
		return fmt.Sprintf("%s %s %d", tellEngine(e), tellAnswer(a), code)
	}
	for name, s := range allStmts() {
		s.Table = pick(s.Table == 1, 3, s.Table)
		all = append(all, call{"ExecStmt of " + name, func() string { return tell(impl.ExecStmt(d.e, tx, s)) }})
	}
	for _, text := range slices.Concat(stmtTexts(), textArguments()) {
		all = append(all, call{"ExecSql", func() string { return tell(impl.ExecSql(d.e, tx, text)) }})
	}
	return all
}
