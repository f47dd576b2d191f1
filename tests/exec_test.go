package tests

import (
	"fmt"
	"slices"
	"strings"
	"testing"

	"loop.example/g00332/impl"
)

// TestStatementsInANewEngine: all four kinds, from the first insert to the last delete, with every record of the log.
func TestStatementsInANewEngine(t *testing.T) {
	d := newDoer(t)
	tx := d.begin()
	d.sql(tx, "select 1", "0")
	d.sql(tx, "update 1 set n = 1", "0")
	d.sql(tx, "delete 1", "0")
	d.sql(tx, "insert 1 7 20 'b'", "1")
	d.sql(tx, "insert 1 3 null 'a'", "1")
	d.sql(tx, "insert 2 3 -5 null", "1")
	d.sqlCode(tx, "insert 1 3 1 'c'", impl.ErrKey)
	d.sql(tx, "select 1", "2 (3 null 'a') (7 20 'b')")
	d.sql(tx, "select 1 order n desc", "2 (7 20 'b') (3 null 'a')")
	d.sql(tx, "select 2", "1 (3 -5 null)")
	d.sql(tx, "select 3", "0")
	d.sql(tx, "update 1 set n = n + id where n", "1")
	d.sql(tx, "update 1 set name = null", "2")
	d.sql(tx, "select 1 where n is null or n = 27", "2 (3 null null) (7 27 null)")
	d.sql(tx, "delete 1 where id = 3", "1")
	d.sql(tx, "select 1", "1 (7 27 null)")
	b := func(table, id int, n, name impl.Value) string {
		return bytesOfRow(table, impl.Row{Id: id, N: n, Name: name})
	}
	want := []impl.LogRecord{begin(1, 1, 1),
		at(update(1, 2, 1, 1, "", b(1, 7, number(20), word("b"))), 0, 0),
		at(update(1, 3, 1, 2, "", b(1, 3, none, word("a"))), 0, 1),
		at(update(1, 4, 1, 3, "", b(2, 3, number(-5), none)), 0, 2),
		at(update(1, 5, 1, 4, b(1, 7, number(20), word("b")), b(1, 7, number(27), word("b"))), 0, 0),
		at(update(1, 6, 1, 5, b(1, 3, none, word("a")), b(1, 3, none, none)), 0, 1),
		at(update(1, 7, 1, 6, b(1, 7, number(27), word("b")), b(1, 7, number(27), none)), 0, 0),
		at(update(1, 8, 1, 7, b(1, 3, none, none), ""), 0, 1)}
	if !slices.Equal(d.e.Store.Log, want) {
		t.Errorf("the log: %+v\nwant %+v", d.e.Store.Log, want)
	}
	d.commit(tx)
	d.seen(1, impl.Row{Id: 7, N: number(27)})
	d.seen(2, impl.Row{Id: 3, N: number(-5)})
}

// TestAnUpdateToWhatItIs: a row that is meant is put, also where that changes nothing.
func TestAnUpdateToWhatItIs(t *testing.T) {
	d := stocked(t, 3)
	tx := d.begin()
	d.sql(tx, "update 3 set n = n", "3")
	if len(d.e.Store.Log) != 4 {
		t.Errorf("%d records", len(d.e.Store.Log))
	}
	for _, r := range d.e.Store.Log[1:] {
		if r.Kind != impl.LoUpdate || r.Before != r.After {
			t.Errorf("%+v", r)
		}
	}
}

// TestRowsOfOnesOwnAndOfOthers: a transaction sees what it did and what was committed, and nothing of one that went.
func TestRowsOfOnesOwnAndOfOthers(t *testing.T) {
	d := newDoer(t)
	one := d.begin()
	d.sql(one, "insert 1 1 10 'a'", "1")
	d.sql(one, "insert 1 2 20 'b'", "1")
	d.sql(one, "insert 1 3 30 'c'", "1")
	d.commit(one)
	two, three := d.begin(), d.begin()
	d.sql(two, "insert 1 4 40 'd'", "1")
	d.sqlCode(three, "select 1", impl.ErrWait)
	d.sql(three, "insert 1 5 50 'e'", "1")
	d.sqlCode(three, "insert 1 4 41 'd'", impl.ErrWait)
	d.sqlCode(two, "insert 1 3 31 'c'", impl.ErrKey)
	d.sqlCode(two, "insert 1 4 41 'd'", impl.ErrKey)
	d.abort(two)
	d.sql(three, "insert 1 4 44 'd'", "1")
	d.sql(three, "update 1 set n = n + 1 where id < 5", "4")
	d.sql(three, "select 1", "5 (1 11 'a') (2 21 'b') (3 31 'c') (4 45 'd') (5 50 'e')")
	d.sql(three, "delete 1 where n < 31", "2")
	d.sql(three, "insert 1 1 0 null", "1")
	d.commit(three)
	four := d.begin()
	d.sql(four, "select 1 order n", "4 (1 0 null) (3 31 'c') (4 45 'd') (5 50 'e')")
	d.sql(four, "delete 1", "4")
	d.sql(four, "select 1", "0")
	d.abort(four)
	d.seen(1, impl.Row{Id: 1, N: number(0)}, impl.Row{Id: 3, N: number(31), Name: word("c")}, impl.Row{Id: 4, N: number(45), Name: word("d")}, impl.Row{Id: 5, N: number(50), Name: word("e")})
}

// TestBackBetweenStatements: to go back to a place takes whole statements away.
func TestBackBetweenStatements(t *testing.T) {
	d := newDoer(t)
	tx := d.begin()
	d.sql(tx, "insert 1 1 10 'a'", "1")
	d.sql(tx, "insert 1 2 20 'b'", "1")
	place := d.last(tx)
	d.sql(tx, "update 1 set n = 0", "2")
	d.sql(tx, "delete 1 where id = 1", "1")
	d.rollback(tx, place)
	d.sql(tx, "select 1", "2 (1 10 'a') (2 20 'b')")
	d.sql(tx, "insert 1 3 30 'c'", "1")
	d.sql(tx, "delete 1 where id = 2", "1")
	d.rollback(tx, 1)
	d.sql(tx, "select 1", "0")
}

// TestStatementsBehindARestart: what statements did lasts if it was committed, and only then.
func TestStatementsBehindARestart(t *testing.T) {
	d := newDoer(t)
	one, two := d.begin(), d.begin()
	d.sql(one, "insert 1 1 10 'a'", "1")
	d.sql(one, "insert 1 2 20 'b'", "1")
	d.sql(two, "insert 2 1 10 'a'", "1")
	d.sql(one, "update 1 set n = n + 1", "2")
	d.commit(one)
	three := d.begin()
	d.sql(three, "delete 1 where id = 1", "1")
	e, code := impl.CrashEngine(d.e, []int{1, 1, 1})
	d.next("CrashEngine", e, code, impl.OK)
	e, code = impl.RestartEngine(d.e)
	d.next("RestartEngine", e, code, impl.OK)
	tx := d.begin()
	d.sql(tx, "select 1", "2 (1 11 'a') (2 21 'b')")
	d.sql(tx, "select 2", "0")
	d.sql(tx, "delete 1", "2")
}

// textsOfRows are texts of statements that mean something on rows with Ids of 2, 4, 5 and 9.
func textsOfRows() []string {
	wheres := []string{"", "1", "0", "null", "n", "not n", "n is null", "n = n", "n < 0", "name = 'b'", "id < 5", "id = 9", "id = 7", "n and 10 / n < 0",
		"1 / 0", "1000000000 + 1", "name", "''", "1 / n", "id = 9 and 1 / 0", "id = 2 or 'a'", "id = 4 or 1 / (id - 2)", "(id = 5 and 1 / 0) or (id = 9 and 'a')"}
	list := []string{}
	for _, where := range wheres {
		if where != "" {
			where = " where " + where
		}
		for _, text := range []string{"select 1", "delete 1", "delete 2", "update 1 set n = n + 1", "update 1 set n = null", "update 1 set name = 'zz'", "update 1 set name = name",
			"update 1 set n = 10 / n", "update 1 set n = n + 999999999", "update 1 set n = name", "update 1 set name = n", "update 3 set n = 1 / 0"} {
			list = append(list, text+where)
		}
		for _, order := range []string{"id desc", "n", "n desc", "name", "name desc"} {
			list = append(list, "select 1"+where+" order "+order)
		}
	}
	for _, row := range []string{"0 1 'a'", "2 1 'a'", "3 null null", "4 1 'a'", "5 0 null", "9 -3 'b'", "10 -1000000000 ''", "1000 1000000000 'zzzzzzzzzz'"} {
		list = append(list, "insert 1 "+row, "insert 2 "+row, "insert 3 "+row)
	}
	return list
}

// withFourRows has fourRows in table 1, of which own are of the transaction that is open, and the others committed; and
// one row of table 2.
func withFourRows(t *testing.T, own int) (*doer, int) {
	t.Helper()
	d := newDoer(t)
	first := d.begin()
	rows := fourRows()
	d.put(first, 1, rows[own:]...)
	d.put(first, 2, row(2, 2))
	d.commit(first)
	tx := d.begin()
	d.put(tx, 1, rows[:own]...)
	return d, tx
}

// TestWhatStatementsDoIsWhatTheyMean: whoever put the rows, and again on what the statement left.
func TestWhatStatementsDoIsWhatTheyMean(t *testing.T) {
	codes := map[string]int{}
	for own := range 5 {
		d, tx := withFourRows(t, own)
		for _, text := range textsOfRows() {
			s := stmtOf(t, text)
			name := fmt.Sprintf("%s, %d rows of its own", text, own)
			e, a, code := checkMeaning(t, name, d.e, tx, s)
			d.alike(tx, text, e, a, code)
			if _, _, want := plainDenote(fourRows(), s); s.Table == 1 && code != want {
				t.Errorf("%s: code %d, want %d", name, code, want)
			}
			codes[fmt.Sprint(s.Kind, " ", code)]++
			checkMeaning(t, name+", again", e, tx, s)
		}
	}
	for _, x := range []string{"1 0", "1 10", "1 11", "1 12", "2 0", "2 17", "3 0", "3 10", "3 11", "3 12", "4 0", "4 10", "4 11", "4 12"} {
		if codes[x] == 0 {
			t.Errorf("kind and code %s: never", x)
		}
	}
}

// TestAllRightStatements: each right one of the chapter ahead, on rows of all kinds of values.
func TestAllRightStatements(t *testing.T) {
	d := newDoer(t)
	for table := 1; table <= impl.MaxTables; table++ {
		tx := d.begin()
		for i, n := range []impl.Value{none, number(0), number(-3)} {
			d.put(tx, table, impl.Row{Id: 3 * i, N: n}, impl.Row{Id: 3*i + 1, N: n, Name: word("ab")})
		}
		d.commit(tx)
	}
	tx := d.begin()
	for name, s := range rightStmts() {
		checkMeaning(t, name, d.e, tx, s)
	}
}

// TestRowsByTheirIds: a statement goes by Id, wherever the rows stand in the pages.
func TestRowsByTheirIds(t *testing.T) {
	d := newDoer(t)
	tx := d.begin()
	for i, id := range []int{500, 3, 1000, 0, 77, 9, 8} {
		d.sql(tx, fmt.Sprintf("insert 2 %d %d null", id, i), "1")
	}
	d.sql(tx, "select 2", "7 (0 3 null) (3 1 null) (8 6 null) (9 5 null) (77 4 null) (500 0 null) (1000 2 null)")
	n := len(d.e.Store.Log)
	d.sql(tx, "update 2 set name = 'x' where n < 4", "4")
	var ids []int
	for _, r := range d.e.Store.Log[n:] {
		_, row, _ := impl.ReadRow([]byte(r.After))
		ids = append(ids, row.Id)
	}
	if !slices.Equal(ids, []int{0, 3, 500, 1000}) {
		t.Errorf("changed in the order %v", ids)
	}
	n = len(d.e.Store.Log)
	d.sql(tx, "delete 2 where name is null", "3")
	ids = nil
	for _, r := range d.e.Store.Log[n:] {
		_, row, _ := impl.ReadRow([]byte(r.Before))
		ids = append(ids, row.Id)
	}
	if !slices.Equal(ids, []int{8, 9, 77}) {
		t.Errorf("gone in the order %v", ids)
	}
}

// TestStatementsOfRowsThatStandTwice: an engine that did not begin new may have such; the calls that are named decide.
func TestStatementsOfRowsThatStandTwice(t *testing.T) {
	for _, text := range []string{"select 1", "insert 1 5 1 'a'", "insert 1 6 1 'a'", "insert 1 7 1 'a'", "update 1 set n = n + 1", "update 1 set n = 1 / (n - 60)", "delete 1", "delete 1 where n = 3", "delete 1 where 1 / (id - 6)"} {
		d := twice(t)
		tx := d.begin()
		for range 4 {
			e, _, code := checkCalled(t, text, d.e, tx, stmtOf(t, text))
			d.next(text, e, code, code)
		}
	}
	d := twice(t)
	tx := d.begin()
	for _, told := range []string{"2 (5 3 'ab') (6 60 'ab')", "1 (5 2 'ab')", "1 (5 1 'ab')", "0"} {
		_, a, _ := impl.ExecSql(d.e, tx, "select 1")
		if text, _ := impl.AnswerText(a); text != told {
			t.Errorf("%s, want %s", text, told)
		}
		e, _, code := impl.ExecSql(d.e, tx, "delete 1")
		d.next("delete", e, code, impl.OK)
	}
}

// TestWhichPagesAreFetched: an insert fetches all pages twice, to find the row and to put it; where it is there, once.
func TestWhichPagesAreFetched(t *testing.T) {
	for _, x := range []struct {
		text string
		want [4]int
		code int
	}{
		{"insert 3 5 1 'a'", [4]int{6, 7, 5, 2}, impl.ErrKey},
		{"insert 3 40 1 'a'", [4]int{7, 2, 6, 2}, impl.OK},
		{"insert 1 5 1 'a'", [4]int{7, 2, 6, 2}, impl.OK},
		{"select 3", [4]int{6, 7, 5, 2}, impl.OK},
		{"select 1", [4]int{6, 7, 5, 2}, impl.OK},
		{"update 3 set n = 1 where 0", [4]int{6, 7, 5, 2}, impl.OK},
		{"delete 1", [4]int{6, 7, 5, 2}, impl.OK},
		{"select 3 where name", [4]int{6, 7, 5, 2}, impl.ErrType},
	} {
		d := stocked(t, 9)
		tx := d.begin()
		e, _, code := checkMeaning(t, x.text, d.e, tx, stmtOf(t, x.text))
		if code != x.code || framesNow(e) != x.want {
			t.Errorf("%s: code %d, frames and hand %v, want %v", x.text, code, framesNow(e), x.want)
		}
	}
}

// TestTheLongestStatements: expressions of MaxNodes nodes, and a text of MaxText bytes.
func TestTheLongestStatements(t *testing.T) {
	d := stocked(t, 9)
	tx := d.begin()
	checkMeaning(t, "of 40 nodes twice", d.e, tx, updateOf(3, 1, fortyNodes(), fortyNodes()))
	text := "select 3 where id = 8"
	d.sql(tx, text+strings.Repeat(" ", impl.MaxText-len(text)), "1 (8 8 'ab')")
}
