package tests

import (
	"fmt"
	"slices"
	"testing"

	"loop.example/g00332/impl"
)

func tellDenoted(rows []impl.Row, a impl.Answer, code int) string {
	return fmt.Sprintf("rows %.2000s, told %.2000s, count %d, code %d", fmt.Sprint(slices.Clone(rows)), fmt.Sprint(slices.Clone(a.Rows)), a.Count, code)
}

func checkDenoted(t *testing.T, name string, rows []impl.Row, s impl.Stmt, now []impl.Row, a impl.Answer, code int) {
	t.Helper()
	gotNow, gotA, gotCode := impl.DenoteStmt(rows, s)
	if !slices.Equal(gotNow, now) || !slices.Equal(gotA.Rows, a.Rows) || gotA.Count != a.Count || gotCode != code {
		t.Fatalf("%s: DenoteStmt: %s, want %s", name, tellDenoted(gotNow, gotA, gotCode), tellDenoted(now, a, code))
	}
}

// stmtOf is the statement of a text that must have one.
func stmtOf(t *testing.T, text string) impl.Stmt {
	t.Helper()
	s, code := impl.ParseSql(text)
	if code != impl.OK {
		t.Fatalf("ParseSql of %q: code %d", text, code)
	}
	return s
}

// fourRows have numbers, words and nothing.
func fourRows() []impl.Row {
	return []impl.Row{{Id: 2, N: number(5), Name: word("b")}, {Id: 4, Name: word("a")}, {Id: 5, N: number(0)}, {Id: 9, N: number(-3), Name: word("b")}}
}

// picked are the rows of those Ids, in that order.
func picked(rows []impl.Row, ids ...int) []impl.Row {
	var list []impl.Row
	for _, id := range ids {
		at := slices.IndexFunc(rows, func(r impl.Row) bool { return r.Id == id })
		list = append(list, rows[at])
	}
	return list
}

// TestInserts: the row comes into its place by Id, with nothing else changed.
func TestInserts(t *testing.T) {
	rows := fourRows()
	for _, c := range []struct{ id, at int }{{0, 0}, {1, 0}, {3, 1}, {6, 3}, {8, 3}, {10, 4}, {1000, 4}} {
		for _, r := range []impl.Row{{Id: c.id}, row(c.id, 7), {Id: c.id, N: number(-impl.MaxNumber), Name: word("")}} {
			for table := 1; table <= impl.MaxTables; table++ {
				checkDenoted(t, fmt.Sprint("insert of ", c.id), rows, insertOf(table, r), slices.Insert(slices.Clone(rows), c.at, r), impl.Answer{Count: 1}, impl.OK)
			}
			checkDenoted(t, "insert into nothing", nil, insertOf(1, r), []impl.Row{r}, impl.Answer{Count: 1}, impl.OK)
		}
	}
	for _, id := range []int{2, 4, 5, 9} {
		for _, r := range []impl.Row{{Id: id}, row(id, 7), picked(rows, id)[0]} {
			checkDenoted(t, fmt.Sprint("insert of ", id), rows, insertOf(1, r), rows, impl.Answer{}, impl.ErrKey)
		}
	}
}

// TestInsertsIntoManyRows: 100 rows are a table's, and with one more it has 101.
func TestInsertsIntoManyRows(t *testing.T) {
	for _, n := range []int{99, 100} {
		rows := rowsOf(1, 1+n)
		checkDenoted(t, "at the first place", rows, insertOf(1, impl.Row{}), slices.Insert(slices.Clone(rows), 0, impl.Row{}), impl.Answer{Count: 1}, impl.OK)
		checkDenoted(t, "at the last place", rows, insertOf(1, impl.Row{Id: 1000}), append(slices.Clone(rows), impl.Row{Id: 1000}), impl.Answer{Count: 1}, impl.OK)
		checkDenoted(t, "of an Id that is there", rows, insertOf(1, impl.Row{Id: n}), rows, impl.Answer{}, impl.ErrKey)
	}
	rows := rowsOf(1, 102)
	checkDenoted(t, "101 rows", rows, insertOf(1, impl.Row{}), rows, impl.Answer{}, impl.ErrMany)
	checkDenoted(t, "101 rows, and an Id that is there", rows, insertOf(1, impl.Row{Id: 5}), rows, impl.Answer{}, impl.ErrMany)
}

// TestRowsThatAreMeant: those without a Where, and those whose Where is a number but 0.
func TestRowsThatAreMeant(t *testing.T) {
	rows := fourRows()
	changed := func(r impl.Row) impl.Row { return impl.Row{Id: r.Id, N: number(77), Name: r.Name} }
	for where, ids := range map[string][]int{
		"":                           {2, 4, 5, 9},
		" where 1":                   {2, 4, 5, 9},
		" where -1":                  {2, 4, 5, 9},
		" where 1000000000":          {2, 4, 5, 9},
		" where 0":                   {},
		" where - 0":                 {},
		" where null":                {},
		" where n":                   {2, 9},
		" where id":                  {2, 4, 5, 9},
		" where not n":               {5},
		" where n is null":           {4},
		" where n = n":               {2, 5, 9},
		" where n < 0":               {9},
		" where n = 5 or n < 0":      {2, 9},
		" where name = 'b'":          {2, 9},
		" where name is null":        {5},
		" where id < 5":              {2, 4},
		" where id = 9":              {9},
		" where id - 4":              {2, 5, 9},
		" where id = 7":              {},
		" where n = null":            {},
		" where name < 'b' or n = 0": {4, 5},
		// The row of 0 would be divided by nothing.
		" where n and 10 / n < 0": {9},
	} {
		meant := picked(rows, ids...)
		rest := slices.DeleteFunc(slices.Clone(rows), func(r impl.Row) bool { return slices.Contains(ids, r.Id) })
		var other []impl.Row
		for _, r := range rows {
			other = append(other, pick(slices.Contains(ids, r.Id), changed(r), r))
		}
		for _, table := range []string{"1", "3"} {
			checkDenoted(t, "select"+where, rows, stmtOf(t, "select "+table+where), rows, impl.Answer{Rows: meant, Count: len(ids)}, impl.OK)
			checkDenoted(t, "update"+where, rows, stmtOf(t, "update "+table+" set n = 77"+where), other, impl.Answer{Count: len(ids)}, impl.OK)
			checkDenoted(t, "delete"+where, rows, stmtOf(t, "delete "+table+where), rest, impl.Answer{Count: len(ids)}, impl.OK)
		}
	}
}

// TestSelectsAreSorted: by each column, with those of one value by Id, or all that turned round.
func TestSelectsAreSorted(t *testing.T) {
	rows := fourRows()
	for text, ids := range map[string][]int{
		"select 1":                             {2, 4, 5, 9},
		"select 1 order id":                    {2, 4, 5, 9},
		"select 1 order id desc":               {9, 5, 4, 2},
		"select 1 order n":                     {4, 9, 5, 2},
		"select 1 order n desc":                {2, 5, 9, 4},
		"select 1 order name":                  {5, 4, 2, 9},
		"select 1 order name desc":             {9, 2, 4, 5},
		"select 1 where n order n":             {9, 2},
		"select 1 where n order n desc":        {2, 9},
		"select 1 where id < 9 order name":     {5, 4, 2},
		"select 1 where 0 order name desc":     {},
		"select 1 where name = 'b' order name": {2, 9},
	} {
		checkDenoted(t, text, rows, stmtOf(t, text), rows, impl.Answer{Rows: picked(rows, ids...), Count: len(ids)}, impl.OK)
	}
}

// TestUpdatesByTheRowAsItWas: the column is the Set's value by each row alone; all else stays.
func TestUpdatesByTheRowAsItWas(t *testing.T) {
	rows := fourRows()
	values := func(list ...impl.Value) []impl.Value { return list }
	for text, want := range map[string][]impl.Value{
		"update 1 set n = n + 1":                    values(number(6), none, number(1), number(-2)),
		"update 1 set n = id":                       values(number(2), number(4), number(5), number(9)),
		"update 1 set n = null":                     values(none, none, none, none),
		"update 1 set n = 1000000000":               values(number(1000000000), number(1000000000), number(1000000000), number(1000000000)),
		"update 1 set n = n is null":                values(number(0), number(1), number(0), number(0)),
		"update 1 set n = name = 'b'":               values(number(1), number(0), none, number(1)),
		"update 1 set n = id * id where id < 5":     values(number(4), number(16), number(0), number(-3)),
		"update 1 set n = -n where n":               values(number(-5), none, number(0), number(3)),
		"update 1 set n = 10 / n where n":           values(number(2), none, number(0), number(-3)),
		"update 1 set n = 0 where n":                values(number(0), none, number(0), number(0)),
		"update 1 set name = name":                  values(word("b"), word("a"), none, word("b")),
		"update 1 set name = null":                  values(none, none, none, none),
		"update 1 set name = ''":                    values(word(""), word(""), word(""), word("")),
		"update 1 set name = 'zz' where name = 'b'": values(word("zz"), word("a"), none, word("zz")),
		"update 1 set name = null where name":       nil,
		"update 1 set name = n where n is null":     values(word("b"), none, none, word("b")),
		"update 1 set n = name where name is null":  values(number(5), none, none, number(-3)),
	} {
		s := stmtOf(t, text)
		if want == nil {
			checkDenoted(t, text, rows, s, rows, impl.Answer{}, impl.ErrType)
			continue
		}
		now := slices.Clone(rows)
		for i := range now {
			*[]*impl.Value{nil, &now[i].N, &now[i].Name}[s.Column] = want[i]
		}
		plain, a, code := plainDenote(rows, s)
		if !slices.Equal(plain, now) || code != impl.OK {
			t.Errorf("%s: the plain rows are %v, code %d, want %v", text, plain, code, now)
		}
		checkDenoted(t, text, rows, s, now, impl.Answer{Count: a.Count}, impl.OK)
	}
}

// TestTheFirstRowThatHasACode: all of a row's faults come ahead of those of the next one, and nothing is done.
func TestTheFirstRowThatHasACode(t *testing.T) {
	rows := fourRows()
	const zero, over = "1 / 0", "1000000000 + 1"
	for where, code := range map[string]int{
		zero: impl.ErrZero, over: impl.ErrOver, "'a'": impl.ErrType, "''": impl.ErrType, "name": impl.ErrType, "not 'a'": impl.ErrType, "name + 1": impl.ErrType, "n = name": impl.ErrType,
		"1 / n": impl.ErrZero, "n + 999999999": impl.ErrOver, "id = 9 and " + zero: impl.ErrZero, "id = 9 and 1 / (id - 9)": impl.ErrZero, "id = 2 or " + over: impl.ErrOver,
		// Of rows 5 and 9 each has a code; the first one's counts.
		"(id = 5 and " + zero + ") or (id = 9 and " + over + ")": impl.ErrZero,
		"(id = 9 and " + zero + ") or (id = 5 and " + over + ")": impl.ErrOver,
		"(id = 9 and " + zero + ") or (id = 5 and not 'a')":      impl.ErrType,
	} {
		for _, text := range []string{"select 1", "update 1 set n = 1", "delete 1"} {
			s := stmtOf(t, text+" where "+where)
			checkDenoted(t, text+" where "+where, rows, s, rows, impl.Answer{}, code)
			checkDenoted(t, text+" where "+where+", of no rows", nil, s, nil, impl.Answer{}, impl.OK)
		}
		checkDenoted(t, "select, sorted, where "+where, rows, stmtOf(t, "select 1 where "+where+" order name desc"), rows, impl.Answer{}, code)
	}
}

// TestCodesOfUpdates: the Where's ahead of the Set's of one row, but the Set's of one row ahead of the next one's Where's.
func TestCodesOfUpdates(t *testing.T) {
	rows := fourRows()
	for text, want := range map[string]int{
		"update 1 set n = 1 / 0":                                impl.ErrZero,
		"update 1 set n = 1000000000 + 1":                       impl.ErrOver,
		"update 1 set n = 'a' + 1":                              impl.ErrType,
		"update 1 set n = 1 / 0 where 0":                        impl.OK,
		"update 1 set n = 1 / 0 where null":                     impl.OK,
		"update 1 set n = 1 / 0 where id = 9":                   impl.ErrZero,
		"update 1 set n = 10 / n":                               impl.ErrZero,
		"update 1 set n = 10 / n where n":                       impl.OK,
		"update 1 set n = n + 999999999":                        impl.ErrOver,
		"update 1 set n = 'a'":                                  impl.ErrType,
		"update 1 set n = ''":                                   impl.ErrType,
		"update 1 set n = name":                                 impl.ErrType,
		"update 1 set n = name where id = 5":                    impl.OK,
		"update 1 set n = name where id = 9":                    impl.ErrType,
		"update 1 set name = 1":                                 impl.ErrType,
		"update 1 set name = 0":                                 impl.ErrType,
		"update 1 set name = n":                                 impl.ErrType,
		"update 1 set name = n where id = 4":                    impl.OK,
		"update 1 set name = id where id = 9":                   impl.ErrType,
		"update 1 set name = id where id = 3":                   impl.OK,
		"update 1 set name = 1 / 0 where 'a'":                   impl.ErrType,
		"update 1 set n = 1 / 0 where 1000000000 + id":          impl.ErrOver,
		"update 1 set n = 'a' where 1 / 0":                      impl.ErrZero,
		"update 1 set n = 1 / 0 where id = 2 or 'a'":            impl.ErrZero,
		"update 1 set n = 'a' where id = 2 or 1 / 0":            impl.ErrType,
		"update 1 set n = 1 / 0 where id = 4 or 1 / (id - 2)":   impl.ErrZero,
		"update 1 set n = 'a' where id = 4 or 1000000000 * id":  impl.ErrOver,
		"update 1 set n = 1 / (id - 5) where id < 9 or not 'a'": impl.ErrZero,
		"update 1 set n = 1 / (id - 9) where id < 9 or not 'a'": impl.ErrType,
		"update 1 set n = 1 / (id - 9) where id = 2 or not 'a'": impl.ErrType,
	} {
		s := stmtOf(t, text)
		now, a, code := plainDenote(rows, s)
		if code != want {
			t.Errorf("%s: the plain code is %d, want %d", text, code, want)
		}
		if want != impl.OK {
			now, a = rows, impl.Answer{}
		}
		checkDenoted(t, text, rows, s, now, a, want)
	}
}

// TestCodesOfDenotingInTheirOrder: the length of the rows, then rows and statement, then what the rows tell.
func TestCodesOfDenotingInTheirOrder(t *testing.T) {
	stmts := map[string]impl.Stmt{"wrong": {}, "wrong table": selectOf(4, lacking, 0, false), "insert of an Id that is there": insertOf(1, impl.Row{Id: 5}), "select": selectOf(1, lacking, 0, false), "a code": deleteOf(1, valueExpr(word("a"))), "update": updateOf(1, 1, valueExpr(word("a")), lacking)}
	for name, s := range stmts {
		for _, n := range []int{101, 102, impl.MaxList} {
			checkDenoted(t, name, rowsOf(0, n), s, rowsOf(0, n), impl.Answer{}, impl.ErrMany)
			checkDenoted(t, name, make([]impl.Row, n), s, make([]impl.Row, n), impl.Answer{}, impl.ErrMany)
		}
		for _, rows := range [][]impl.Row{rowsOf(0, impl.MaxList+1), make([]impl.Row, impl.MaxList+1)} {
			checkDenoted(t, name, rows, s, rows, impl.Answer{}, impl.ErrLong)
		}
		for wrong, rows := range wrongTableRows() {
			checkDenoted(t, name+" of "+wrong, rows, s, rows, impl.Answer{}, impl.ErrBad)
		}
		checkDenoted(t, name, make([]impl.Row, 100), s, make([]impl.Row, 100), impl.Answer{}, impl.ErrBad)
	}
	for _, n := range []int{0, 1, 99, 100} {
		rows := rowsOf(0, n)
		checkDenoted(t, "all", rows, selectOf(1, lacking, 0, false), rows, impl.Answer{Rows: rows, Count: n}, impl.OK)
		checkDenoted(t, "all gone", rows, deleteOf(1, lacking), nil, impl.Answer{Count: n}, impl.OK)
		checkDenoted(t, "all of nothing", rows, updateOf(1, 1, columnExpr(1), lacking), rows, impl.Answer{Count: n}, impl.OK)
	}
}

// TestGreatWheres: an expression of MaxNodes nodes, by 100 rows.
func TestGreatWheres(t *testing.T) {
	rows := rowsOf(0, 100)
	checkDenoted(t, "where", rows, deleteOf(1, fortyNodes()), rows[1:], impl.Answer{Count: 1}, impl.OK)
	now := slices.Clone(rows)
	for i := range now {
		now[i].N = number(pick(i == 0, 1, 0))
	}
	checkDenoted(t, "set", rows, updateOf(1, 1, fortyNodes(), lacking), now, impl.Answer{Count: 100}, impl.OK)
}

// TestADeleteTakesWhatASelectTells: just those, and of the same number, or neither does anything, with one code.
func TestADeleteTakesWhatASelectTells(t *testing.T) {
	t.Parallel()
	x := dice(91)
	counts, codes := map[bool]int{}, map[int]int{}
	for range 30000 {
		rows, where := x.rows(9), x.expr(1+x.below(7), 5)
		if x.below(9) == 0 {
			where = lacking
		}
		_, told, code := impl.DenoteStmt(rows, selectOf(1, where, x.below(3), x.below(2) == 0))
		left, gone, goneCode := impl.DenoteStmt(rows, deleteOf(1, where))
		if code != goneCode || told.Count != gone.Count || len(gone.Rows) > 0 || code == impl.OK && told.Count != len(told.Rows) {
			t.Fatalf("where %s: a select tells %v, code %d, a delete %v, code %d", tellExpr(where), told, code, gone, goneCode)
		}
		for _, r := range rows {
			if slices.Contains(told.Rows, r) == slices.Contains(left, r) {
				t.Fatalf("where %s: a select of %v tells %v, a delete leaves %v", tellExpr(where), rows, told.Rows, left)
			}
		}
		if len(left)+len(told.Rows) != len(rows) {
			t.Fatalf("where %s: %v, of which a select tells %v, a delete leaves %v", tellExpr(where), rows, told.Rows, left)
		}
		counts[told.Count > 0 && len(left) > 0]++
		codes[code]++
	}
	if counts[true] < 500 || codes[impl.OK] < 500 || codes[impl.ErrType] < 500 {
		t.Errorf("some of the rows were told %d times, codes %v", counts[true], codes)
	}
}

// TestRunsOfDenoting: whatever the statement and the rows are, held against the plain meaning.
func TestRunsOfDenoting(t *testing.T) {
	t.Parallel()
	x := dice(101)
	codes, kinds := map[int]int{}, map[string]int{}
	for range 60000 {
		rows, s := x.rows(pick(x.below(50) == 0, 100, 8)), x.stmt(1+x.below(9))
		if x.below(30) == 0 {
			s = x.editedStmt(s)
		}
		if x.below(50) == 0 && len(rows) > 1 {
			rows[0], rows[1] = rows[1], rows[0]
		}
		now, a, code := plainDenote(rows, s)
		checkDenoted(t, tellStmt(s), rows, s, now, a, code)
		codes[code]++
		if code == impl.OK && a.Count > 0 {
			kinds[fmt.Sprint(s.Kind, len(s.Where.Nodes) > 0)]++
		}
	}
	for _, code := range []int{impl.OK, impl.ErrBad, impl.ErrKey, impl.ErrType, impl.ErrZero, impl.ErrOver} {
		if codes[code] < 200 {
			t.Errorf("code %d came %d times: %v", code, codes[code], codes)
		}
	}
	for _, kind := range []string{"1 false", "1 true", "2 false", "3 false", "3 true", "4 false", "4 true"} {
		if kinds[kind] < 200 {
			t.Errorf("kind %s was done %d times: %v", kind, kinds[kind], kinds)
		}
	}
}
