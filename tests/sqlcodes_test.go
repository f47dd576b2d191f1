package tests

import (
	"fmt"
	"strings"
	"testing"

	"loop.example/g00332/impl"
)

func TestTextsThatAreNoStatements(t *testing.T) {
	for _, text := range []string{"", " ", "   ", "1", "n", "'select'", "(", "- 1", "drop 1", "create 1", "selects 1", "selec 1", "1 select", "set", "where n", "order n", "desc", "null", "not", "(select 1)", "select1", "select select 1",
		"select", "insert", "update", "delete", "select 0", "select 4", "select 5", "select 01", "select 001", "select 10", "select 11", "select - 1", "select -1", "select - 0", "select n", "select id", "select null", "select '1'", "select (1)", "select *", "select 1000000001", "select 99999999999999999999", "select where n", "select order n",
		"insert 0 1 1 'a'", "insert 4 1 1 'a'", "insert n 1 1 'a'", "update 0 set n = 1", "update 4 set n = 1", "delete 0", "delete 4", "delete 01", "delete n", "delete where n",
		"select 1 n", "select 1 1", "select 1 2", "select 1 ,", "select 1, 2", "select 1 (", "select 1 )", "select 1 desc", "select 1 where n desc", "select 1 set n = 1", "select 1 id", "select 1 select 1", "select 1 order id id", "select 1 order id, n", "select 1 order n x", "select 1 order n 5", "select 1 order n desc desc", "select 1 order n desc n", "select 1 order n desc where n", "select 1 order n where n", "select 1 order id order n", "select 1 where n where n", "select 1 where n order n order n", "select 1 where n order n x",
		"select 1 where", "select 1 where order n", "select 1 where where n", "select 1 where desc", "select 1 where (n order n", "select 1 where n)", "select 1 where n n", "select 1 where n +", "select 1 where n + order n", "select 1 where n = 1 = 1", "select 1 where n is 5", "select 1 where x", "select 1 where ()", "select 1 where n or order n", "select 1 where not", "select 1 where 01", "select 1 where 1000000001", "select 1 where 'abcdefghijk'", "select 1 where n, n",
		"insert 1", "insert 1 1", "insert 1 1 1", "insert 1 1 1 'a' 'a'", "insert 1 1 1 'a' 1", "insert 1 1 1 'a' n", "insert 1 1 1 null where n", "insert 1 1 1 'a' order n", "insert 1 1 1 'a' desc", "insert 1 1 1 'a',", "insert 1, 1, 1, 'a'", "insert 1 (1, 1, 'a')", "insert 1 1 1 'a' insert 1 2 2 'b'", "insert 1 set n = 1",
		"insert 1 -1 1 'a'", "insert 1 - 1 1 'a'", "insert 1 1001 1 'a'", "insert 1 1000000000 1 'a'", "insert 1 null 1 'a'", "insert 1 'a' 1 'a'", "insert 1 id 1 'a'", "insert 1 01 1 'a'", "insert 1 -0 1 'a'", "insert 1 (1) 1 'a'", "insert 1 1001 x y",
		"insert 1 1 'a' 'a'", "insert 1 1 '' null", "insert 1 1 n 'a'", "insert 1 1 1 1", "insert 1 1 1 0", "insert 1 1 null 5", "insert 1 1 1 name", "insert 1 1 1 a", "insert 1 1 01 'a'", "insert 1 1 -0 'a'", "insert 1 1 - 0 'a'", "insert 1 1 -01 'a'", "insert 1 1 - - 1 'a'", "insert 1 1 - 'a'", "insert 1 1 - null 'a'", "insert 1 1 - 'b' 'a'", "insert 1 1 + 1 'a'", "insert 1 1 1 + 1 'a'", "insert 1 1 (1) 'a'", "insert 1 1 1000000001 'a'", "insert 1 1 -1000000001 'a'", "insert 1 1 9223372036854775808 'a'", "insert 1 1 -9223372036854775808 'a'", "insert 1 1 1 'abcdefghijk'", "insert 1 1 1 -'a'", "insert 1 1 1 -", "insert 1 1 -", "insert 1 -",
		"update 1", "update 1 n = 1", "update 1 where n", "update 1 order n", "update 1 set n", "update 1 set n 1", "update 1 set n < 1", "update 1 set n is null", "update 1 set name", "update 1 set n =", "update 1 set n = where n", "update 1 set n = = 1", "update 1 set n = 1 = 1 = 1", "update 1 set n = 1 where", "update 1 set n = 1 where where n", "update 1 set n = 1 where n where n", "update 1 set n = 1 where n order n", "update 1 set n = 1 order n", "update 1 set n = 1 desc", "update 1 set n = 1, name = 'a'", "update 1 set n = 1 set n = 2", "update 1 set n = x", "update 1 set n = 1 2", "update 1 set n = (1", "update 1 set n = 1)", "update 1 set n = 1 where n)", "update 1 1 set n = 1", "update set n = 1",
		"delete 1 n", "delete 1 1", "delete 1 order n", "delete 1 order", "delete 1 order x", "delete 1 desc", "delete 1 set n = 1", "delete 1 where", "delete 1 where n order n", "delete 1 where n desc", "delete 1 where n n", "delete 1 where n where n", "delete 1 where order", "delete 1 where n order", "delete 1 delete 1", "delete 1 where x",
		"#", "select 1 #", "select 1 where n #", "insert 1 1 1 'A'", "insert 1 1 1 'a", "select 1;", "select\t1", "select\n1", "Select 1", "SELECT 1", "select 1 where n > 1", "select 1 order N", "é", "select 1 é", "\xff", "\x00", "select 1\x00", "update 1 set x = #", "select 1 order #"} {
		checkNoStmt(t, text, impl.ErrForm)
		checkNoStmt(t, text+" ", impl.ErrForm)
	}
}

// TestWhereAColumnMustStand: anything else, or nothing, is no column; of set only the latter two are.
func TestWhereAColumnMustStand(t *testing.T) {
	others := []string{"", "x", "nn", "ids", "names", "name1", "i", "null", "not", "desc", "order", "where", "set", "select", "5", "0", "1", "'n'", "'name'", "''", "(", ")", "(n)", "-", "- n", "+", "*", "=", "<", ",", "= 1", "desc desc"}
	behind := []string{"", " desc", " x", " n", " = 1", " = x", " =", " = 1 where n", " where n", " )", " = 1 2", " = " + manyNodes(41), " = " + within(49, "n"), " = " + deepSums(13)}
	for _, other := range others {
		for _, more := range behind {
			for _, ahead := range []string{"select 1 order ", "select 3 where n order ", "update 1 set ", "update 3 set "} {
				if other != "" || !strings.HasPrefix(strings.TrimSpace(more), "n") {
					checkNoStmt(t, ahead+other+more, impl.ErrColumn)
				}
			}
		}
	}
	for _, more := range behind {
		checkNoStmt(t, "update 1 set id"+more, impl.ErrColumn)
	}
	for _, text := range []string{"select 1 order id", "select 1 order n", "select 1 order name", "update 1 set n = 1", "update 1 set name = 1"} {
		if _, code := impl.ParseSql(text); code != impl.OK {
			t.Errorf("%q: code %d", text, code)
		}
	}
}

// TestCodesOfExpressionsInStatements: they are ParseExpr's, but of what is left behind; a Set's come ahead of a Where's.
func TestCodesOfExpressionsInStatements(t *testing.T) {
	wrong := map[string]int{
		"": impl.ErrForm, "n +": impl.ErrForm, "or": impl.ErrForm, "x": impl.ErrForm, "(n": impl.ErrForm, "n is 5": impl.ErrForm, "01": impl.ErrForm, "n = 1 and": impl.ErrForm,
		manyNodes(41): impl.ErrMany, deepSums(30): impl.ErrMany, manyNodes(41) + " or or": impl.ErrMany, manyNodes(40) + " +": impl.ErrForm, manyNodes(40) + " or " + strings.Repeat("(", 49): impl.ErrDepth,
		within(49, "n"): impl.ErrDepth, strings.Repeat("not ", 49) + "n": impl.ErrDepth, strings.Repeat("- ", 49) + "n": impl.ErrDepth, deepSums(13): impl.ErrDepth, within(20, deepSums(13)): impl.ErrDepth, strings.Repeat("not ", 12) + "n": impl.ErrDepth,
	}
	for first, code := range wrong {
		for _, ahead := range []string{"select 1 where ", "delete 2 where ", "update 3 set n = ", "update 1 set name = ", "update 3 set n = n where "} {
			checkNoStmt(t, ahead+first, code)
		}
		for _, behind := range []string{" order x", " order", " where n", " desc", " ,"} {
			checkNoStmt(t, "select 1 where "+first+behind, code)
		}
		for second := range wrong {
			checkNoStmt(t, "update 1 set n = "+first+" where "+second, code)
		}
	}
}

// TestTheFirstFaultInReading: where several stand in one text, the leftmost one counts, whatever its code is.
func TestTheFirstFaultInReading(t *testing.T) {
	many, deep, open := manyNodes(41), deepSums(13), within(49, "n")
	for _, c := range []struct {
		what, text string
		want       int
	}{
		{"no statement, then a column", "drop 1 order x", impl.ErrForm},
		{"a table, then a column", "select 4 order x", impl.ErrForm},
		{"a table, then a column of set", "update 4 set x = 1", impl.ErrForm},
		{"a table, then an expression", "delete 0 where " + many, impl.ErrForm},
		{"a table that lacks, then a column", "select order x", impl.ErrForm},
		{"no set, then a column", "update 1 x = " + many, impl.ErrForm},
		{"a column, then the sign", "update 1 set x 1", impl.ErrColumn},
		{"a column, then an expression", "update 1 set x = +", impl.ErrColumn},
		{"a column, then an expression of many nodes", "update 1 set id = " + many, impl.ErrColumn},
		{"a column, then an expression that is deep", "update 1 set id = " + deep, impl.ErrColumn},
		{"a column, then a Where", "update 1 set x = 1 where " + many, impl.ErrColumn},
		{"a column, then what is left", "select 1 order x y", impl.ErrColumn},
		{"a column that lacks, then what is left", "select 1 order desc desc", impl.ErrColumn},
		{"the sign, then an expression", "update 1 set n < " + many, impl.ErrForm},
		{"the sign that lacks, then an expression", "update 1 set n " + open, impl.ErrForm},
		{"an expression, then a Where", "update 1 set n = " + many + " where " + open, impl.ErrMany},
		{"a deep one, then a Where", "update 1 set n = " + deep + " where " + many, impl.ErrDepth},
		{"an open one, then a Where", "update 1 set n = " + open + " where " + many, impl.ErrDepth},
		{"form of an expression, then a Where", "update 1 set n = or where " + many, impl.ErrForm},
		{"a Where, then a column", "select 1 where " + many + " order x", impl.ErrMany},
		{"a deep Where, then a column", "select 1 where " + deep + " order x", impl.ErrDepth},
		{"form of a Where, then a column", "select 1 where n or order x", impl.ErrForm},
		{"a right Where, then a column", "select 1 where " + deepSums(12) + " order x", impl.ErrColumn},
		{"a deep Where, then what is left", "delete 1 where " + deep + " n", impl.ErrDepth},
		{"a deep Where, then an order of a delete", "delete 1 where " + deep + " order n", impl.ErrDepth},
		{"a deep Where, then form within it", "delete 1 where " + deep + " or", impl.ErrForm},
		{"a deep Set, then what is left", "update 1 set n = " + deep + " )", impl.ErrDepth},
		{"what is left, then a column: it is not read", "delete 1 order x", impl.ErrForm},
		{"what is left, then an expression: it is not read", "delete 1 n where " + many, impl.ErrForm},
		{"left behind a Where, then a column", "select 1 where n n order x", impl.ErrForm},
		{"left behind a Set, then a Where", "update 1 set n = n n where " + many, impl.ErrForm},
		{"left behind all", "select 1 where n order n desc 5", impl.ErrForm},
		{"a row, then what is left", "insert 1 1001 1 'a' where " + many, impl.ErrForm},
		{"a right row, then what is left", "insert 1 1000 1 'a' order x", impl.ErrForm},
	} {
		if _, code := impl.ParseSql(c.text); code != c.want {
			t.Errorf("%s: code %d, want %d", c.what, code, c.want)
		}
		checkNoStmt(t, c.text, c.want)
	}
}

// TestCodesOfTokensComeFirst: ahead of any fault in reading, wherever they stand.
func TestCodesOfTokensComeFirst(t *testing.T) {
	long := strings.Repeat(" ", impl.MaxText)
	many := strings.Repeat(" n", 501)
	for _, text := range []string{"select 1", "select 1 order x", "drop 1", "update 1 set id = 1", "select 1 where " + manyNodes(41), "delete 1 where " + deepSums(13), "", "insert 1 1 1 'a'"} {
		checkNoStmt(t, text+long+"#", impl.ErrLong)
		checkNoStmt(t, long+" "+text, impl.ErrLong)
		checkNoStmt(t, text+strings.Repeat(" ", impl.MaxText+1-len(text)), impl.ErrLong)
		checkNoStmt(t, text+many, impl.ErrMany)
		checkNoStmt(t, text+many+" #", impl.ErrMany)
		checkNoStmt(t, text+" #"+many, impl.ErrForm)
		checkNoStmt(t, text+" #", impl.ErrForm)
		checkNoStmt(t, "# "+text, impl.ErrForm)
	}
	padded := "select 1 order n" + strings.Repeat(" ", impl.MaxText-16)
	checkStmt(t, padded, selectOf(1, lacking, 1, false), "select 1 order n")
	checkNoStmt(t, padded+" ", impl.ErrLong)
	// Of 500 tokens, three ahead of an expression.
	most := "delete 1 where " + strings.TrimSuffix(strings.Repeat(within(24, "n")+" + ", 9), " + ") + " + " + within(20, "n") + " + ((n))"
	if tokens, _ := impl.LexSql(most); len(tokens) != impl.MaxTokens {
		t.Fatalf("%d tokens", len(tokens))
	}
	want := deleteOf(1, parsed(t, deepSums(11)))
	checkStmt(t, most, want, plainStmtText(want))
	checkNoStmt(t, most+" n", impl.ErrMany)
}

// stmtSoup are the tokens of a right statement, some of them spoilt.
func (x *dice) stmtSoup() []string {
	all := []string{"select", "insert", "update", "delete", "where", "where", "order", "order", "desc", "set", "=", "id", "n", "name", "x", "1", "2", "4", "01", "1001", "-", "5", "null", "'a'", "(", ")", ",", "or", "not", "+"}
	tokens := x.stmtTokens(x.stmt(1 + x.below(5)))
	for range x.below(4) {
		at := x.below(len(tokens) + 1)
		switch x.below(6) {
		case 0:
			tokens = append(tokens[:at:at], tokens[min(at+1, len(tokens)):]...)
		case 1:
			tokens = append(append(tokens[:at:at], all[x.below(len(all))]), tokens[at:]...)
		case 2:
			tokens = append(append(tokens[:at:at], all[x.below(len(all))]), tokens[min(at+1, len(tokens)):]...)
		case 3:
			tokens = tokens[:at]
		case 4:
			great := []string{manyNodes(41), deepSums(13), within(49, "n"), manyNodes(40), deepSums(12), within(48, "n")}[x.below(6)]
			tokens = append(append(tokens[:at:at], strings.Fields(strings.NewReplacer("(", " ( ", ")", " ) ").Replace(great))...), tokens[min(at+1, len(tokens)):]...)
		}
	}
	return tokens
}

// TestRunsOfTextsThatMayBeStatements: whatever stands in a text, held against a plain reading.
func TestRunsOfTextsThatMayBeStatements(t *testing.T) {
	t.Parallel()
	x := dice(71)
	codes := map[int]int{}
	for range 60000 {
		text := strings.Join(x.stmtSoup(), " ")
		want, wantCode := plainSql(text)
		got, code := impl.ParseSql(text)
		if !sameStmt(got, want) || code != wantCode {
			t.Fatalf("%q: %s\ncode %d, want %s\ncode %d", text, tellStmt(got), code, tellStmt(want), wantCode)
		}
		if impl.StmtOK(got) != (code == impl.OK) {
			t.Fatalf("%q: code %d, and right is %v", text, code, impl.StmtOK(got))
		}
		codes[code]++
	}
	for _, code := range []int{impl.OK, impl.ErrForm, impl.ErrColumn, impl.ErrMany, impl.ErrDepth} {
		if codes[code] < 300 {
			t.Errorf("code %d came %d times: %s", code, codes[code], fmt.Sprint(codes))
		}
	}
}
