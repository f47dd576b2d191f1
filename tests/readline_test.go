package tests

import (
	"fmt"
	"strings"
	"testing"

	"loop.example/g00332/impl"
)

// rightLines are of each kind of act, with one blank between words.
func rightLines(t *testing.T) map[string]impl.WorldAct {
	t.Helper()
	list := map[string]impl.WorldAct{"check": checkAct(), "crash": crashAct(), "arm": armAct(), "restart": restartAct(0),
		"evict 0": evictAct(0), "evict 7": evictAct(7), "evict 8": evictAct(8), "evict -1": evictAct(-1), "evict 10": evictAct(10), "evict -120": evictAct(-120),
		"evict 999999999999999999": evictAct(999999999999999999), "evict -999999999999999999": evictAct(-999999999999999999)}
	for session := range 3 {
		for word, a := range map[string]impl.WorldAct{"begin": beginAct(session), "commit": commitAct(session), "abort": abortAct(session)} {
			list[fmt.Sprint(session, " ", word)] = a
		}
		for _, text := range []string{"select 1", "select 2 where n", "select 3 where (n < 5) order n desc", "select 1 order name", "insert 1 5 -7 'ab'", "insert 3 1000 null null", "insert 2 0 0 ''", "update 1 set n = (n + 1)", "update 2 set name = 'check' where (not (id is null))", "delete 3", "delete 1 where (n = -1000000000)"} {
			list[fmt.Sprint(session, " ", text)] = sqlAct(session, stmtOf(t, text))
		}
	}
	return list
}

// TestActsOfLines: with any blanks ahead of words, between and behind them.
func TestActsOfLines(t *testing.T) {
	for line, want := range rightLines(t) {
		if words := plainWords(line); strings.Join(words, " ") != line {
			t.Fatalf("%q has the words %q", line, words)
		}
		for _, ahead := range []string{"", " ", "    "} {
			for _, between := range []string{" ", "  ", strings.Repeat(" ", 40)} {
				for _, behind := range []string{"", " ", "     "} {
					checkLine(t, ahead+strings.ReplaceAll(line, " ", between)+behind, want)
				}
			}
		}
	}
}

// TestLinesOfStatements: a statement's text needs no more blanks than ParseSql does, but for the one behind the session.
func TestLinesOfStatements(t *testing.T) {
	for line, text := range map[string]string{"0 select 1where n<5order n": "select 1 where n < 5 order n", "1 insert 1 5-7'ab'": "insert 1 5 -7 'ab'", "2 update 1set n=n+1where'a'=name": "update 1 set n = n + 1 where 'a' = name", "1 delete 3where(n)": "delete 3 where n", "0  delete   3 where - 5<n": "delete 3 where -5 < n"} {
		checkLine(t, line, sqlAct(int(line[0])-48, stmtOf(t, text)))
	}
	for _, line := range []string{"0select 1", "1insert 1 5 -7 'ab'", "2delete 3", "0begin", "1commit", "2abort", "0'a'", "0-1", "1(", "2,"} {
		checkNoAct(t, line, impl.ErrForm)
	}
}

// otherBytes are texts that are no blanks, though some take them for such, and others that no act has.
func otherBytes() []string {
	list := []string{"\u0085", "\u00a0", "\u1680", "\u2000", "\u2003", "\u2028", "\u2029", "\u202f", "\u205f", "\u3000", "\u180e", "\u200b", "\ufeff", "\r\n", "\xc2", "\xe2\x80", "\xff\xfe", "é", "😀"}
	for b := range 256 {
		if b < 32 || b > 126 {
			list = append(list, string([]byte{byte(b)}))
		}
	}
	return list
}

// TestBytesThatAreNoBlanks: in the place of one, or beside one, or in a word, or at an end of a line, they make it none.
func TestBytesThatAreNoBlanks(t *testing.T) {
	for line := range rightLines(t) {
		if line[0] != '1' && line[0] != '2' { // session 0 stands for the others
			for _, other := range otherBytes() {
				for i := range len(line) + 1 {
					checkNoAct(t, line[:i]+other+line[i:], impl.ErrForm)
				}
				checkNoAct(t, line+" "+other, impl.ErrForm)
				checkNoAct(t, other+" "+line, impl.ErrForm)
				checkNoAct(t, line+" "+other+" ", impl.ErrForm)
				if strings.Contains(line, " ") {
					checkNoAct(t, strings.ReplaceAll(line, " ", other), impl.ErrForm)
					checkNoAct(t, strings.Replace(line, " ", other, 1), impl.ErrForm)
					checkNoAct(t, strings.ReplaceAll(line, " ", " "+other+" "), impl.ErrForm)
				}
			}
		}
	}
	for _, other := range otherBytes() {
		checkNoAct(t, other, impl.ErrForm)
		checkNoAct(t, " "+other+" ", impl.ErrForm)
	}
}

// TestEachByteInEachPlace: put in, put in the place of another, or with one taken away, a line is read as it plainly is.
func TestEachByteInEachPlace(t *testing.T) {
	codes := map[int]int{}
	for _, line := range []string{"check", "crash", "arm", "restart", "evict 7", "evict -10", "0 begin", "1  commit", "2 abort", "1 select 2 where n < 3", "0 insert 1 5 -7 'ab'", "2 update 1 set n = 1", " 0 delete 1 ", "# check"} {
		for i := range len(line) + 1 {
			for b := range 256 {
				c := string([]byte{byte(b)})
				codes[checkReads(t, line[:i]+c+line[i:])]++
				codes[checkReads(t, line[:i]+c+line[min(i+1, len(line)):])]++
			}
			codes[checkReads(t, line[:i]+line[min(i+1, len(line)):])]++
		}
	}
	for b := range 256 * 256 {
		codes[checkReads(t, string([]byte{byte(b >> 8), byte(b)}))]++
	}
	if codes[impl.OK] < 100 || codes[impl.ErrForm] < 10000 || codes[impl.ErrColumn] < 100 {
		t.Errorf("codes %v", codes)
	}
}

// TestSessionsOfLines: just 0, 1 and 2, as they are told; of another text no statement is read.
func TestSessionsOfLines(t *testing.T) {
	many := strings.Repeat("n ", 501)
	for _, word := range []string{"3", "4", "9", "10", "11", "12", "20", "21", "00", "01", "02", "000", "-0", "-1", "-2", "+0", "+1", "+2", "0.", "1.0", "0x1", "1_", "1e0", "0,", "0:", "(0)", "'0'", "a", "s0", "S", "0#", "①", "１", "٠", "x0", "null", "id", "begin", "select", "999999999999999999", "18446744073709551616", "4294967296", "256"} {
		for _, rest := range []string{"", " begin", " commit", " abort", " select 1", " select 1 order x", " update 1 set id = 1", " select 1 where " + manyNodes(41), " delete 1 where " + deepSums(13), " " + many} {
			checkNoAct(t, word+rest, impl.ErrForm)
			checkNoAct(t, "  "+word+"  "+rest+" ", impl.ErrForm)
		}
	}
	for _, word := range []string{"0", "1", "2"} {
		checkNoAct(t, word, impl.ErrForm)
		checkNoAct(t, " "+word+"  ", impl.ErrForm)
		checkNoAct(t, word+" select 1 order x", impl.ErrColumn)
		for _, other := range []string{"0", "1", "2", "3"} {
			checkNoAct(t, word+" "+other+" begin", impl.ErrForm)
			checkNoAct(t, word+" "+other, impl.ErrForm)
			checkNoAct(t, word+other+" begin", impl.ErrForm)
		}
	}
}

// TestNumbersOfEvictions: every form of a number's text, and of what is none.
func TestNumbersOfEvictions(t *testing.T) {
	for n := -130; n <= 130; n++ {
		checkLine(t, fmt.Sprintf("evict %d", n), evictAct(n))
	}
	for size := 1; size <= 18; size++ {
		digits := "123456789012345678"[:size]
		n := 0
		for _, c := range digits {
			n = n*10 + int(c-'0')
		}
		checkLine(t, "evict "+digits, evictAct(n))
		checkLine(t, "evict -"+digits, evictAct(-n))
		for _, bad := range []string{"0" + digits, "-0" + digits, "+" + digits, "--" + digits, digits + "-", digits + ".", digits + ".0", digits + "e0", digits + "_0", "_" + digits, "0x" + digits, "0" + strings.Repeat("0", 17) + digits, "'" + digits + "'", "(" + digits + ")", digits + ",", "- " + digits, "#" + digits} {
			checkNoAct(t, "evict "+bad, impl.ErrForm)
		}
	}
	for _, bad := range []string{"", "-", "--", "+", "-0", "+0", "00", "000", "-00", "x", "n", "null", "''", "'a'", "one", "0b1", "0o7", "１", "٣", "1234567890123456789", "-1234567890123456789", "1000000000000000000", "-1000000000000000000", "9223372036854775807", "-9223372036854775808", "9223372036854775808", "18446744073709551615", "99999999999999999999", "inf", "nan", ".", "5.", ".5", strings.Repeat("9", 1000)} {
		checkNoAct(t, "evict "+bad, impl.ErrForm)
		checkNoAct(t, "evict  "+bad+" ", impl.ErrForm)
	}
}

// TestWordsTooManyAndTooFew: of each act but a statement.
func TestWordsTooManyAndTooFew(t *testing.T) {
	more := []string{"0", "1", "x", "now", "check", "begin", "#", "# now", "'a'", "-1", "select 1", ","}
	for line := range rightLines(t) {
		words := plainWords(line)
		if len(words) > 2 {
			continue
		}
		for _, x := range more {
			checkNoAct(t, line+" "+x, impl.ErrForm)
		}
		for range len(words) - 1 {
			words = words[:len(words)-1]
			checkNoAct(t, strings.Join(words, " "), impl.ErrForm)
		}
	}
	for _, line := range []string{"begin", "commit", "abort", "begin 0", "commit 1", "abort 2", "begin 0 begin", "evict", "evict 1 2", "evict 1 1", "evict 1 #", "evict evict 1", "1 evict", "0 evict 1", "0 check", "1 crash", "2 arm", "0 restart", "check check", "check 0", "arm 1", "arm 1 0", "crash 1", "restart 1", "restart 0", "restart restart",
		"sql", "0 sql select 1", "select 1", "insert 1 1 1 'a'", "update 1 set n = 1", "delete 1", "go", "help", "quit", "exit", ".", "?", "ok", "error", "error form", "0 begin 1 begin", "0 begin; 1 begin", "0, begin", "0 begin,", "0 begin.",
		"Check", "CHECK", "checks", "chec", "check.", "checkpoint", "crashed", "arms", "armed", "restarts", "start", "Evict 1", "evicts 1", "evic 1", "0 Begin", "0 BEGIN", "0 begins", "0 begi", "0 commits", "0 aborted", "0 rollback", "0 end"} {
		checkNoAct(t, line, impl.ErrForm)
	}
}

// TestLinesThatSayNothingAreNoActs.
func TestLinesThatSayNothingAreNoActs(t *testing.T) {
	for _, line := range []string{"", " ", "     ", "#", "# ", " #", "##", "#check", "# check", "   # 0 begin", "#0 begin", "#\xff", "# \t", strings.Repeat(" ", impl.MaxText), strings.Repeat("#", impl.MaxText), "#" + strings.Repeat(" ", impl.MaxText-1)} {
		checkNoAct(t, line, impl.ErrForm)
	}
}

// noStatements are texts that ParseSql refuses, with each of its codes.
func noStatements() map[string]int {
	return map[string]int{
		"": impl.ErrForm, "drop 1": impl.ErrForm, "select": impl.ErrForm, "select 4": impl.ErrForm, "insert 1 1001 1 'a'": impl.ErrForm, "select 1 desc": impl.ErrForm, "delete 1 where": impl.ErrForm, "select 1 #": impl.ErrForm, "select 1;": impl.ErrForm, "insert 1 1 1 'a": impl.ErrForm, "insert 1 1 1 'A'": impl.ErrForm, "insert 1 1 1 'a b'": impl.ErrForm, "Select 1": impl.ErrForm,
		"select 1 order x": impl.ErrColumn, "select 1 order": impl.ErrColumn, "update 1 set id = 1": impl.ErrColumn, "update 1 set 5": impl.ErrColumn, "update 3 set": impl.ErrColumn,
		"select 1 where " + manyNodes(41): impl.ErrMany, "update 1 set n = " + manyNodes(41): impl.ErrMany, strings.Repeat("n ", 501): impl.ErrMany, "select 1" + strings.Repeat(" n", 499): impl.ErrMany, strings.Repeat("n ", 501) + "#": impl.ErrMany, "begin" + strings.Repeat(" n", 500): impl.ErrMany, "commit" + strings.Repeat(",", 500) + "#": impl.ErrMany,
		"# " + strings.Repeat("n ", 501): impl.ErrForm, "begin #" + strings.Repeat(" n", 501): impl.ErrForm, strings.Repeat("n ", 500): impl.ErrForm, strings.Repeat("n ", 500) + "#": impl.ErrForm,
		"delete 1 where " + within(49, "n"): impl.ErrDepth, "delete 1 where " + deepSums(13): impl.ErrDepth, "update 1 set n = " + deepSums(13) + " where n n": impl.ErrDepth, "select 1 where " + deepSums(13) + " order x": impl.ErrDepth,
	}
}

// TestStatementsOfLinesThatAreNone: the code is ParseSql's.
func TestStatementsOfLinesThatAreNone(t *testing.T) {
	for text, want := range noStatements() {
		if _, code := impl.ParseSql(text); code != want {
			t.Errorf("ParseSql of %.100q: code %d, want %d", text, code, want)
		}
		for session := range 3 {
			checkNoAct(t, fmt.Sprint(session, " ", text), want)
			checkNoAct(t, fmt.Sprint("  ", session, "   ", text, "  "), want)
		}
		checkNoAct(t, text, impl.ErrForm)
		checkNoAct(t, "3 "+text, impl.ErrForm)
	}
}

// TestLongLines: up to MaxText bytes a line is what it is; beyond that it is too long, whatever it is.
func TestLongLines(t *testing.T) {
	for line, want := range rightLines(t) {
		if line[0] == '1' || line[0] == '2' {
			continue
		}
		padded := line + strings.Repeat(" ", impl.MaxText-len(line))
		checkLine(t, padded, want)
		checkLine(t, padded[len(line):]+line, want)
		checkNoAct(t, padded+" ", impl.ErrLong)
		checkNoAct(t, " "+padded, impl.ErrLong)
		checkNoAct(t, padded[:impl.MaxText-1]+"\t", impl.ErrForm)
		checkNoAct(t, padded+"\t", impl.ErrLong)
	}
	for text, want := range noStatements() {
		line := "2 " + text
		checkNoAct(t, line+strings.Repeat(" ", impl.MaxText-len(line)), want)
		checkNoAct(t, line+strings.Repeat(" ", impl.MaxText+1-len(line)), impl.ErrLong)
	}
	for _, c := range []string{" ", "#", "x", "0", "9", "\n", "\t", "\x00", "\xff", "-", "'", "("} {
		for _, ahead := range []string{"", "0 ", "evict ", "check ", "0 select 1 order "} {
			line := ahead + strings.Repeat(c, impl.MaxText-len(ahead))
			checkReads(t, line)
			checkNoAct(t, line+c, impl.ErrLong)
			checkNoAct(t, line+strings.Repeat(c, 3*impl.MaxText), impl.ErrLong)
		}
	}
}

// lineSoup is a line that may be an act.
func (x *dice) lineSoup() string {
	words := []string{"0", "1", "2", "3", "00", "-0", "+1", "check", "crash", "arm", "restart", "evict", "begin", "commit", "abort", "select", "insert", "#", "-1", "7", "8", "01", "n", "\t", "\xa0", "x", "''", "1 order", "where"}
	line := strings.Repeat(" ", max(0, x.below(6)-3))
	switch x.below(5) {
	case 0:
		line += fmt.Sprint(x.below(3), " ", strings.Join(x.stmtSoup(), " "))
	case 1:
		line += fmt.Sprint(x.below(3), " ", []string{"begin", "commit", "abort", "select 1"}[x.below(4)])
	case 2:
		line += fmt.Sprint("evict ", x.below(20)-5)
	default:
		for range 1 + x.below(3) {
			line += words[x.below(len(words))] + strings.Repeat(" ", x.below(3))
		}
	}
	if x.below(4) == 0 {
		i := x.below(len(line) + 1)
		line = line[:i] + string([]byte{byte(x.below(256))}) + line[i:]
	}
	return line + strings.Repeat(" ", max(0, x.below(6)-3))
}

// TestRunsOfLinesThatMayBeActs: whatever stands in a line, held against a plain reading.
func TestRunsOfLinesThatMayBeActs(t *testing.T) {
	t.Parallel()
	x := dice(83)
	codes, kinds := map[int]int{}, map[int]int{}
	for range 60000 {
		line := x.lineSoup()
		code := checkReads(t, line)
		codes[code]++
		if code == impl.OK {
			a, _ := impl.ReadLine(line)
			kinds[a.Kind]++
		}
	}
	for _, code := range []int{impl.OK, impl.ErrForm, impl.ErrColumn, impl.ErrMany, impl.ErrDepth} {
		if codes[code] < 40 {
			t.Errorf("code %d came %d times: %v", code, codes[code], codes)
		}
	}
	for kind := impl.WoBegin; kind <= impl.WoRestart; kind++ {
		if kinds[kind] < 40 {
			t.Errorf("kind %d came %d times: %v", kind, kinds[kind], kinds)
		}
	}
}
