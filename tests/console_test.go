package tests

import (
	"fmt"
	"slices"
	"strings"
	"testing"

	"loop.example/g00332/impl"
)

// TestADayAtTheConsole: statements of all kinds in three sessions, that wait, are undone, committed, and outlive crashes.
func TestADayAtTheConsole(t *testing.T) {
	checkExchanges(t, "a day", []exchange{
		{"# three sessions", ""},
		{"0 begin", "ok"},
		{"1 begin", "ok"},
		{"0 insert 1 5 -7 'ab'", "1"},
		{"0 insert 1 3 20 null", "1"},
		{"0 insert 1 9 null ''", "1"},
		{"", ""},
		{"1 insert 2 3 0 'zz'", "1"},
		{"0 select 1", "3 (3 20 null) (5 -7 'ab') (9 null '')"},
		{"0 select 1 order n", "3 (9 null '') (5 -7 'ab') (3 20 null)"},
		{"0 select 1 order name desc", "3 (5 -7 'ab') (9 null '') (3 20 null)"},
		{"0 select 1 where n < 0 or name is null", "2 (3 20 null) (5 -7 'ab')"},
		{"0 select 3", "0"},
		{"0 update 1 set n = n + 1 where n is null or n < 100", "3"},
		{"0 select 1 where id = 9 or id = 5", "2 (5 -6 'ab') (9 null '')"},
		{"1 select 1", "error wait"},
		{"0 commit", "ok"},
		{"1 select 1", "3 (3 21 null) (5 -6 'ab') (9 null '')"},
		{"1 delete 1 where n", "2"},
		{"1 select 1", "1 (9 null '')"},
		{"1 abort", "ok"},
		{"2 begin", "ok"},
		{"  2   select  1  ", "3 (3 21 null) (5 -6 'ab') (9 null '')"},
		{"2 select 2", "0"},
		{"2 update 2 set n = 1", "0"},
		{"check", "ok"},
		{"evict 0", "error none"},
		{"evict 7", "ok"},
		{"evict 7", "error none"},
		{"2 delete 1 where id = 3", "1"},
		{"2 insert 3 1000 1000000000 'abcdefghij'", "1"},
		{"2 commit", "ok"},
		{"crash", "ok"},
		{"2 begin", "error down"},
		{"restart", "ok"},
		{"0 begin", "ok"},
		{"0 select 1", "2 (5 -6 'ab') (9 null '')"},
		{"0 select 3", "1 (1000 1000000000 'abcdefghij')"},
		{"0 delete 3", "1"},
		{"arm", "ok"},
		{"0 commit", "error down"},
		{"restart", "ok"},
		{"1 begin", "ok"},
		{"1 select 3", "1 (1000 1000000000 'abcdefghij')"},
	})
}

// inserts are lines that put rows into table 1, each answered by 1.
func inserts(session, from, to int) []exchange {
	var list []exchange
	for id := from; id < to; id++ {
		list = append(list, exchange{fmt.Sprintf("%d insert 1 %d %d 'a'", session, id, id), "1"})
	}
	return list
}

// TestCodesOfActsAtTheConsole: each act with every code that it can have there.
func TestCodesOfActsAtTheConsole(t *testing.T) {
	t.Parallel()
	for name, list := range map[string][]exchange{
		"no transaction": {{"0 commit", "error tx"}, {"1 abort", "error tx"}, {"2 select 1", "error tx"}, {"2 insert 1 1 1 'a'", "error tx"}, {"0 begin", "ok"}, {"0 begin", "error twice"}, {"0 abort", "ok"}, {"0 abort", "error tx"}, {"0 delete 1", "error tx"}},
		"down": {{"0 begin", "ok"}, {"crash", "ok"}, {"0 begin", "error down"}, {"0 select 1", "error down"}, {"0 insert 1 1 1 'a'", "error down"}, {"0 update 1 set n = 1", "error down"}, {"0 delete 1", "error down"}, {"0 commit", "error down"}, {"0 abort", "error down"}, {"evict 0", "error down"}, {"evict 99", "error down"}, {"check", "error down"}, {"crash", "error down"}, {"arm", "error down"},
			{"0 select 1 order x", "error column"}, {"go", "error form"}, {"restart", "ok"}, {"restart", "error twice"}, {"0 commit", "error tx"}, {"0 begin", "ok"}},
		"evictions":                  {{"evict 8", "error range"}, {"evict -1", "error range"}, {"evict 999999999999999999", "error range"}, {"evict 1000000000000000000", "error form"}, {"evict 7", "error none"}, {"0 begin", "ok"}, {"0 select 1", "0"}, {"evict 7", "ok"}, {"evict 7", "error none"}, {"evict 4", "error none"}, {"evict 5", "ok"}, {"evict 6", "ok"}, {"evict", "error form"}, {"evict x", "error form"}},
		"rows":                       {{"0 begin", "ok"}, {"0 insert 1 1 0 'a'", "1"}, {"0 insert 1 1 5 'b'", "error key"}, {"0 insert 2 1 5 'b'", "1"}, {"0 select 1 where name", "error type"}, {"0 update 1 set n = 1 / n", "error zero"}, {"0 update 1 set n = name", "error type"}, {"0 update 1 set n = 1000000000 + 1", "error over"}, {"0 delete 1 where 1 / n", "error zero"}, {"0 delete 1 where id * 1000000000 * 2 < 0", "error over"}, {"0 select 1 where 'a' < 1", "error type"}, {"0 select 1", "1 (1 0 'a')"}},
		"no statements":              {{"0 begin", "ok"}, {"0 drop 1", "error form"}, {"0 select 1 order x", "error column"}, {"0 update 1 set id = 1", "error column"}, {"0 delete 1 where " + manyNodes(41), "error many"}, {"0 delete 1 where " + deepSums(13), "error depth"}, {"0 " + strings.Repeat("n ", 501), "error many"}, {"0", "error form"}, {"1 drop 1", "error form"}, {"1 update 1 set id = 1", "error column"}, {"3 update 1 set id = 1", "error form"}, {"0 select 1", "0"}},
		"waits":                      {{"0 begin", "ok"}, {"1 begin", "ok"}, {"2 begin", "ok"}, {"0 insert 1 1 1 'a'", "1"}, {"1 insert 2 1 1 'b'", "1"}, {"0 select 2", "error wait"}, {"1 select 1", "error deadlock"}, {"1 select 1", "error tx"}, {"1 commit", "error tx"}, {"0 select 2", "0"}, {"2 insert 1 2 2 'c'", "1"}, {"2 insert 1 1 9 'c'", "error wait"}, {"2 select 3", "0"}, {"0 select 1", "error wait"}, {"2 update 1 set n = 1", "error deadlock"}, {"0 select 1", "1 (1 1 'a')"}, {"1 begin", "ok"}, {"1 select 2", "0"}, {"1 insert 1 1 1 'a'", "error wait"}, {"0 abort", "ok"}, {"1 insert 1 1 7 'd'", "1"}},
		"power in a commit":          {{"0 begin", "ok"}, {"0 insert 1 1 1 'a'", "1"}, {"arm", "ok"}, {"arm", "ok"}, {"0 commit", "error down"}, {"0 commit", "error down"}, {"restart", "ok"}, {"0 begin", "ok"}, {"0 select 1", "0"}},
		"power in a checkpoint":      {{"0 begin", "ok"}, {"0 insert 1 1 1 'a'", "1"}, {"0 commit", "ok"}, {"arm", "ok"}, {"check", "error down"}, {"restart", "ok"}, {"check", "ok"}, {"0 begin", "ok"}, {"0 select 1", "1 (1 1 'a')"}},
		"power in an eviction":       {{"0 begin", "ok"}, {"0 insert 1 1 1 'a'", "1"}, {"arm", "ok"}, {"evict 7", "ok"}, {"evict 0", "error down"}, {"restart", "ok"}},
		"power in a statement":       {{"0 begin", "ok"}, {"0 insert 1 1 1 'a'", "1"}, {"arm", "ok"}, {"0 select 1", "error down"}, {"0 select 1", "error down"}, {"restart", "ok"}, {"0 select 1", "error tx"}},
		"power in an abort":          slices.Concat([]exchange{{"0 begin", "ok"}}, inserts(0, 0, 4), []exchange{{"0 insert 1 4 4 'a'", "1"}, {"0 insert 2 1 1 'a'", "1"}, {"arm", "ok"}, {"0 abort", "ok"}, {"crash", "ok"}, {"restart", "ok"}}),
		"a full log and a full disk": slices.Concat([]exchange{{"0 begin", "ok"}}, inserts(0, 0, 29), []exchange{{"0 insert 1 29 1 'a'", "error full"}, {"1 begin", "error full"}, {"check", "error full"}, {"0 commit", "ok"}, {"1 begin", "ok"}}, inserts(1, 29, 32), []exchange{{"1 insert 1 40 1 'a'", "error over"}, {"1 insert 1 28 1 'a'", "error key"}, {"check", "ok"}, {"1 select 1 where id < 2 or 30 < id", "3 (0 0 'a') (1 1 'a') (31 31 'a')"}, {"1 commit", "ok"}}),
	} {
		checkExchanges(t, name, list)
	}
}

// TestLinesThatAreNoneChangeNothing: amid others, wherever they stand, each is answered, and all others are as without it.
func TestLinesThatAreNoneChangeNothing(t *testing.T) {
	t.Parallel()
	lines := []string{"0 begin", "0 insert 1 1 1 'a'", "1 begin", "1 select 1", "0 update 1 set n = 2", "check", "0 commit", "1 select 1", "1 delete 1", "crash", "1 commit", "restart", "2 begin", "2 select 1", "evict 7", "arm", "2 insert 1 2 2 'b'", "2 commit", "restart", "2 begin", "2 select 1"}
	said := strings.SplitAfter(checkSays(t, "without", strings.Join(lines, "\n")), "\n")
	none := map[string]string{"go": "error form\n", "0": "error form\n", "3 begin": "error form\n", "0 begin now": "error form\n", "crash now": "error form\n", "check\t": "error form\n", "\tcheck": "error form\n", "restart\r": "error form\n", "\xff\x00": "error form\n", "evict": "error form\n", "evict 00": "error form\n", "0 drop 1": "error form\n", "2 select 1 order x": "error column\n", "1 delete 1 where " + manyNodes(41): "error many\n", "0 delete 1 where " + within(49, "n"): "error depth\n", "\u00a0# no remark": "error form\n", "x #": "error form\n",
		"": "", " ": "", "      ": "", "#": "", "# crash": "", "#crash": "", "   #\xff\t": "", "## 0 begin": ""}
	for line, answer := range none {
		for at := range len(lines) + 1 {
			text := strings.Join(slices.Insert(slices.Clone(lines), at, line), "\n") + "\n"
			want := strings.Join(said[:at], "") + answer + strings.Join(said[at:], "")
			if got, code := impl.Console(text); got != want || code != impl.OK {
				t.Fatalf("%q at %d: code %d, %q\nwant %q", line, at, code, got, want)
			}
		}
	}
	all := ""
	for i, line := range lines {
		all += line + "\n" + []string{"go", "0 select", "# x", ""}[i%4] + "\n"
	}
	checkSays(t, "one behind each", all)
}

// TestLinesOfATextAreCounted: all of them, also those that say nothing; the last one without a byte 10 if it has a byte.
func TestLinesOfATextAreCounted(t *testing.T) {
	t.Parallel()
	for _, line := range []string{"check", "0 begin", "go", "", " ", "# x", "\t", "0 select 1", "crash", "\x00"} {
		for n := range 2 * impl.MaxLines {
			text := strings.Repeat(line+"\n", n)
			for end, lines := range map[string]int{"": n, " ": n + 1, "#": n + 1, "check": n + 1, "\x00": n + 1} {
				switch {
				case lines > impl.MaxLines:
					checkNoConsole(t, fmt.Sprintf("%d times %q and %q", n, line, end), text+end, impl.ErrMany)
				case n%20 < 2 || n > impl.MaxLines-3:
					checkSays(t, fmt.Sprintf("%d times %q and %q", n, line, end), text+end)
				}
			}
		}
	}
	for _, n := range []int{impl.MaxLines - 1, impl.MaxLines} {
		text := strings.Repeat("go\n", n)
		if said, code := impl.Console(text); said != strings.Repeat("error form\n", n) || code != impl.OK {
			t.Errorf("%d lines: code %d, %q", n, code, said)
		}
	}
}

// TestTextsWithoutALine: nothing is said.
func TestTextsWithoutALine(t *testing.T) {
	for _, text := range []string{"", "\n", "\n\n\n", " ", " \n", "# x", "# x\n#", "\n # y \n\n", strings.Repeat("\n", impl.MaxLines), strings.Repeat(" ", impl.MaxText), "#" + strings.Repeat("x", impl.MaxText-1)} {
		if said, code := impl.Console(text); said != "" || code != impl.OK {
			t.Errorf("%.100q: code %d, %q", text, code, said)
		}
	}
}

// TestEndsOfLines: a byte 10 ends a line, and nothing else does.
func TestEndsOfLines(t *testing.T) {
	for text, want := range map[string]string{
		"check": "ok\n", "check\n": "ok\n", "check\n\n": "ok\n", "\ncheck": "ok\n", "check\ncheck": "ok\nok\n", "check\n\n\ncheck\n\n": "ok\nok\n", "check\n ": "ok\n", "check\nx": "ok\nerror form\n",
		"check\r\ncheck\r\n": "error form\nerror form\n", "check\rcheck": "error form\n", "\r": "error form\n", "\r\n": "error form\n", "check\vcheck": "error form\n", "check\fcheck": "error form\n", "check\u2028check": "error form\n", "check\u0085check": "error form\n", "check\x00check\n": "error form\n", "check;check": "error form\n", "check check": "error form\n", "check \\\n check": "error form\nok\n", "0 begin\n0 select\n1": "ok\nerror form\nerror form\n", "0\nbegin": "error form\nerror form\n",
		"#\ncheck": "ok\n", "# \\\ncheck": "ok\n", "#\rcheck": "", "# check\n#": "",
	} {
		if said, code := impl.Console(text); said != want || code != impl.OK {
			t.Errorf("%q: code %d, %q, want %q", text, code, said, want)
		}
		checkSays(t, "ends", text)
	}
}

// TestLongTexts: up to MaxText bytes; beyond that too long, ahead of too many lines.
func TestLongTexts(t *testing.T) {
	long := func(text, more string) string {
		return text + strings.Repeat(more, impl.MaxText)[:impl.MaxText-len(text)]
	}
	for _, text := range []string{long("check", " "), long("check\n", "#"), long("0 begin\n0 select 1", " "), long("go\n", "x"), long("", " "), long("", "#"), long("", "\xff"), long(strings.Repeat("check\n", 79), " "), long(strings.Repeat("check\n", 79)+"0 select 1 where ", "(")} {
		if len(text) != impl.MaxText {
			t.Fatalf("%d bytes", len(text))
		}
		checkSays(t, "MaxText bytes", text)
		for _, more := range []string{" ", "\n", "#", "x", "\x00", strings.Repeat("check\n", 100)} {
			checkNoConsole(t, "too long", text+more, impl.ErrLong)
		}
	}
	for _, line := range []string{"\n", "check\n", "x\n", " \n", "#\n"} {
		text := strings.Repeat(line, impl.MaxText+1)
		checkNoConsole(t, "many lines", text[:impl.MaxText], impl.ErrMany)
		checkNoConsole(t, "many lines, too long", text[:impl.MaxText+1], impl.ErrLong)
		checkNoConsole(t, "few lines, too long", text[:len(line)]+strings.Repeat(" ", impl.MaxText+1-len(line)), impl.ErrLong)
	}
}

// TestTheLongestSayings: lines that say all rows there can be, as often as there can be lines.
func TestTheLongestSayings(t *testing.T) {
	list := []exchange{{"0 begin", "ok"}}
	all := "28"
	for id := 973; id <= 1000; id++ {
		list = append(list, exchange{fmt.Sprintf("0 insert 3 %d -1000000000 'abcdefghij'", id), "1"})
		all += fmt.Sprintf(" (%d -1000000000 'abcdefghij')", id)
	}
	text, want := "", ""
	for _, x := range list {
		text, want = text+x.line+"\n", want+x.said+"\n"
	}
	left := impl.MaxLines - len(list)
	text, want = text+strings.Repeat("0 select 3\n", left), want+strings.Repeat(all+"\n", left)
	if said, code := impl.Console(text); said != want || code != impl.OK {
		t.Errorf("code %d, %.3000q\nwant %.3000q", code, said, want)
	}
}
