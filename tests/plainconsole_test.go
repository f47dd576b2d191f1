package tests

import (
	"regexp"
	"strconv"
	"strings"
	"testing"

	"loop.example/g00332/impl"
)

// The chapter of the console once more, byte by byte and by patterns.

func plainLines(t string) []string {
	var lines []string
	from := 0
	for i := range len(t) {
		if t[i] == 10 {
			lines, from = append(lines, t[from:i]), i+1
		}
	}
	if from < len(t) {
		lines = append(lines, t[from:])
	}
	return lines
}

func plainWords(line string) []string {
	var words []string
	from := 0
	for i := range len(line) + 1 {
		if i < len(line) && line[i] != 32 {
			continue
		}
		if from < i {
			words = append(words, line[from:i])
		}
		from = i + 1
	}
	return words
}

var (
	plainEvict = regexp.MustCompile(`\Aevict (0|-?[1-9][0-9]{0,17})\z`)
	plainEnds  = regexp.MustCompile(`\A[012] (begin|commit|abort)\z`)
	plainFirst = regexp.MustCompile(`\A[012]\z`)
	plainKinds = map[string]int{"begin": 1, "commit": 3, "abort": 4, "check": 6, "crash": 7, "arm": 8, "restart": 9}
)

func plainReadLine(line string) (impl.WorldAct, int) {
	if len(line) > 65536 {
		return impl.WorldAct{}, impl.ErrLong
	}
	words := plainWords(line)
	text := strings.Join(words, " ")
	if kind := plainKinds[text]; kind > 5 {
		return impl.WorldAct{Kind: kind}, impl.OK
	}
	if m := plainEvict.FindStringSubmatch(text); m != nil {
		n, _ := strconv.Atoi(m[1])
		return impl.WorldAct{Kind: 5, N: n}, impl.OK
	}
	if len(words) == 0 || !plainFirst.MatchString(words[0]) {
		return impl.WorldAct{}, impl.ErrForm
	}
	session := int(words[0][0]) - 48
	if m := plainEnds.FindStringSubmatch(text); m != nil {
		return impl.WorldAct{Kind: plainKinds[m[1]], Session: session}, impl.OK
	}
	s, code := plainSql(strings.Join(words[1:], " "))
	if code != impl.OK {
		return impl.WorldAct{}, code
	}
	return impl.WorldAct{Kind: 2, Session: session, Stmt: s}, impl.OK
}

// plainSays is what is said to a line, with its byte 10, and the world behind it.
func plainSays(w impl.World, line string) (impl.World, string) {
	words := plainWords(line)
	if len(words) == 0 || words[0][0] == '#' {
		return w, ""
	}
	a, code := plainReadLine(line)
	var answer impl.Answer
	if code == impl.OK {
		w, answer, code = plainStep(w, a)
	}
	switch {
	case code != impl.OK:
		return w, "error " + wantedWords[code] + "\n"
	case a.Kind == impl.WoSql:
		return w, plainAnswerText(answer) + "\n"
	}
	return w, "ok\n"
}

// plainConsole tells the world in the end too.
func plainConsole(t string) (w impl.World, said string, code int) {
	lines := plainLines(t)
	switch {
	case len(t) > 65536:
		return w, "", impl.ErrLong
	case len(lines) > 80:
		return w, "", impl.ErrMany
	}
	w = impl.NewWorld()
	for _, line := range lines {
		told := ""
		w, told = plainSays(w, line)
		said += told
	}
	return w, said, impl.OK
}

func sameAct(a, b impl.WorldAct) bool {
	return a.Kind == b.Kind && a.Session == b.Session && a.N == b.N && len(a.Keep) == 0 && len(b.Keep) == 0 && sameStmt(a.Stmt, b.Stmt)
}

// checkLine: a line is this act, by the program and plainly.
func checkLine(t *testing.T, line string, want impl.WorldAct) {
	t.Helper()
	if got, code := impl.ReadLine(line); !sameAct(got, want) || code != impl.OK {
		t.Errorf("ReadLine of %.300q (%d bytes): %s, code %d, want %s", line, len(line), tellAct(got), code, tellAct(want))
	}
	if got, code := plainReadLine(line); !sameAct(got, want) || code != impl.OK {
		t.Errorf("plainly, %.300q (%d bytes): %s, code %d, want %s", line, len(line), tellAct(got), code, tellAct(want))
	}
}

func checkNoAct(t *testing.T, line string, want int) {
	t.Helper()
	if got, code := impl.ReadLine(line); !sameAct(got, impl.WorldAct{}) || code != want {
		t.Errorf("ReadLine of %.300q (%d bytes): %s, code %d, want %d", line, len(line), tellAct(got), code, want)
	}
	if _, code := plainReadLine(line); code != want {
		t.Errorf("plainly, %.300q (%d bytes): code %d, want %d", line, len(line), code, want)
	}
}

// checkReads: a line is read as it is plainly, whatever it is.
func checkReads(t *testing.T, line string) int {
	t.Helper()
	got, code := impl.ReadLine(line)
	want, wantCode := plainReadLine(line)
	if !sameAct(got, want) || code != wantCode {
		t.Fatalf("ReadLine of %.300q (%d bytes): %s, code %d, want %s, code %d", line, len(line), tellAct(got), code, tellAct(want), wantCode)
	}
	return code
}

// checkSays: a console says to a text what it plainly must.
func checkSays(t *testing.T, name, text string) string {
	t.Helper()
	said, code := impl.Console(text)
	_, want, wantCode := plainConsole(text)
	if said != want || code != wantCode {
		t.Fatalf("%s: Console of %.3000q: code %d, %.3000q\nwant code %d, %.3000q", name, text, code, said, wantCode, want)
	}
	return said
}

func checkNoConsole(t *testing.T, name, text string, want int) {
	t.Helper()
	if said, code := impl.Console(text); said != "" || code != want {
		t.Errorf("%s: Console says %.300q, code %d, want %d", name, said, code, want)
	}
	if _, said, code := plainConsole(text); said != "" || code != want {
		t.Errorf("%s: plainly it says %.300q, code %d, want %d", name, said, code, want)
	}
}

// exchange is a line and what is said to it, nothing if that is empty.
type exchange struct{ line, said string }

// checkExchanges: each line has its answer; so it has with the lines up to it alone, and a last one without a byte 10.
func checkExchanges(t *testing.T, name string, list []exchange) {
	t.Helper()
	text, want := "", ""
	for i, x := range list {
		if x.said != "" {
			want += x.said + "\n"
		}
		text += x.line
		for _, end := range []string{"", "\n"} {
			if said, code := impl.Console(text + end); said != want || code != impl.OK {
				t.Fatalf("%s, line %d, %q: code %d, Console says\n%s\nwant\n%s", name, i+1, x.line, code, said, want)
			}
		}
		text += "\n"
	}
	checkSays(t, name, text)
}
