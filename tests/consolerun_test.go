package tests

import (
	"fmt"
	"slices"
	"strings"
	"testing"

	"loop.example/g00332/impl"
)

// consoleRun has lines that are said in a new world, what is said to them, and, as a worldRun, what its tables must be by
// the meanings of the statements alone.
type consoleRun struct {
	*worldRun
	lines []string
	said  string
}

func newConsoleRun(t *testing.T, n int, powered bool, met map[string]int) *consoleRun {
	return &consoleRun{worldRun: newWorldRun(t, n, powered, met)}
}

// lineOf is an act as a line; what no line can tell of it is left out, or makes the line none.
func (x *dice) lineOf(a impl.WorldAct) string {
	word := map[int]string{1: "begin", 3: "commit", 4: "abort", 5: "evict", 6: "check", 7: "crash", 8: "arm", 9: "restart"}[a.Kind]
	words := []string{word}
	switch a.Kind {
	case impl.WoBegin, impl.WoCommit, impl.WoAbort:
		words = []string{fmt.Sprint(a.Session), word}
	case impl.WoSql:
		words = []string{fmt.Sprint(a.Session), plainStmtText(a.Stmt)}
	case impl.WoEvict:
		words = append(words, fmt.Sprint(a.N))
	}
	return strings.Repeat(" ", max(0, x.below(6)-4)) + strings.Join(words, strings.Repeat(" ", 1+max(0, x.below(6)-4))) + strings.Repeat(" ", max(0, x.below(6)-4))
}

// nextLine makes sense mostly.
func (run *consoleRun) nextLine() string {
	switch x := &run.x; x.below(24) {
	case 0:
		return strings.ReplaceAll(x.lineSoup(), "\n", "\v")
	case 1:
		return []string{"", "  ", "#", "# crash", " #0 commit"}[x.below(5)]
	}
	return run.x.lineOf(run.next())
}

// say says a line, and holds what is said, and the world behind it, against plain rules and the meanings of statements.
func (run *consoleRun) say(line string) {
	run.t.Helper()
	name := fmt.Sprintf("line %d, %.200q", len(run.lines), line)
	checkReads(run.t, line)
	was := run.w
	want, said := plainSays(was, line)
	if a, code := impl.ReadLine(line); code == impl.OK {
		run.step(a)
		run.check(name)
	}
	checkWorld(run.t, name, run.w, want)
	checkAudit(run.t, name, run.w, nil)
	run.lines, run.said = append(run.lines, line), run.said+said
	run.met[fmt.Sprintf("%.14s", strings.TrimSpace(said))]++
}

// text has or has not a byte 10 behind the last line, unless that needs one.
func (run *consoleRun) text() string {
	text := strings.Join(run.lines, "\n")
	if len(run.lines) > 0 && (run.lines[len(run.lines)-1] == "" || run.x.below(2) == 0) {
		text += "\n"
	}
	return text
}

func (run *consoleRun) checkSaid(name string) {
	run.t.Helper()
	if said, code := impl.Console(run.text()); said != run.said || code != impl.OK {
		run.t.Fatalf("%s: code %d, Console of\n%.5000s\nsays\n%.5000s\nwant\n%.5000s", name, code, run.text(), said, run.said)
	}
}

// TestTheWhole: of such a world nothing is lost; behind a crash and a restart, at any place, by a line or with what a crash
// keeps, tables are just what was committed, and perhaps what was being committed.
func TestTheWhole(t *testing.T) {
	t.Parallel()
	met := map[string]int{}
	for n := range 200 {
		run := newConsoleRun(t, 11000+n, n%2 == 0, met)
		for i := range impl.MaxLines {
			run.say(run.nextLine())
			if name := fmt.Sprintf("run %d, line %d", n, i); run.w.Engine.Up && !run.w.Engine.Store.Disk.Armed && i%8 == 0 {
				run.checkCrashNow(name)
				run.checkCommitNow(name, run.x.below(3))
			}
		}
		run.checkSaid(fmt.Sprint("run ", n))
		run.checkSerial(fmt.Sprint("run ", n))
		run.checkWhole(fmt.Sprint("run ", n))
	}
	checkMet(t, met, map[string]int{
		"crash": 500, "there": 50, "not there": 50, "in doubt true, kept false": 3, "in doubt false, kept false": 100, "serial": 300,
		"meant 1 true": 100, "meant 2 true": 300, "meant 3 true": 30, "meant 4 true": 30, "ok": 2000, "": 300, "error form": 100, "error range": 20, "error none": 20, "error full": 1, "error twice": 20, "error zero": 5, "error type": 5,
		"error wait": 50, "error deadlock": 20, "error down": 50, "error key": 20, "error tx": 20, "kind 3 0": 100, "kind 4 0": 100, "kind 5 0": 50, "kind 6 0": 10, "kind 7 0": 20, "kind 8 0": 20, "kind 9 0": 50, "kind 3 15": 3,
	})
}

// busyLines are a text in which sessions wait, and one is undone by a deadlock; pages go out, and rows move.
func busyLines() []string {
	return []string{"0 begin", "1 begin", "0 insert 1 1 1 'a'", "0 insert 1 2 2 'b'", "0 insert 2 1 1 'a'", "1 insert 3 1 1 'a'", "1 insert 3 2 2 'b'", "evict 1", "0 commit", "0 begin", "0 update 1 set n = n + 10", "check", "1 select 1", "1 commit", "2 begin",
		"0 delete 3 where id = 1", "2 insert 2 7 7 'q'", "# a round", "0 select 2", "2 select 3", "2 commit", "0 select 2", "0 insert 1 3 3 'c'", "evict 7", "go", "evict 6", "0 commit", "2 begin", "2 delete 1 where n = 11", "2 insert 1 1 -1 'z'", "2 select 1 order n desc", "2 commit", "1 begin", "1 update 1 set name = 'yy'", "1 abort"}
}

// checkHas: those lines stand in what was said.
func (run *consoleRun) checkHas(said ...string) {
	run.t.Helper()
	for _, line := range said {
		if !slices.Contains(strings.Split(run.said, "\n"), line) {
			run.t.Fatalf("%q is not said:\n%s", line, run.said)
		}
	}
}

// TestEachPlaceOfAText: a crash at each line, by the next sync or at once, then a restart, perhaps one more crash; what is
// selected then is what was committed by that line.
func TestEachPlaceOfAText(t *testing.T) {
	t.Parallel()
	lines := busyLines()
	run := newConsoleRun(t, 1, true, map[string]int{})
	for _, line := range lines {
		run.say(line)
	}
	run.checkSaid("as it is")
	run.checkHas("error wait", "error deadlock", "error form", "ok", "3 (2 12 'b') (3 3 'c') (1 -1 'z')")
	met := map[string]int{}
	for at := range len(lines) + 1 {
		for _, power := range []string{"crash", "arm"} {
			for again := range 2 {
				run := newConsoleRun(t, at, true, met)
				for i, line := range append(slices.Clone(lines), "check") {
					if i == at {
						run.say(power)
					}
					run.say(line)
					if !run.w.Engine.Up {
						break
					}
				}
				for range again {
					run.say("restart")
					run.say("crash")
				}
				run.say("restart")
				run.checkSelected(fmt.Sprintf("%s at %d", power, at))
			}
		}
	}
	checkMet(t, met, map[string]int{"in doubt true, kept false": 2, "in doubt false, kept false": 100})
}

// checkSelected: a session that begins now sees just what was committed, and says so.
func (run *consoleRun) checkSelected(name string) {
	run.t.Helper()
	run.say("2 begin")
	for table := 1; table <= impl.MaxTables; table++ {
		rows := run.done.table(table)
		was := len(run.said)
		run.say(fmt.Sprint("2 select ", table))
		if got, want := run.said[was:], plainAnswerText(impl.Answer{Count: len(rows), Rows: rows})+"\n"; got != want {
			run.t.Fatalf("%s: %q, want %q", name, got, want)
		}
	}
	run.checkSaid(name)
}

// TestWhatWasBeingCommitted: with acts amid lines, as no line tells what a crash keeps. A commit that is cut is there if
// all of its log was kept, and is not there otherwise; so with each number of writes that are kept.
func TestWhatWasBeingCommitted(t *testing.T) {
	t.Parallel()
	lines := busyLines()
	met := map[string]int{}
	for at, line := range lines {
		a, code := impl.ReadLine(line)
		if code != impl.OK || a.Kind != impl.WoCommit {
			continue
		}
		for kept := range 20 {
			for cuts := range 3 {
				run := newConsoleRun(t, at, true, met)
				for _, line := range lines[:at] {
					run.say(line)
				}
				run.step(armAct(slices.Repeat([]int{1}, kept)...))
				run.say(line)
				for range cuts {
					run.step(restartAct(1 + cuts))
				}
				run.step(restartAct(0))
				checkAudit(t, fmt.Sprintf("%s, %d kept", line, kept), run.w, nil)
				run.check(fmt.Sprintf("%s, %d kept", line, kept))
			}
		}
	}
	checkMet(t, met, map[string]int{"in doubt true, kept true": 20, "in doubt true, kept false": 20})
}

// TestLaterLinesChangeNothing: what is said to the first lines is said whatever stands behind them, as long as there are
// no more than a console takes.
func TestLaterLinesChangeNothing(t *testing.T) {
	t.Parallel()
	met := map[string]int{}
	for n := range 8 {
		run := newConsoleRun(t, 13000+n, true, met)
		for range impl.MaxLines {
			run.say(run.nextLine())
		}
		whole, code := impl.Console(strings.Join(run.lines, "\n") + "\n")
		if code != impl.OK || whole != run.said {
			t.Fatalf("run %d: code %d", n, code)
		}
		for first := range impl.MaxLines + 1 {
			ahead := strings.Join(run.lines[:first], "\n") + pick(first > 0, "\n", "")
			said, code := impl.Console(ahead)
			if code != impl.OK || !strings.HasPrefix(whole, said) {
				t.Fatalf("run %d, the first %d lines: code %d, %q, the whole %q", n, first, code, said, whole)
			}
			run.checkBehind(ahead, said, impl.MaxLines-first)
		}
	}
}

// checkBehind: other lines behind those ahead, as many as there may be, and one more.
func (run *consoleRun) checkBehind(ahead, said string, left int) {
	run.t.Helper()
	others := []string{"go", "crash", "restart", "arm", "check", "0 commit", "1 begin", "2 select 1", "#", "", "\x00\xff"}
	for _, more := range []string{others[run.x.below(len(others))], others[run.x.below(len(others))], run.nextLine()} {
		lines := strings.Repeat(more+"\n", left)
		got, code := impl.Console(ahead + lines)
		if code != impl.OK || !strings.HasPrefix(got, said) {
			run.t.Fatalf("%q %d times behind %q: code %d, %q, want ahead %q", more, left, ahead, code, got, said)
		}
		if got, code := impl.Console(ahead + lines + more + "\n"); code != impl.ErrMany || got != "" {
			run.t.Fatalf("one more: code %d, %q", code, got)
		}
	}
}
