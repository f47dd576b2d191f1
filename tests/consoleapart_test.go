package tests

import (
	"fmt"
	"runtime"
	"strings"
	"sync"
	"testing"
	"unsafe"

	"loop.example/g00332/impl"
)

// lineArguments are lines of all kinds, and some that are none.
func lineArguments(t *testing.T) []string {
	t.Helper()
	list := append(textArguments(), otherBytes()...)
	for line := range rightLines(t) {
		list = append(list, line, " "+strings.ReplaceAll(line, " ", "   ")+"  ", line+" x", "#"+line)
	}
	for _, text := range stmtTexts() {
		list = append(list, "1 "+text, text)
	}
	for text := range noStatements() {
		list = append(list, "0 "+text)
	}
	return list
}

// consoleArguments are texts of lines, some of them refused.
func consoleArguments(t *testing.T) []string {
	t.Helper()
	busy := strings.Join(busyLines(), "\n")
	list := append(lineArguments(t), busy, busy+"\n", busy+"\r\n", busy+"\ncrash\nrestart\n2 begin\n2 select 1\n", strings.ReplaceAll(busy, "\n", "\n\n"), strings.ReplaceAll(busy, " ", "\t"))
	for _, n := range []int{impl.MaxLines, impl.MaxLines + 1, impl.MaxText, impl.MaxText + 1} {
		list = append(list, strings.Repeat("\n", n), strings.Repeat(" ", n), strings.Repeat("0 begin\n", n)[:n])
	}
	return list
}

// otherText is a text in memory of its own, that can be written into, with other bytes behind its end.
func otherText(text string) (memory []byte, mine string) {
	memory = append([]byte(text), "behind"...)
	return memory, unsafe.String(&memory[0], len(text))
}

// TestLinesStandApart: a line is not changed, and what stands behind its end is not read; no two acts of a line, and no
// two lists of one, share memory.
func TestLinesStandApart(t *testing.T) {
	spoilt := impl.ExprNode{Op: 7777}
	for _, line := range lineArguments(t) {
		first, code := impl.ReadLine(line)
		told, set, where := tellAct(first), tellExpr(first.Stmt.Set), tellExpr(first.Stmt.Where)
		memory, mine := otherText(line)
		again, againCode := impl.ReadLine(mine)
		if tellAct(again) != told || againCode != code || !sameAct(again, first) {
			t.Fatalf("%.80q: alike lines are other acts", line)
		}
		if string(memory) != line+"behind" {
			t.Fatalf("%.80q: the line is changed, or what stands behind it", line)
		}
		spoil(first.Stmt.Set.Nodes, spoilt)
		if tellExpr(first.Stmt.Where) != where {
			t.Fatalf("%.80q: a Set shares memory with a Where", line)
		}
		spoil(first.Stmt.Where.Nodes, spoilt)
		spoil(first.Keep, 7777)
		if tellAct(again) != told || len(again.Keep) != 0 {
			t.Fatalf("%.80q: two answers share memory", line)
		}
		spoil(again.Stmt.Where.Nodes, spoilt)
		if tellExpr(again.Stmt.Set) != set {
			t.Fatalf("%.80q: a Where shares memory with a Set", line)
		}
		if last, lastCode := impl.ReadLine(line); tellAct(last) != told || lastCode != code {
			t.Fatalf("%.80q: another answer behind the first one was changed", line)
		}
	}
}

// TestConsolesStandApart: a text is not changed, and what stands behind its end is not read; what was said does not hang
// on the text any more.
func TestConsolesStandApart(t *testing.T) {
	t.Parallel()
	for _, text := range consoleArguments(t) {
		said, code := impl.Console(text)
		memory, mine := otherText(text)
		again, againCode := impl.Console(mine)
		if string(memory) != text+"behind" {
			t.Fatalf("%.80q: the text is changed, or what stands behind it", text)
		}
		clear(memory)
		if again != said || againCode != code {
			t.Fatalf("%.80q: alike texts have other answers, or one has memory of its text", text)
		}
	}
}

// TestConsolesBesideEachOther: however goroutines run, alike texts have alike answers.
func TestConsolesBesideEachOther(t *testing.T) {
	t.Parallel()
	text := strings.Join(busyLines(), "\n")
	want := checkSays(t, "alone", text)
	var all sync.WaitGroup
	list := make([]string, 32)
	for i := range list {
		all.Go(func() {
			for range i % 4 {
				runtime.Gosched()
			}
			list[i], _ = impl.Console(text)
		})
	}
	all.Wait()
	for i, said := range list {
		if said != want {
			t.Fatalf("console %d says %q, want %q", i, said, want)
		}
	}
}

// consoleCalls are calls of all functions of chapter 17.
func consoleCalls(t *testing.T) []call {
	t.Helper()
	var all []call
	for _, line := range lineArguments(t) {
		all = append(all, call{"ReadLine", func() string { a, code := impl.ReadLine(line); return fmt.Sprint(tellAct(a), code) }})
	}
	for _, text := range consoleArguments(t) {
		all = append(all, call{"Console", func() string { said, code := impl.Console(text); return fmt.Sprint(said, code) }})
	}
	return all
}
