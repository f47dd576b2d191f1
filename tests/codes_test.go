package tests

import (
	"math"
	"strings"
	"testing"

	"loop.example/g00332/impl"
)

var wantedWords = []string{"ok", "bad", "long", "form", "range", "none", "many", "full", "sum", "twice",
	"type", "zero", "over", "wait", "deadlock", "down", "depth", "key", "column", "tx"}

func TestCodeConstants(t *testing.T) {
	codes := []int{impl.OK, impl.ErrBad, impl.ErrLong, impl.ErrForm, impl.ErrRange, impl.ErrNone, impl.ErrMany,
		impl.ErrFull, impl.ErrSum, impl.ErrTwice, impl.ErrType, impl.ErrZero, impl.ErrOver, impl.ErrWait,
		impl.ErrDeadlock, impl.ErrDown, impl.ErrDepth, impl.ErrKey, impl.ErrColumn, impl.ErrTx}
	for i, code := range codes {
		if code != i {
			t.Errorf("the code of %s is %d, want %d", wantedWords[i], code, i)
		}
	}
	if impl.MaxText != 65536 || impl.MaxList != 4096 || impl.MaxName != 40 {
		t.Error("bounds of chapter 1")
	}
}

func TestCodeWordsBothWays(t *testing.T) {
	for code, word := range wantedWords {
		if got := impl.CodeWord(code); got != word {
			t.Errorf("CodeWord(%d) = %q, want %q", code, got, word)
		}
		if got := impl.CodeOf(word); got != code {
			t.Errorf("CodeOf(%q) = %d, want %d", word, got, code)
		}
	}
}

func TestCodeWordOfOtherNumbers(t *testing.T) {
	for _, code := range []int{-1, len(wantedWords), 256, 1 << 32, math.MinInt, math.MaxInt} {
		if got := impl.CodeWord(code); got != "" {
			t.Errorf("CodeWord(%d) = %q", code, got)
		}
	}
}

func TestCodeOfOtherTexts(t *testing.T) {
	long := strings.Repeat("ok", impl.MaxText)
	for _, word := range []string{"", "OK", "Ok", " ok", "ok ", "ok\x00", "o", "okk", "ErrBad", "2", "dead", long} {
		if got := impl.CodeOf(word); got != -1 {
			t.Errorf("CodeOf of %d bytes %.10q = %d", len(word), word, got)
		}
	}
}

func TestNamesByEachByte(t *testing.T) {
	const letters = "abcdefghijklmnopqrstuvwxyzABCDEFGHIJKLMNOPQRSTUVWXYZ_"
	const digits = "0123456789"
	for i := range 256 {
		c := string([]byte{byte(i)})
		first := strings.Contains(letters, c)
		later := first || strings.Contains(digits, c)
		for name, want := range map[string]bool{c: first, c + "b": first, "a" + c: later, "_" + c + "Z": later} {
			if impl.NameOK(name) != want {
				t.Errorf("NameOK(%q) = %v", name, !want)
			}
		}
	}
}

func TestNamesByLength(t *testing.T) {
	for n, want := range map[int]bool{0: false, 1: true, impl.MaxName - 1: true, impl.MaxName: true,
		impl.MaxName + 1: false, impl.MaxText: false, impl.MaxText + 1: false} {
		if impl.NameOK(strings.Repeat("a", n)) != want {
			t.Errorf("NameOK of %d letters is %v", n, !want)
		}
	}
}
