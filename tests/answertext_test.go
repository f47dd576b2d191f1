package tests

import (
	"fmt"
	"math"
	"slices"
	"strings"
	"testing"

	"loop.example/g00332/impl"
)

// plainAnswerText is the text of a right answer.
func plainAnswerText(a impl.Answer) string {
	text := fmt.Sprint(a.Count)
	for _, r := range a.Rows {
		text += fmt.Sprintf(" (%d %s %s)", r.Id, plainValueText(r.N), plainValueText(r.Name))
	}
	return text
}

func checkAnswerText(t *testing.T, name string, a impl.Answer, want string, wantCode int) {
	t.Helper()
	if text, code := impl.AnswerText(a); text != want || code != wantCode {
		t.Errorf("%s: AnswerText %.2000q, code %d, want %.2000q, code %d", name, text, code, want, wantCode)
	}
}

func TestTextsOfAnswers(t *testing.T) {
	for want, a := range map[string]impl.Answer{
		"0":                                   {},
		"1":                                   {Count: 1},
		"100":                                 {Count: 100},
		"0 (0 null null)":                     {Rows: []impl.Row{{}}},
		"1 (5 -3 'ab')":                       {Count: 1, Rows: []impl.Row{{Id: 5, N: number(-3), Name: word("ab")}}},
		"2 (1000 0 '') (0 null 'zzzzzzzzzz')": {Count: 2, Rows: []impl.Row{{Id: 1000, N: number(0), Name: word("")}, {Name: word("zzzzzzzzzz")}}},
		"2 (9 1000000000 null) (9 -1000000000 null)": {Count: 2, Rows: []impl.Row{{Id: 9, N: number(impl.MaxNumber)}, {Id: 9, N: number(-impl.MaxNumber)}}},
		"3 (2 20 'b')":          {Count: 3, Rows: []impl.Row{{Id: 2, N: number(20), Name: word("b")}}},
		"0 (4 1 'a') (3 1 'a')": {Rows: []impl.Row{{Id: 4, N: number(1), Name: word("a")}, {Id: 3, N: number(1), Name: word("a")}}},
	} {
		checkAnswerText(t, want, a, want, impl.OK)
	}
	for _, r := range rightRows() {
		a := impl.Answer{Count: 1, Rows: []impl.Row{r}}
		checkAnswerText(t, "one row", a, plainAnswerText(a), impl.OK)
	}
}

// TestCountsAndRowsAtTheirEdges: both go up to 100, each by itself; the rows need not rise.
func TestCountsAndRowsAtTheirEdges(t *testing.T) {
	down := rowsOf(0, 200)
	slices.Reverse(down)
	for _, count := range []int{math.MinInt, -1 << 32, -1, 0, 1, 2, 99, 100, 101, 102, 1 << 32, math.MaxInt} {
		for _, n := range []int{0, 1, 2, 99, 100, 101, 102, 200, impl.MaxList, impl.MaxList + 1} {
			for name, rows := range map[string][]impl.Row{"rising": rowsOf(0, n), "falling": slices.Clone(down[:min(n, 200)]), "alike": slices.Repeat(rowsOf(7, 8), n)} {
				a := impl.Answer{Count: count, Rows: rows}
				text, code := "", impl.ErrBad
				if 0 <= count && count <= 100 && len(rows) <= 100 {
					text, code = plainAnswerText(a), impl.OK
				}
				checkAnswerText(t, fmt.Sprintf("%d of %d rows, %s", count, n, name), a, text, code)
			}
		}
	}
}

// TestRowsThatNoAnswerHas: one that is not right, wherever it stands.
func TestRowsThatNoAnswerHas(t *testing.T) {
	for i, r := range wrongRows() {
		for _, at := range []int{0, 1, 50, 99} {
			rows := rowsOf(0, 100)
			rows[at] = r
			checkAnswerText(t, fmt.Sprintf("wrong row %d at %d", i, at), impl.Answer{Count: 5, Rows: rows}, "", impl.ErrBad)
			checkAnswerText(t, fmt.Sprintf("wrong row %d at %d, and no more", i, at), impl.Answer{Count: 5, Rows: rows[:at+1]}, "", impl.ErrBad)
			checkAnswerText(t, fmt.Sprintf("wrong row %d behind", i), impl.Answer{Count: 5, Rows: rows[:at]}, plainAnswerText(impl.Answer{Count: 5, Rows: rows[:at]}), impl.OK)
		}
	}
}

// TestTheLongestAnswer is told whole.
func TestTheLongestAnswer(t *testing.T) {
	r := impl.Row{Id: 1000, N: number(-impl.MaxNumber), Name: word("abcdefghij")}
	want := "100" + strings.Repeat(" (1000 -1000000000 'abcdefghij')", 100)
	checkAnswerText(t, "100 rows", impl.Answer{Count: 100, Rows: slices.Repeat([]impl.Row{r}, 100)}, want, impl.OK)
}
