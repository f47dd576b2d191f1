package tests

import (
	"slices"
	"strings"
	"testing"

	"loop.example/g00332/impl"
)

func checkTokens(t *testing.T, text string, want []string, wantCode int) {
	t.Helper()
	got, code := impl.LexSql(text)
	if !slices.Equal(got, want) || code != wantCode {
		t.Errorf("LexSql of %.80q (%d bytes): %.200q, code %d, want %.200q, code %d", text, len(text), got, code, want, wantCode)
	}
}

func TestTokens(t *testing.T) {
	for _, c := range []struct {
		text string
		want []string
	}{
		{"", nil},
		{" ", nil},
		{"     ", nil},
		{"a", []string{"a"}},
		{"select", []string{"select"}},
		{"name2", []string{"name2"}},
		{"a1b2c3", []string{"a1b2c3"}},
		{"az09za", []string{"az09za"}},
		{"  a  b  ", []string{"a", "b"}},
		{"0", []string{"0"}},
		{"0123456789", []string{"0123456789"}},
		{"00 0", []string{"00", "0"}},
		{"12ab", []string{"12", "ab"}},
		{"12ab34cd", []string{"12", "ab34cd"}},
		{"1a 1 a", []string{"1", "a", "1", "a"}},
		{"''", []string{"''"}},
		{"'a'", []string{"'a'"}},
		{"'az'", []string{"'az'"}},
		{"'abcdefghijklmnopqrstuvwxyz'", []string{"'abcdefghijklmnopqrstuvwxyz'"}},
		{"''''", []string{"''", "''"}},
		{"'a''b'", []string{"'a'", "'b'"}},
		{"a'b'c", []string{"a", "'b'", "c"}},
		{"1'b'2", []string{"1", "'b'", "2"}},
		{"'null'null", []string{"'null'", "null"}},
		{"()+-*/=<,", []string{"(", ")", "+", "-", "*", "/", "=", "<", ","}},
		{"( ) + - * / = < ,", []string{"(", ")", "+", "-", "*", "/", "=", "<", ","}},
		{"--", []string{"-", "-"}},
		{"-5", []string{"-", "5"}},
		{"==<<", []string{"=", "=", "<", "<"}},
		{"n<12", []string{"n", "<", "12"}},
		{"n < 12", []string{"n", "<", "12"}},
		{"insert 1 -5 'ab'", []string{"insert", "1", "-", "5", "'ab'"}},
		{"((n))is null", []string{"(", "(", "n", ")", ")", "is", "null"}},
	} {
		checkTokens(t, c.text, c.want, impl.OK)
	}
}

func TestTextsThatAreNoTokens(t *testing.T) {
	for _, text := range []string{"'", "''' ", "'a", "'a ", "'a b'", "' '", "'a1'", "'1'", "'A'", "'aB'", "'-'", "'(", "'a''", "a'", "1'", "'\x00'", "'é'", "'a\n'",
		"A", "aB", "N", "Z1", "_", "a_b", "1_", ">", "!", "!=", "<>", "\"a\"", ";", ".", "1.5", "%", "&", "|", "[", "]", "{", "}", "?", ":", "@", "#", "$", "^", "~", "`", "\\",
		"\t", "a\tb", "\n", "a\n", "\r", "\x00", "a\x00", "\x1f", "\x7f", "\xa0", "\x80", "\xff", "a\xff", "1\xc3", "\xe2\x82", "\xed\xa0\x80",
		// Runes whose last byte is a letter, a digit, a sign or a blank; digits and blanks of other scripts.
		"š", "aš", "š1", "ġ", "\u0130", "1\u0130", "\u0128", "\u0120", "\u0127", "a\u0161b", "'\u0161'", "٣", "1٣", "０", "ａ", "\u00a0", "\u2003", "\ufeff", "\ufffd", "a\ufffd", "𝟘", "ſ"} {
		checkTokens(t, text, nil, impl.ErrForm)
		checkTokens(t, "n = 1 "+text, nil, impl.ErrForm)
		if !strings.HasPrefix(text, "'") && !strings.HasSuffix(text, "'") {
			checkTokens(t, text+" n = 1", nil, impl.ErrForm)
		}
	}
}

// TestEachByteAsAToken: alone, and beside other ones, is held against the plain rule.
func TestEachByteAsAToken(t *testing.T) {
	tokens := 0
	for i := range 256 {
		c := string([]byte{byte(i)})
		for _, text := range []string{c, c + c, c + "a", c + "1", c + "'a'", "a" + c, "a" + c + "b", "1" + c, "1" + c + "1", " " + c + " ", "(" + c + ")", "'" + c, "'" + c + "'", "'a" + c + "b'", "''" + c} {
			want, code := plainLex(text)
			checkTokens(t, text, want, code)
		}
		if _, code := impl.LexSql(c); code == impl.OK {
			tokens++
		}
	}
	if tokens != 26+10+9+1 {
		t.Errorf("%d bytes are tokens, or a blank", tokens)
	}
}

func TestTokensOfAllShortTexts(t *testing.T) {
	t.Parallel()
	for _, b := range allStrings([]byte("az09' (<\t-é"), 5) {
		want, code := plainLex(string(b))
		checkTokens(t, string(b), want, code)
		if t.Failed() {
			return
		}
	}
}

func TestManyTokens(t *testing.T) {
	for _, token := range []string{"a", "12", "'b'", "''", "("} {
		for _, n := range []int{499, 500, 501, 502, 4097, 9000} {
			text := strings.Repeat(token+" ", n)
			if n <= 500 {
				checkTokens(t, text, slices.Repeat([]string{token}, n), impl.OK)
				checkTokens(t, text+"   ", slices.Repeat([]string{token}, n), impl.OK)
			} else {
				checkTokens(t, text, nil, impl.ErrMany)
			}
		}
	}
	for n, want := range map[int]int{500: impl.OK, 501: impl.ErrMany, 65536: impl.ErrMany, 65537: impl.ErrLong} {
		_, code := impl.LexSql(strings.Repeat(")", n))
		if code != want {
			t.Errorf("%d brackets: code %d, want %d", n, code, want)
		}
	}
}

// TestFaultsOfTokensInTurn: what comes first counts; the 501st is one too many if it is a token.
func TestFaultsOfTokensInTurn(t *testing.T) {
	for _, wrong := range []string{"#", "'", "'a", "'a#'", "A", "\xff", "é", "\t"} {
		for _, c := range []struct{ ahead, behind, want int }{
			{0, 0, impl.ErrForm}, {0, 500, impl.ErrForm}, {0, 600, impl.ErrForm}, {1, 501, impl.ErrForm}, {499, 0, impl.ErrForm}, {499, 300, impl.ErrForm},
			{500, 0, impl.ErrForm}, {500, 1, impl.ErrForm}, {500, 300, impl.ErrForm}, {501, 0, impl.ErrMany}, {501, 1, impl.ErrMany}, {502, 0, impl.ErrMany}, {900, 900, impl.ErrMany},
		} {
			text := strings.Repeat("n ", c.ahead) + wrong + strings.Repeat(" n", c.behind)
			checkTokens(t, text, nil, c.want)
		}
	}
	// The 501st token ends where a byte that is none begins.
	for _, token := range []string{"abc", "123", "'abc'", "("} {
		checkTokens(t, strings.Repeat("n ", 499)+token+"#", nil, impl.ErrForm)
		checkTokens(t, strings.Repeat("n ", 500)+token+"#", nil, impl.ErrMany)
		checkTokens(t, strings.Repeat("n ", 500)+token+"'", nil, impl.ErrMany)
	}
}

func TestLongTextsOfTokens(t *testing.T) {
	for _, n := range []int{255, 4096, 65534, 65535, 65536, 65537, 70000} {
		for _, c := range []struct {
			text string
			want []string
		}{
			{strings.Repeat(" ", n), nil},
			{strings.Repeat("z", n), []string{strings.Repeat("z", n)}},
			{strings.Repeat("0", n), []string{strings.Repeat("0", n)}},
			{"'" + strings.Repeat("w", n-2) + "'", []string{"'" + strings.Repeat("w", n-2) + "'"}},
			{strings.Repeat(" ", n-1) + "<", []string{"<"}},
		} {
			if n > impl.MaxText {
				c.want = nil
			}
			checkTokens(t, c.text, c.want, pick(n > impl.MaxText, impl.ErrLong, impl.OK))
		}
		checkTokens(t, strings.Repeat("z", n-1)+"#", nil, pick(n > impl.MaxText, impl.ErrLong, impl.ErrForm))
		checkTokens(t, "#"+strings.Repeat("z", n-1), nil, pick(n > impl.MaxText, impl.ErrLong, impl.ErrForm))
		checkTokens(t, "'"+strings.Repeat("z", n-1), nil, pick(n > impl.MaxText, impl.ErrLong, impl.ErrForm))
	}
}
