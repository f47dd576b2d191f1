package tests

import (
	"fmt"
	"math"
	"strings"
	"testing"

	"loop.example/g00332/impl"
)

// row has a number and a word.
func row(id, n int) impl.Row { return impl.Row{Id: id, N: number(n), Name: word("ab")} }

func bytesOfRow(table int, r impl.Row) string {
	b, _ := impl.KeyBytes([]impl.Value{number(table), number(r.Id), r.N, r.Name})
	return string(b)
}

func rightRows() []impl.Row {
	var list []impl.Row
	for _, id := range []int{0, 1, 2, 500, 999, 1000} {
		list = append(list, row(id, 4))
	}
	for _, n := range []impl.Value{none, number(0), number(-1), number(-impl.MaxNumber), number(impl.MaxNumber)} {
		for _, name := range []impl.Value{none, word(""), word("a"), word("zzzzzzzzzz")} {
			list = append(list, impl.Row{Id: 7, N: n, Name: name})
		}
	}
	return list
}

func wrongRows() []impl.Row {
	var list []impl.Row
	for _, id := range []int{math.MinInt, -1, 1001, 1 << 32, math.MaxInt} {
		list = append(list, row(id, 4))
	}
	for _, n := range append(badValues(), word(""), word("a"), word("ab")) {
		list = append(list, impl.Row{Id: 7, N: n, Name: word("ab")})
	}
	for _, name := range append(badValues(), number(0), number(5), number(-5)) {
		list = append(list, impl.Row{Id: 7, N: number(4), Name: name})
	}
	return list
}

func wrongTables() []int {
	return []int{math.MinInt, -1, 0, impl.MaxTables + 1, 256, 257, math.MaxInt}
}

func TestRowsAreReadBack(t *testing.T) {
	for _, r := range rightRows() {
		for table := 1; table <= impl.MaxTables; table++ {
			b, code := impl.RowBytes(table, r)
			if string(b) != bytesOfRow(table, r) || code != impl.OK || len(b) > impl.MaxRecord {
				t.Errorf("RowBytes of %v: %q, code %d", r, b, code)
			}
			if gotTable, got, code := impl.ReadRow(b); gotTable != table || got != r || code != impl.OK {
				t.Errorf("ReadRow of %q: table %d, %v, code %d", b, gotTable, got, code)
			}
		}
	}
	want := "\x02\x3b\x9a\xca\x02" + "\x02\x3b\x9a\xca\x03" + "\x02\x3b\x9a\xc9\xff" + "\x03ab\x00"
	if b, _ := impl.RowBytes(2, row(3, -1)); string(b) != want {
		t.Errorf("RowBytes: %x, want %x", b, want)
	}
	if b, _ := impl.RowBytes(2, impl.Row{Id: 3}); string(b) != want[:10]+"\x01\x01" {
		t.Errorf("RowBytes of nothing: %x", b)
	}
}

func TestRowsThatAreNotRight(t *testing.T) {
	for _, r := range wrongRows() {
		for _, table := range append(wrongTables(), 1, 3) {
			if b, code := impl.RowBytes(table, r); b != nil || code != impl.ErrBad {
				t.Errorf("RowBytes(%d, %v): %q, code %d", table, r, b, code)
			}
		}
	}
	for _, r := range rightRows() {
		for _, table := range wrongTables() {
			if b, code := impl.RowBytes(table, r); b != nil || code != impl.ErrRange {
				t.Errorf("RowBytes(%d, %v): %q, code %d", table, r, b, code)
			}
		}
	}
}

// keyOf is the key of any right values.
func keyOf(values ...impl.Value) string {
	b, _ := impl.KeyBytes(values)
	return string(b)
}

// noRows are bytes that are no row's, many of them keys of other values.
func noRows() map[string]string {
	right := bytesOfRow(1, row(5, 6))
	list := map[string]string{
		"nothing":             "",
		"one value":           keyOf(number(1)),
		"two values":          keyOf(number(1), number(5)),
		"three values":        keyOf(number(1), number(5), number(6)),
		"five values":         right + keyOf(none),
		"a row twice":         right + right,
		"a byte more":         right + "\x00",
		"a byte less":         right[:len(right)-1],
		"a byte ahead":        "\x00" + right,
		"a table that is 0":   bytesOfRow(0, row(5, 6)),
		"a table beyond":      bytesOfRow(impl.MaxTables+1, row(5, 6)),
		"a table below":       bytesOfRow(-1, row(5, 6)),
		"a table of no value": keyOf(none, number(5), number(6), word("ab")),
		"a table of a word":   keyOf(word(""), number(5), number(6), word("ab")),
		"an id of no value":   keyOf(number(1), none, number(6), word("ab")),
		"an id of a word":     keyOf(number(1), word(""), number(6), word("ab")),
		"an id below":         bytesOfRow(1, row(-1, 6)),
		"an id beyond":        bytesOfRow(1, row(1001, 6)),
		"a word as N":         keyOf(number(1), number(5), word("a"), word("ab")),
		"an empty word as N":  keyOf(number(1), number(5), word(""), none),
		"a number as Name":    keyOf(number(1), number(5), number(6), number(0)),
		"a long word":         right[:len(right)-1] + "aaaaaaaaa\x00",
		"a great number":      right[:10] + "\x02\xff\xff\xff\xff" + right[15:],
		"no kind":             "\x04" + right[1:],
		"a capital letter":    strings.Replace(right, "ab", "aB", 1),
		"MaxList values":      strings.Repeat("\x01", impl.MaxList),
		"MaxList + 1 values":  strings.Repeat("\x01", impl.MaxList+1),
		"MaxText bytes":       string(patterned(impl.MaxText)),
		"a page":              bytesOfPage(1, page(1, "a", "", "", "")),
	}
	for i := range right {
		list[fmt.Sprint("the first bytes: ", i)] = right[:i]
	}
	return list
}

func TestBytesThatAreNoRows(t *testing.T) {
	for name, b := range noRows() {
		if table, r, code := impl.ReadRow([]byte(b)); table != 0 || r != (impl.Row{}) || code != impl.ErrForm {
			t.Errorf("%s: table %d, %v, code %d", name, table, r, code)
		}
	}
	long := append([]byte(bytesOfRow(1, row(5, 6))), patterned(impl.MaxText)...)
	if table, r, code := impl.ReadRow(long); table != 0 || r != (impl.Row{}) || code != impl.ErrLong {
		t.Errorf("beyond MaxText: table %d, %v, code %d", table, r, code)
	}
}

func TestRowsOfAllOneByteChanges(t *testing.T) {
	right := bytesOfRow(2, row(5, 6))
	for at := range right {
		for c := range 256 {
			b := []byte(right)
			b[at] = byte(c)
			table, r, code := impl.ReadRow(b)
			if code == impl.OK && bytesOfRow(table, r) != string(b) || code != impl.OK && code != impl.ErrForm {
				t.Errorf("%x: table %d, %v, code %d", b, table, r, code)
			}
		}
	}
}

func TestRowBytesStandApart(t *testing.T) {
	for _, b := range append(noRowBytes(), []byte(bytesOfRow(1, row(5, 6)))) {
		checkApart(t, "ReadRow", b, 'x', impl.Row{}, func(b []byte) ([]impl.Row, int) {
			table, r, code := impl.ReadRow(b)
			return []impl.Row{r, {Id: table}}, code
		})
	}
}

func noRowBytes() [][]byte {
	var list [][]byte
	for _, b := range noRows() {
		list = append(list, []byte(b))
	}
	return list
}
