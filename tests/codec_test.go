package tests

import (
	"bytes"
	"hash/crc32"
	"math"
	"slices"
	"strings"
	"testing"

	"loop.example/g00332/impl"
)

var none = impl.Value{Kind: impl.VaNull}

func number(n int) impl.Value { return impl.Value{Kind: impl.VaInt, N: n} }

func word(t string) impl.Value { return impl.Value{Kind: impl.VaText, T: t} }

// risingValues rise as the document orders values.
func risingValues() []impl.Value {
	return []impl.Value{none,
		number(-impl.MaxNumber), number(-impl.MaxNumber + 1), number(-65536), number(-256), number(-255), number(-1),
		number(0), number(1), number(255), number(256), number(65536), number(impl.MaxNumber - 1), number(impl.MaxNumber),
		word(""), word("a"), word("aa"), word("aaaaaaaaaa"), word("ab"), word("az"), word("b"), word("z"), word("zzzzzzzzzz")}
}

func badValues() []impl.Value {
	list := []impl.Value{{Kind: -1}, {Kind: 3}, {Kind: math.MinInt}, {Kind: math.MaxInt}, {Kind: 257, N: 1}, {Kind: 3, T: "a"},
		{N: 1}, {N: -1}, {T: "a"}, {T: "\x00"},
		number(impl.MaxNumber + 1), number(-impl.MaxNumber - 1), number(math.MinInt), number(math.MaxInt), number(1 << 32),
		{Kind: impl.VaInt, N: 1, T: "a"}, {Kind: impl.VaInt, T: "0"},
		{Kind: impl.VaText, N: 1, T: "a"}, {Kind: impl.VaText, N: -1},
		word("abcdefghijk"), word(strings.Repeat("a", impl.MaxText+1))}
	for i := range 256 {
		if i < 'a' || i > 'z' {
			c := string([]byte{byte(i)})
			list = append(list, word(c), word("ab"+c), word(c+"yz"))
		}
	}
	return list
}

// patterned has bytes of all values, the same ones for the same n.
func patterned(n int) []byte {
	b := make([]byte, n)
	x := uint32(n)*2654435761 + 1
	for i := range b {
		x = x*1664525 + 1013904223
		b[i] = byte(x >> 24)
	}
	return b
}

func TestSumIsThatOfZipFiles(t *testing.T) {
	if n := impl.Check32([]byte("123456789")); n != 0xcbf43926 {
		t.Errorf("Check32 %x", n)
	}
	for i := range 256 {
		b := []byte{byte(i)}
		if got, want := impl.Check32(b), int(crc32.ChecksumIEEE(b)); got != want {
			t.Errorf("of the byte %d: %x, want %x", i, got, want)
		}
	}
	for _, n := range []int{0, 1, 2, 3, 4, 5, 7, 8, 159, 160, 255, 256, 4096, impl.MaxText - 1, impl.MaxText} {
		for _, b := range [][]byte{patterned(n), make([]byte, n), bytes.Repeat([]byte{0xff}, n)} {
			if got, want := impl.Check32(b), int(crc32.ChecksumIEEE(b)); got != want {
				t.Errorf("of %d bytes: %x, want %x", n, got, want)
			}
		}
	}
}

func TestSumBeyondMaxText(t *testing.T) {
	for _, n := range []int{impl.MaxText + 1, 2 * impl.MaxText} {
		if got := impl.Check32(patterned(n)); got != 0 {
			t.Errorf("of %d bytes: %x", n, got)
		}
	}
}

func TestSumChangesWithEachBit(t *testing.T) {
	for _, n := range []int{1, 2, 3, 4, 5, 16, 160, 300} {
		b := patterned(n)
		seen := map[int]int{impl.Check32(b): -1}
		for bit := range 8 * n {
			b[bit/8] ^= 1 << (bit % 8)
			sum := impl.Check32(b)
			b[bit/8] ^= 1 << (bit % 8)
			if other, ok := seen[sum]; ok {
				t.Errorf("of %d bytes: the sum with bit %d turned is that with bit %d turned (-1: none)", n, bit, other)
			}
			seen[sum] = bit
		}
	}
	b := patterned(impl.MaxText)
	sum := impl.Check32(b)
	for _, bit := range []int{0, 1, 7, 8, 4 * impl.MaxText, 8*impl.MaxText - 8, 8*impl.MaxText - 1} {
		b[bit/8] ^= 1 << (bit % 8)
		if impl.Check32(b) == sum {
			t.Errorf("of MaxText bytes: the sum with bit %d turned is the same", bit)
		}
		b[bit/8] ^= 1 << (bit % 8)
	}
}

func rightFields() [][]string {
	every := make([]string, 100)
	for i := range every {
		every[i] = string(patterned(255))
	}
	return [][]string{nil, {""}, {"a"}, {"ab", "", "c"}, {"", "", ""}, {"\x00", "\xff", "\x01\x02"},
		{string(patterned(254))}, {string(patterned(255))}, {string(patterned(255)), "", string(patterned(255))},
		make([]string, 99), make([]string, 100), every}
}

// bytesOfFields says the document's form once more.
func bytesOfFields(list []string) string {
	b := string([]byte{byte(len(list))})
	for _, f := range list {
		b += string([]byte{byte(len(f))}) + f
	}
	return b
}

func TestFieldsAreReadBack(t *testing.T) {
	for i, list := range rightFields() {
		b, code := impl.FieldsBytes(list)
		if code != impl.OK || string(b) != bytesOfFields(list) {
			t.Fatalf("FieldsBytes of list %d: %q %d", i, b, code)
		}
		back, code := impl.ReadFields(b)
		if code != impl.OK || !slices.Equal(back, list) {
			t.Errorf("ReadFields of list %d: %q %d", i, back, code)
		}
	}
}

func TestFieldsThatAreTooMuch(t *testing.T) {
	long := string(make([]byte, 256))
	mixed := func(n int) []string {
		list := make([]string, n)
		list[0] = long
		return list
	}
	for _, x := range []struct {
		name string
		list []string
		want int
	}{
		{"101 fields", make([]string, 101), impl.ErrMany},
		{"101 fields, one of 256 bytes", mixed(101), impl.ErrMany},
		{"MaxList fields, one of 256 bytes", mixed(impl.MaxList), impl.ErrMany},
		{"MaxList + 1 fields", make([]string, impl.MaxList+1), impl.ErrLong},
		{"MaxList + 1 fields, one of 256 bytes", mixed(impl.MaxList + 1), impl.ErrLong},
		{"a field of 256 bytes", []string{long}, impl.ErrRange},
		{"a field of 256 bytes at the end", []string{"", "a", long}, impl.ErrRange},
		{"100 fields, one of 256 bytes", mixed(100), impl.ErrRange},
		{"a field beyond MaxText", []string{strings.Repeat("a", impl.MaxText+1)}, impl.ErrRange},
	} {
		if b, code := impl.FieldsBytes(x.list); code != x.want || len(b) != 0 {
			t.Errorf("%s: %d bytes, code %d, want %d", x.name, len(b), code, x.want)
		}
	}
}

func TestFieldsThatAreNone(t *testing.T) {
	wrong := []string{"", "\x01", "\x01\x02a", "\x02\x01a", "\x00\x00", "\x01\x00\x00", "\x01\x01ab", "\x65", "\xff",
		bytesOfFields(make([]string, 101)), bytesOfFields(make([]string, 255)), strings.Repeat("\x00", impl.MaxText)}
	for _, list := range rightFields() {
		b := bytesOfFields(list)
		wrong = append(wrong, b+"\x00", b+"\x01a")
		for cut := 0; cut < len(b); cut += 1 + len(b)/300 {
			wrong = append(wrong, b[:cut])
		}
		wrong = append(wrong, b[:len(b)-1])
	}
	for _, b := range wrong {
		if list, code := impl.ReadFields([]byte(b)); code != impl.ErrForm || len(list) != 0 {
			t.Errorf("ReadFields of %d bytes %.20q: %d fields, code %d", len(b), b, len(list), code)
		}
	}
	for _, b := range []string{strings.Repeat("\x00", impl.MaxText+1), strings.Repeat("\xff", impl.MaxText+1)} {
		if list, code := impl.ReadFields([]byte(b)); code != impl.ErrLong || len(list) != 0 {
			t.Errorf("ReadFields beyond MaxText: %d fields, code %d", len(list), code)
		}
	}
}

func TestFieldsOfAllShortBytes(t *testing.T) {
	letters := []byte{0, 1, 2, 3, 'a', 100, 101, 255}
	for _, b := range allStrings(letters, 5) {
		list, code := impl.ReadFields(b)
		if code != impl.OK && code != impl.ErrForm {
			t.Fatalf("ReadFields(%q): code %d", b, code)
		}
		if code == impl.OK && bytesOfFields(list) != string(b) {
			t.Errorf("ReadFields(%q) = %q", b, list)
		}
	}
}

func allStrings(letters []byte, most int) [][]byte {
	all := [][]byte{nil}
	for from, n := 0, 0; n < most; n++ {
		end := len(all)
		for _, b := range all[from:end] {
			for _, c := range letters {
				all = append(all, append(bytes.Clone(b), c))
			}
		}
		from = end
	}
	return all
}

func TestValues(t *testing.T) {
	if impl.VaNull != 0 || impl.VaInt != 1 || impl.VaText != 2 || impl.MaxNumber != 1000000000 || impl.MaxWord != 10 {
		t.Error("constants of chapter 2")
	}
	for _, v := range append(risingValues(), word("abcdefghij"), word("klmnopqrst"), word("uvwxyz")) {
		if !impl.ValueOK(v) {
			t.Errorf("%v is none", v)
		}
	}
	for _, v := range badValues() {
		if impl.ValueOK(v) {
			t.Errorf("%d %d %.20q is one", v.Kind, v.N, v.T)
		}
	}
}

func TestValuesAreOrdered(t *testing.T) {
	list := risingValues()
	for i, a := range list {
		for k, b := range list {
			want := 0
			switch {
			case i < k:
				want = -1
			case i > k:
				want = 1
			}
			if got, code := impl.CompareValues(a, b); got != want || code != impl.OK {
				t.Errorf("CompareValues(%v, %v) = %d, %d", a, b, got, code)
			}
		}
	}
	for _, bad := range badValues() {
		for _, pair := range [][2]impl.Value{{bad, none}, {word("a"), bad}, {bad, bad}, {bad, number(1)}} {
			if got, code := impl.CompareValues(pair[0], pair[1]); got != 0 || code != impl.ErrBad {
				t.Errorf("CompareValues with %d %d %.20q: %d, %d", bad.Kind, bad.N, bad.T, got, code)
			}
		}
	}
}

func TestKeysOfOneValue(t *testing.T) {
	for _, x := range []struct {
		v    impl.Value
		want string
	}{
		{none, "\x01"},
		{number(-impl.MaxNumber), "\x02\x00\x00\x00\x00"},
		{number(-impl.MaxNumber + 256), "\x02\x00\x00\x01\x00"},
		{number(-1), "\x02\x3b\x9a\xc9\xff"},
		{number(0), "\x02\x3b\x9a\xca\x00"},
		{number(impl.MaxNumber), "\x02\x77\x35\x94\x00"},
		{word(""), "\x03\x00"},
		{word("abcdefghij"), "\x03abcdefghij\x00"},
	} {
		if b, code := impl.KeyBytes([]impl.Value{x.v}); code != impl.OK || string(b) != x.want {
			t.Errorf("KeyBytes(%v) = %q, %d", x.v, b, code)
		}
		if list, code := impl.ReadKey([]byte(x.want)); code != impl.OK || !slices.Equal(list, []impl.Value{x.v}) {
			t.Errorf("ReadKey(%q) = %v, %d", x.want, list, code)
		}
	}
}

// keyLists: no values, each one, each two, and some three.
func keyLists() [][]impl.Value {
	values := risingValues()
	lists := [][]impl.Value{nil}
	for _, a := range values {
		lists = append(lists, []impl.Value{a})
		for i, b := range values {
			lists = append(lists, []impl.Value{a, b})
			if i%4 == 0 {
				lists = append(lists, []impl.Value{a, b, none}, []impl.Value{a, b, word("a")}, []impl.Value{a, b, number(-1)})
			}
		}
	}
	return lists
}

func compareLists(t *testing.T, a, b []impl.Value) int {
	for i := range min(len(a), len(b)) {
		n, code := impl.CompareValues(a[i], b[i])
		if code != impl.OK {
			t.Fatal("CompareValues", a[i], b[i], code)
		}
		if n != 0 {
			return n
		}
	}
	switch {
	case len(a) < len(b):
		return -1
	case len(a) > len(b):
		return 1
	}
	return 0
}

func TestKeysAreReadBackAndOrdered(t *testing.T) {
	lists := keyLists()
	keys := make([][]byte, len(lists))
	for i, list := range lists {
		b, code := impl.KeyBytes(list)
		back, code2 := impl.ReadKey(b)
		if code != impl.OK || code2 != impl.OK || !slices.Equal(back, list) {
			t.Fatalf("the key of %v: %q %d, read %v %d", list, b, code, back, code2)
		}
		keys[i] = b
	}
	for i, a := range lists {
		for k, b := range lists {
			if got, want := bytes.Compare(keys[i], keys[k]), compareLists(t, a, b); got != want {
				t.Fatalf("the keys of %v and %v: %d, want %d", a, b, got, want)
			}
		}
	}
}

func TestKeysOfManyValues(t *testing.T) {
	full := slices.Repeat([]impl.Value{word("abcdefghij")}, impl.MaxList)
	b, code := impl.KeyBytes(full)
	if code != impl.OK || len(b) != 12*impl.MaxList {
		t.Fatalf("KeyBytes of MaxList words: %d bytes, code %d", len(b), code)
	}
	if list, code := impl.ReadKey(b); code != impl.OK || !slices.Equal(list, full) {
		t.Errorf("ReadKey of MaxList words: %d values, code %d", len(list), code)
	}
	for _, v := range []impl.Value{none, {Kind: 3}} {
		if b, code := impl.KeyBytes(slices.Repeat([]impl.Value{v}, impl.MaxList+1)); code != impl.ErrLong || len(b) != 0 {
			t.Errorf("KeyBytes of MaxList + 1 values: %d bytes, code %d", len(b), code)
		}
	}
}

func TestKeysOfBadValues(t *testing.T) {
	for _, bad := range badValues() {
		for _, list := range [][]impl.Value{{bad}, {none, number(1), bad}, {bad, word("a")}} {
			if b, code := impl.KeyBytes(list); code != impl.ErrBad || len(b) != 0 {
				t.Errorf("KeyBytes with %d %d %.20q: %q, code %d", bad.Kind, bad.N, bad.T, b, code)
			}
		}
	}
	full := make([]impl.Value, impl.MaxList)
	full[impl.MaxList-1] = impl.Value{Kind: 3}
	if b, code := impl.KeyBytes(full); code != impl.ErrBad || len(b) != 0 {
		t.Errorf("KeyBytes with the last one of MaxList values bad: %d bytes, code %d", len(b), code)
	}
}

func TestReadKeyCodes(t *testing.T) {
	nulls := func(n int) string { return strings.Repeat("\x01", n) }
	for _, x := range []struct {
		name, b string
		want    int
	}{
		{"a kind below", "\x00", impl.ErrForm},
		{"a kind above", "\x04", impl.ErrForm},
		{"a kind far above", "\xff\x00", impl.ErrForm},
		{"a number without bytes", "\x02", impl.ErrForm},
		{"a number of three bytes", "\x02\x00\x00\x00", impl.ErrForm},
		{"a number of three bytes behind a value", "\x01\x02\x00\x00\x00", impl.ErrForm},
		{"a number beyond MaxNumber", "\x02\x77\x35\x94\x01", impl.ErrForm},
		{"a number far beyond MaxNumber", "\x02\xff\xff\xff\xff", impl.ErrForm},
		{"a word without an end", "\x03", impl.ErrForm},
		{"a word of letters without an end", "\x03ab", impl.ErrForm},
		{"a great letter", "\x03A\x00", impl.ErrForm},
		{"a digit in a word", "\x03a1\x00", impl.ErrForm},
		{"a byte beside the letters", "\x03`\x00", impl.ErrForm},
		{"the other byte beside the letters", "\x03{\x00", impl.ErrForm},
		{"a word of 11 letters", "\x03abcdefghijk\x00", impl.ErrForm},
		{"a byte left over", "\x03ab\x00\x00", impl.ErrForm},
		{"two ends of a word", "\x03\x00\x00", impl.ErrForm},
		{"MaxList + 1 values", nulls(impl.MaxList + 1), impl.ErrMany},
		{"MaxText values", nulls(impl.MaxText), impl.ErrMany},
		{"MaxList + 1 values, and a byte that is none", nulls(impl.MaxList+1) + "\x00", impl.ErrForm},
		{"MaxText bytes, the last one none", nulls(impl.MaxText-1) + "\x04", impl.ErrForm},
		{"MaxText + 1 values", nulls(impl.MaxText + 1), impl.ErrLong},
		{"MaxText + 1 bytes that are no key", strings.Repeat("\x00", impl.MaxText+1), impl.ErrLong},
	} {
		if list, code := impl.ReadKey([]byte(x.b)); code != x.want || len(list) != 0 {
			t.Errorf("%s: %d values, code %d, want %d", x.name, len(list), code, x.want)
		}
	}
	if list, code := impl.ReadKey([]byte(nulls(impl.MaxList))); code != impl.OK || len(list) != impl.MaxList {
		t.Errorf("MaxList values: %d values, code %d", len(list), code)
	}
}

func TestKeysCutShort(t *testing.T) {
	list := []impl.Value{word("ab"), none, number(-1), word(""), number(impl.MaxNumber)}
	whole, _ := impl.KeyBytes(list)
	right := map[int]int{}
	for n := range len(list) + 1 {
		b, _ := impl.KeyBytes(list[:n])
		right[len(b)] = n + 1
	}
	for cut := range len(whole) + 1 {
		got, code := impl.ReadKey(whole[:cut])
		if n := right[cut]; n > 0 && (code != impl.OK || !slices.Equal(got, list[:n-1])) {
			t.Errorf("cut at %d: %v, code %d", cut, got, code)
		} else if n == 0 && (code != impl.ErrForm || len(got) != 0) {
			t.Errorf("cut at %d: %v, code %d, want ErrForm", cut, got, code)
		}
	}
}

func TestKeysOfAllShortBytes(t *testing.T) {
	for _, b := range allStrings([]byte{0, 1, 2, 3, 4, 'a', 'z', 0x77}, 6) {
		list, code := impl.ReadKey(b)
		if code != impl.OK && (code != impl.ErrForm || len(list) != 0) {
			t.Fatalf("ReadKey(%q): %v, code %d", b, list, code)
		}
		if code == impl.OK {
			if back, code := impl.KeyBytes(list); code != impl.OK || !bytes.Equal(back, b) {
				t.Errorf("ReadKey(%q) = %v, whose key is %q, %d", b, list, back, code)
			}
		}
	}
}

func TestValueTexts(t *testing.T) {
	for _, x := range []struct {
		v    impl.Value
		want string
	}{
		{none, "null"}, {number(0), "0"}, {number(-1), "-1"}, {number(1), "1"}, {number(10), "10"},
		{number(-impl.MaxNumber), "-1000000000"}, {number(impl.MaxNumber), "1000000000"},
		{word(""), "''"}, {word("null"), "'null'"}, {word("abcdefghij"), "'abcdefghij'"},
	} {
		if got, code := impl.ValueText(x.v); got != x.want || code != impl.OK {
			t.Errorf("ValueText(%v) = %q, %d", x.v, got, code)
		}
	}
	for _, bad := range badValues() {
		if got, code := impl.ValueText(bad); got != "" || code != impl.ErrBad {
			t.Errorf("ValueText(%d %d %.20q) = %q, %d", bad.Kind, bad.N, bad.T, got, code)
		}
	}
}
