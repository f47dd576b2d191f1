package impl

import (
	"bytes"
	"cmp"
	"strconv"
)

const (
	VaNull = 0
	VaInt  = 1
	VaText = 2

	MaxNumber = 1000000000
	MaxWord   = 10

	maxFields  = 100
	maxField   = 255
	numberSize = 4
	wordEnd    = 0
)

type Value struct {
	Kind, N int
	T       string
}

// Sums of half bytes: those of whole bytes would be more words than a table at package level may hold.
var halfByteSums = [16]uint32{
	0x00000000, 0x1db71064, 0x3b6e20c8, 0x26d930ac,
	0x76dc4190, 0x6b6b51f4, 0x4db26158, 0x5005713c,
	0xedb88320, 0xf00f9344, 0xd6d6a3e8, 0xcb61b38c,
	0x9b64c2b0, 0x86d3d2d4, 0xa00ae278, 0xbdbdf21c,
}

func Check32(b []byte) int {
	if len(b) > MaxText {
		return 0
	}
	sum := uint32(0xffffffff)
	for _, c := range b {
		sum ^= uint32(c)
		sum = sum>>4 ^ halfByteSums[sum&15]
		sum = sum>>4 ^ halfByteSums[sum&15]
	}
	return int(sum ^ 0xffffffff)
}

func FieldsBytes(list []string) ([]byte, int) {
	if len(list) > MaxList {
		return nil, ErrLong
	}
	if len(list) > maxFields {
		return nil, ErrMany
	}
	b := []byte{byte(len(list))}
	for _, f := range list {
		if len(f) > maxField {
			return nil, ErrRange
		}
		b = append(b, byte(len(f)))
		b = append(b, f...)
	}
	return b, OK
}

func ReadFields(b []byte) ([]string, int) {
	if len(b) > MaxText {
		return nil, ErrLong
	}
	if len(b) == 0 || b[0] > maxFields {
		return nil, ErrForm
	}
	var list []string
	rest := b[1:]
	for range b[0] {
		if len(rest) == 0 || len(rest)-1 < int(rest[0]) {
			return nil, ErrForm
		}
		end := 1 + int(rest[0])
		list = append(list, string(rest[1:end]))
		rest = rest[end:]
	}
	if len(rest) > 0 {
		return nil, ErrForm
	}
	return list, OK
}

func ValueOK(v Value) bool {
	switch v.Kind {
	case VaNull:
		return v.N == 0 && v.T == ""
	case VaInt:
		return -MaxNumber <= v.N && v.N <= MaxNumber && v.T == ""
	case VaText:
		return v.N == 0 && isWord(v.T)
	}
	return false
}

func CompareValues(a, b Value) (int, int) {
	if !ValueOK(a) || !ValueOK(b) {
		return 0, ErrBad
	}
	return compareRight(a, b), OK
}

func KeyBytes(list []Value) ([]byte, int) {
	if len(list) > MaxList {
		return nil, ErrLong
	}
	var b []byte
	for _, v := range list {
		if !ValueOK(v) {
			return nil, ErrBad
		}
		b = appendValue(b, v)
	}
	return b, OK
}

func ReadKey(b []byte) ([]Value, int) {
	if len(b) > MaxText {
		return nil, ErrLong
	}
	var list []Value
	for rest := b; len(rest) > 0; {
		v, size := firstValue(rest)
		if size == 0 {
			return nil, ErrForm
		}
		list = append(list, v)
		rest = rest[size:]
	}
	if len(list) > MaxList {
		return nil, ErrMany
	}
	return list, OK
}

func ValueText(v Value) (string, int) {
	if !ValueOK(v) {
		return "", ErrBad
	}
	switch v.Kind {
	case VaInt:
		return strconv.Itoa(v.N), OK
	case VaText:
		return "'" + v.T + "'", OK
	}
	return "null", OK
}

func isWord(t string) bool {
	if len(t) > MaxWord {
		return false
	}
	for i := range len(t) {
		if !isSmallLetter(t[i]) {
			return false
		}
	}
	return true
}

func compareRight(a, b Value) int {
	if c := cmp.Compare(a.Kind, b.Kind); c != 0 {
		return c
	}
	if c := cmp.Compare(a.N, b.N); c != 0 {
		return c
	}
	return cmp.Compare(a.T, b.T)
}

func appendValue(b []byte, v Value) []byte {
	b = append(b, byte(v.Kind+1))
	switch v.Kind {
	case VaInt:
		n := numberBytes(v.N)
		b = append(b, n[:]...)
	case VaText:
		b = append(b, v.T...)
		b = append(b, wordEnd)
	}
	return b
}

// The shift by MaxNumber puts numbers below 0 ahead of the others when bytes are held against each other.
func numberBytes(n int) [numberSize]byte { return highFirst(uint32(n + MaxNumber)) }

func highFirst(u uint32) [numberSize]byte {
	return [numberSize]byte{byte(u >> 24), byte(u >> 16), byte(u >> 8), byte(u)}
}

func numberOf(b [numberSize]byte) int {
	return int(b[0])<<24 + int(b[1])<<16 + int(b[2])<<8 + int(b[3]) - MaxNumber
}

// firstValue answers how many bytes the value takes, 0 if none stands there.
func firstValue(b []byte) (Value, int) {
	v, size := Value{Kind: int(b[0]) - 1}, 1
	switch v.Kind {
	case VaInt:
		size += numberSize
		if len(b) < size {
			return Value{}, 0
		}
		v.N = numberOf([numberSize]byte(b[1:size]))
	case VaText:
		end := bytes.IndexByte(b, wordEnd)
		if end < 0 {
			return Value{}, 0
		}
		v.T, size = string(b[1:end]), end+1
	}
	if !ValueOK(v) {
		return Value{}, 0
	}
	return v, size
}
