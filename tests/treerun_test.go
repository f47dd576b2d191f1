package tests

import (
	"fmt"
	"slices"
	"strings"
	"testing"

	"loop.example/g00332/impl"
)

// treeKey is one of few, so that they meet; some are of no right length.
func (x *dice) treeKey(letters, most int) string {
	b := make([]byte, x.below(most+1))
	for i := range b {
		b[i] = []byte("a\x00\xffbzA~")[x.below(letters)]
	}
	if x.below(12) == 0 {
		return string(b) + filled(28+x.below(4))
	}
	return string(b)
}

// insertCode and deleteCode are those of the plain list.
func insertCode(keys []string, key string) int {
	switch {
	case key == "" || len(key) > 30:
		return impl.ErrRange
	case slices.Contains(keys, key):
		return impl.ErrTwice
	case len(keys) == 60:
		return impl.ErrFull
	}
	return impl.OK
}

func deleteCode(keys []string, key string) int {
	switch {
	case key == "" || len(key) > 30:
		return impl.ErrRange
	case !slices.Contains(keys, key):
		return impl.ErrNone
	}
	return impl.OK
}

// TestRunsOfATree: held against a plain sorted list; now and then the tree takes another form.
func TestRunsOfATree(t *testing.T) {
	t.Parallel()
	codes := map[string]int{}
	for run := range 150 {
		x := dice(run)
		letters, most, grow := 2+x.below(6), 1+x.below(6), 3+x.below(6)
		one, keys := impl.NewTree(), []string{}
		for i := range 250 {
			name, key := fmt.Sprintf("run %d, step %d", run, i), x.treeKey(letters, most)
			var next impl.Tree
			var code, want int
			if x.below(10) < grow {
				next, code = impl.TreeInsert(one, key)
				want = insertCode(keys, key)
				codes[fmt.Sprint("insert ", code)]++
				if want == impl.OK {
					keys = wantWith(keys, key)
				}
			} else {
				next, code = impl.TreeDelete(one, key)
				want = deleteCode(keys, key)
				codes[fmt.Sprint("delete ", code)]++
				if want == impl.OK {
					keys = wantWithout(keys, key)
				}
			}
			if code != want {
				t.Fatalf("%s, %q: code %d, want %d", name, key, code, want)
			}
			checkTree(t, name, next, pick(code == impl.OK, wantTree(keys), impl.Tree{}))
			if code == impl.OK {
				one = next
			}
			if x.below(4) == 0 {
				one = x.tree(keys, 1+x.below(4), 2+x.below(4))
			}
			checkAsked(t, name, one, keys, x.treeKey(letters, most), x.treeKey(letters, most))
		}
		if t.Failed() {
			return
		}
	}
	for _, want := range []string{"insert 0", "insert 4", "insert 7", "insert 9", "delete 0", "delete 4", "delete 5"} {
		if codes[want] < 50 {
			t.Errorf("%s came %d times: %v", want, codes[want], codes)
		}
	}
}

// checkAsked: what a tree tells of two keys is what the list tells.
func checkAsked(t *testing.T, name string, x impl.Tree, keys []string, a, b string) {
	t.Helper()
	ok, code := impl.TreeFind(x, a)
	if right := a != "" && len(a) <= 30; ok != slices.Contains(keys, a) || code != pick(right, impl.OK, impl.ErrRange) {
		t.Fatalf("%s: %q is found: %v, code %d", name, a, ok, code)
	}
	for _, ends := range [][2]string{{a, b}, {b, a}, {a, a}, {"", a}, {a, strings.Repeat("\xff", 31)}} {
		got, code := impl.TreeRange(x, ends[0], ends[1])
		if want := wantRange(keys, ends[0], ends[1]); !slices.Equal(got, want) || code != impl.OK {
			t.Fatalf("%s, %q: %q, code %d, want %q", name, ends, got, code, want)
		}
	}
}
