package tests

import (
	"fmt"
	"slices"
	"testing"

	"loop.example/g00332/impl"
)

// treeFaults are those of one call, in any company; the codes come in their order. A key is there already or not.
type treeFaults struct{ long, tree, length, there, full bool }

func allTreeFaults() []treeFaults {
	var all []treeFaults
	for n := range 32 {
		all = append(all, treeFaults{n&1 > 0, n&2 > 0, n&4 > 0, n&8 > 0, n&16 > 0})
	}
	return all
}

// treeOf is a tree of the faults, and key one that it is asked for.
func (f treeFaults) treeOf() impl.Tree {
	x := wantTree(manyKeys(pick(f.full, impl.MaxLeaves, impl.MaxLeaves-1)))
	if f.tree {
		x.Nodes = append(x.Nodes, leaf())
	}
	return x
}

func (f treeFaults) key() string {
	switch {
	case f.long:
		return filled(impl.MaxText + 1)
	case f.length:
		return filled(31)
	case f.there:
		return "k07"
	}
	return "k07a"
}

// ahead is the code of the faults that all calls of a key have.
func (f treeFaults) ahead() int {
	switch {
	case f.long:
		return impl.ErrLong
	case f.tree:
		return impl.ErrBad
	case f.length:
		return impl.ErrRange
	}
	return impl.OK
}

func TestFaultsOfTreesComeInTheirOrder(t *testing.T) {
	for _, f := range allTreeFaults() {
		x, key := f.treeOf(), f.key()
		insertCode, deleteCode := f.ahead(), f.ahead()
		if f.ahead() == impl.OK {
			insertCode = pick(f.full, impl.ErrFull, impl.OK)
			if f.there {
				insertCode = impl.ErrTwice
			}
			deleteCode = pick(f.there, impl.OK, impl.ErrNone)
		}
		more, code := impl.TreeInsert(x, key)
		checkTreeCode(t, fmt.Sprintf("TreeInsert with %+v", f), more, code, insertCode)
		less, code := impl.TreeDelete(x, key)
		checkTreeCode(t, fmt.Sprintf("TreeDelete with %+v", f), less, code, deleteCode)
		if ok, code := impl.TreeFind(x, key); ok != (f.ahead() == impl.OK && f.there) || code != f.ahead() {
			t.Errorf("TreeFind with %+v: %v, code %d", f, ok, code)
		}
		if n, code := impl.TreeDepth(x); n != pick(f.tree, 0, 3) || code != pick(f.tree, impl.ErrBad, impl.OK) {
			t.Errorf("TreeDepth with %+v: %d, code %d", f, n, code)
		}
		some, code := impl.TreeRange(x, "k07", key)
		if want := (treeFaults{long: f.long, tree: f.tree}).ahead(); code != want || want != impl.OK && len(some) > 0 {
			t.Errorf("TreeRange with %+v: %q, code %d, want %d", f, some, code, want)
		}
	}
}

func checkTreeCode(t *testing.T, name string, got impl.Tree, code, want int) {
	t.Helper()
	if code != want {
		t.Errorf("%s: code %d, want %d", name, code, want)
	}
	if code != impl.OK {
		checkTree(t, name, got, impl.Tree{})
	} else if !impl.TreeOK(got) {
		t.Errorf("%s: not right", name)
	}
}

// TestWrongTreesAreBadAheadOfAll: whatever the key is but too long a text.
func TestWrongTreesAreBadAheadOfAll(t *testing.T) {
	for name, x := range wrongTrees() {
		for _, n := range []int{0, 1, 30, 31, impl.MaxText, impl.MaxText + 1} {
			want := pick(n > impl.MaxText, impl.ErrLong, impl.ErrBad)
			key, name := filled(n), fmt.Sprintf("%s, a key of %d", name, n)
			more, code := impl.TreeInsert(x, key)
			checkTreeCode(t, "TreeInsert, "+name, more, code, want)
			less, code := impl.TreeDelete(x, key)
			checkTreeCode(t, "TreeDelete, "+name, less, code, want)
			if ok, code := impl.TreeFind(x, key); ok || code != want {
				t.Errorf("TreeFind, %s: %v, code %d", name, ok, code)
			}
			for _, ends := range [][2]string{{"", key}, {key, ""}, {key, key}, {key, "z"}} {
				if some, code := impl.TreeRange(x, ends[0], ends[1]); len(some) > 0 || code != want {
					t.Errorf("TreeRange, %s: %q, code %d", name, some, code)
				}
			}
		}
		if n, code := impl.TreeDepth(x); n != 0 || code != impl.ErrBad {
			t.Errorf("TreeDepth, %s: %d, code %d", name, n, code)
		}
	}
}

// TestKeysOfAFullTree: each key that is there is so ahead of there being no room.
func TestKeysOfAFullTree(t *testing.T) {
	keys := manyKeys(impl.MaxLeaves)
	for _, x := range []impl.Tree{wantTree(keys), byTwos(keys), wide(60)} {
		have, _ := impl.TreeRange(x, "", "z")
		for _, k := range have {
			got, code := impl.TreeInsert(x, k)
			checkTreeCode(t, "TreeInsert of "+k, got, code, impl.ErrTwice)
			got, code = impl.TreeDelete(x, k)
			checkTreeCode(t, "TreeDelete of "+k, got, code, impl.OK)
			checkKeys(t, "without "+k, got, wantWithout(have, k))
		}
		for _, k := range []string{"a", have[0] + "\x00", have[30] + "a", "z"} {
			got, code := impl.TreeInsert(x, k)
			checkTreeCode(t, "TreeInsert of "+k, got, code, impl.ErrFull)
			got, code = impl.TreeDelete(x, k)
			checkTreeCode(t, "TreeDelete of "+k, got, code, impl.ErrNone)
		}
	}
}

func TestLongEndsOfARange(t *testing.T) {
	x := wantTree(manyKeys(9))
	long, longest := filled(impl.MaxText), filled(impl.MaxText+1)
	for _, c := range []struct {
		from, to string
		want     int
		keys     []string
	}{
		{long, "z", impl.OK, manyKeys(9)}, {"", long, impl.OK, nil}, {long, long, impl.OK, nil},
		{longest, "z", impl.ErrLong, nil}, {"", longest, impl.ErrLong, nil}, {longest, longest, impl.ErrLong, nil}, {longest, "", impl.ErrLong, nil},
	} {
		if got, code := impl.TreeRange(x, c.from, c.to); !slices.Equal(got, c.keys) || code != c.want {
			t.Errorf("from %d bytes to %d: %q, code %d, want %d", len(c.from), len(c.to), got, code, c.want)
		}
	}
}
