package tests

import (
	"fmt"
	"slices"
	"strings"
	"testing"

	"loop.example/g00332/impl"
)

func checkTree(t *testing.T, name string, got, want impl.Tree) {
	t.Helper()
	if !sameTree(got, want) {
		t.Errorf("%s: %s\nwant %s", name, tellTree(got), tellTree(want))
	}
}

// checkKeys: a tree is that of the keys, and has just these.
func checkKeys(t *testing.T, name string, x impl.Tree, keys []string) {
	t.Helper()
	checkTree(t, name, x, wantTree(keys))
	if !impl.TreeOK(x) {
		t.Errorf("%s: not right", name)
	}
	if all, code := impl.TreeRange(x, "", strings.Repeat("\xff", 31)); !slices.Equal(all, keys) || code != impl.OK {
		t.Errorf("%s: the keys are %q, code %d, want %q", name, all, code, keys)
	}
	for _, k := range keys {
		if ok, code := impl.TreeFind(x, k); !ok || code != impl.OK {
			t.Errorf("%s: %q is found: %v, code %d", name, k, ok, code)
		}
	}
}

func insert(t *testing.T, x impl.Tree, key string) impl.Tree {
	t.Helper()
	next, code := impl.TreeInsert(x, key)
	if code != impl.OK {
		t.Fatalf("TreeInsert of %q: code %d", key, code)
	}
	return next
}

func remove(t *testing.T, x impl.Tree, key string) impl.Tree {
	t.Helper()
	next, code := impl.TreeDelete(x, key)
	if code != impl.OK {
		t.Fatalf("TreeDelete of %q: code %d", key, code)
	}
	return next
}

// keyOrders are orders in which the keys are put in, or taken away.
func keyOrders(keys []string) map[string][]string {
	falling := slices.Clone(keys)
	slices.Reverse(falling)
	var inwards []string
	for i := range keys {
		inwards = append(inwards, pick(i%2 == 0, keys, falling)[i/2])
	}
	x, y := dice(1), dice(77)
	return map[string][]string{"rising": keys, "falling": falling, "from both ends": inwards, "mixed": x.mixed(keys), "mixed otherwise": y.mixed(keys)}
}

func TestTreeConstants(t *testing.T) {
	if impl.TreeMost != 4 || impl.MaxLeaves != 60 {
		t.Error("constants of chapter 10")
	}
}

func TestNewTree(t *testing.T) {
	x := impl.NewTree()
	checkTree(t, "NewTree", x, treeOf(0, leaf()))
	if n, code := impl.TreeDepth(x); n != 1 || code != impl.OK || !impl.TreeOK(x) {
		t.Errorf("a new tree is %d deep, code %d", n, code)
	}
	if ok, code := impl.TreeFind(x, "a"); ok || code != impl.OK {
		t.Errorf("a key of a new tree is found: %v, code %d", ok, code)
	}
	if all, code := impl.TreeRange(x, "", "\xff"); len(all) != 0 || code != impl.OK {
		t.Errorf("a new tree has %q, code %d", all, code)
	}
	if _, code := impl.TreeDelete(x, "a"); code != impl.ErrNone {
		t.Errorf("TreeDelete of a new tree: code %d", code)
	}
}

// TestTheTreeOfEachNumberOfKeys: from none to MaxLeaves and back, whatever the order.
func TestTheTreeOfEachNumberOfKeys(t *testing.T) {
	keys := manyKeys(impl.MaxLeaves)
	for in, order := range keyOrders(keys) {
		x, have := impl.NewTree(), []string{}
		for _, k := range order {
			x, have = insert(t, x, k), wantWith(have, k)
			checkKeys(t, fmt.Sprintf("%s, %d keys", in, len(have)), x, have)
		}
		full, code := impl.TreeInsert(x, "more")
		if code != impl.ErrFull {
			t.Errorf("%s, key 61: code %d", in, code)
		}
		checkTree(t, in+", key 61", full, impl.Tree{})
		for out, order := range keyOrders(keys) {
			y, left := x, keys
			for _, k := range order {
				y, left = remove(t, y, k), wantWithout(left, k)
				checkKeys(t, fmt.Sprintf("%s, then %s, %d keys", in, out, len(left)), y, left)
			}
			checkTree(t, in+", then "+out, y, impl.NewTree())
		}
	}
}

// shapeOf tells how many keys the leaves have, then, of the inner nodes, how many kids.
func shapeOf(x impl.Tree) string {
	var parts []string
	for _, n := range x.Nodes {
		if n.Leaf {
			parts = append(parts, fmt.Sprint(len(n.Keys)))
		} else {
			parts = append(parts, fmt.Sprint("n", len(n.Kids)))
		}
	}
	return strings.Join(parts, " ")
}

// TestShapesOfTrees: written out, at the numbers where the last but one node of a level changes.
func TestShapesOfTrees(t *testing.T) {
	for n, want := range map[int]string{
		0: "0", 1: "1", 2: "2", 3: "3", 4: "4",
		5: "3 2 n2", 6: "4 2 n2", 7: "4 3 n2", 8: "4 4 n2",
		9: "4 3 2 n3", 10: "4 4 2 n3", 12: "4 4 4 n3", 13: "4 4 3 2 n4", 16: "4 4 4 4 n4",
		17: "4 4 4 3 2 n5", 19: "4 4 4 4 3 n5", 20: "4 4 4 4 4 n5",
		21: "4 4 4 4 3 2 n4 n2 n2", 22: "4 4 4 4 4 2 n4 n2 n2", 24: "4 4 4 4 4 4 n4 n2 n2",
		25: "4 4 4 4 4 3 2 n5 n2 n2", 28: "4 4 4 4 4 4 4 n5 n2 n2", 29: "4 4 4 4 4 4 3 2 n5 n3 n2",
		33: "4 4 4 4 4 4 4 3 2 n5 n4 n2", 37: "4 4 4 4 4 4 4 4 3 2 n5 n5 n2", 40: "4 4 4 4 4 4 4 4 4 4 n5 n5 n2",
		41: "4 4 4 4 4 4 4 4 4 3 2 n5 n4 n2 n3", 42: "4 4 4 4 4 4 4 4 4 4 2 n5 n4 n2 n3", 44: "4 4 4 4 4 4 4 4 4 4 4 n5 n4 n2 n3",
		45: "4 4 4 4 4 4 4 4 4 4 3 2 n5 n5 n2 n3", 48: "4 4 4 4 4 4 4 4 4 4 4 4 n5 n5 n2 n3",
		57: "4 4 4 4 4 4 4 4 4 4 4 4 4 3 2 n5 n5 n5 n3", 60: "4 4 4 4 4 4 4 4 4 4 4 4 4 4 4 n5 n5 n5 n3",
	} {
		x := impl.NewTree()
		for _, k := range manyKeys(n) {
			x = insert(t, x, k)
		}
		if got := shapeOf(x); got != want || x.Root != len(x.Nodes)-1 {
			t.Errorf("%d keys: %s, root %d, want %s", n, got, x.Root, want)
		}
		if len(x.Nodes) > 0 && !slices.Equal(x.Nodes[0].Keys, manyKeys(n)[:min(n, len(x.Nodes[0].Keys))]) {
			t.Errorf("%d keys: the first leaf has %q", n, x.Nodes[0].Keys)
		}
	}
}

// TestOneTreeNodeByNode: 21 keys, with a last but one node of one fewer at two levels.
func TestOneTreeNodeByNode(t *testing.T) {
	x := impl.NewTree()
	for _, k := range keysIn("u a t b s c r d q e p f o g n h m i l j k") {
		x = insert(t, x, k)
	}
	checkTree(t, "21 letters", x, treeOf(8, leaf("a", "b", "c", "d"), leaf("e", "f", "g", "h"), leaf("i", "j", "k", "l"), leaf("m", "n", "o", "p"),
		leaf("q", "r", "s"), leaf("t", "u"), inner(keysIn("e i m"), 0, 1, 2, 3), inner(keysIn("t"), 4, 5), inner(keysIn("q"), 6, 7)))
	checkTree(t, "20 letters", remove(t, x, "a"), treeOf(5, leaf("b", "c", "d", "e"), leaf("f", "g", "h", "i"), leaf("j", "k", "l", "m"),
		leaf("n", "o", "p", "q"), leaf("r", "s", "t", "u"), inner(keysIn("f j n r"), 0, 1, 2, 3, 4)))
}

func TestTreeDepth(t *testing.T) {
	for n := range impl.MaxLeaves + 1 {
		want := 1
		switch {
		case n > 20:
			want = 3
		case n > 4:
			want = 2
		}
		if got, code := impl.TreeDepth(wantTree(manyKeys(n))); got != want || code != impl.OK {
			t.Errorf("%d keys: %d deep, code %d, want %d", n, got, code, want)
		}
	}
	x := dice(5)
	for keys, want := range map[int]int{1: 1, 2: 2, 3: 2, 4: 3, 7: 3, 8: 4, 15: 4, 16: 5, 31: 5, 32: 6, 60: 6} {
		if got, code := impl.TreeDepth(x.tree(manyKeys(keys), 1, 2)); got != want || code != impl.OK {
			t.Errorf("%d leaves of one key, by twos: %d deep, code %d, want %d", keys, got, code, want)
		}
	}
}

// TestTreesOfOtherForms: what is put in, taken away and found does not hang on the form.
func TestTreesOfOtherForms(t *testing.T) {
	x := dice(3)
	all := manyKeys(impl.MaxLeaves)
	for n := range impl.MaxLeaves + 1 {
		for form := range 8 {
			keys := x.mixed(all)[:n]
			slices.Sort(keys)
			one := x.tree(keys, 1+form%4, 2+form/2)
			name := fmt.Sprintf("%d keys, form %d", n, form)
			if !impl.TreeOK(one) {
				t.Fatalf("%s: not right: %s", name, tellTree(one))
			}
			for _, k := range all {
				has := slices.Contains(keys, k)
				if ok, code := impl.TreeFind(one, k); ok != has || code != impl.OK {
					t.Errorf("%s: %q is found: %v, code %d", name, k, ok, code)
				}
				more, insertCode := impl.TreeInsert(one, k)
				less, deleteCode := impl.TreeDelete(one, k)
				if has {
					checkTree(t, name+", without "+k, less, wantTree(wantWithout(keys, k)))
					checkTree(t, name+", twice "+k, more, impl.Tree{})
				} else {
					checkTree(t, name+", with "+k, more, wantTree(wantWith(keys, k)))
					checkTree(t, name+", of which none is "+k, less, impl.Tree{})
				}
				if insertCode != pick(has, impl.ErrTwice, impl.OK) || deleteCode != pick(has, impl.OK, impl.ErrNone) {
					t.Errorf("%s, %q: codes %d, %d", name, k, insertCode, deleteCode)
				}
			}
		}
	}
}

func TestKeysOfAnyBytes(t *testing.T) {
	keys := oddKeys()
	slices.Sort(keys)
	for name, order := range keyOrders(keys) {
		x, have := impl.NewTree(), []string{}
		for _, k := range order {
			if ok, code := impl.TreeFind(x, k); ok || code != impl.OK {
				t.Errorf("%s: %q is found ahead: %v, code %d", name, k, ok, code)
			}
			x, have = insert(t, x, k), wantWith(have, k)
			checkKeys(t, fmt.Sprintf("%s, %d keys", name, len(have)), x, have)
		}
		for _, k := range order {
			x, have = remove(t, x, k), wantWithout(have, k)
			checkKeys(t, fmt.Sprintf("%s, %d keys left", name, len(have)), x, have)
			if ok, code := impl.TreeFind(x, k); ok || code != impl.OK {
				t.Errorf("%s: %q is found behind: %v, code %d", name, k, ok, code)
			}
		}
	}
}

func TestKeysByLength(t *testing.T) {
	x := wantTree(manyKeys(21))
	for n, want := range map[int]int{0: impl.ErrRange, 1: impl.OK, 2: impl.OK, 29: impl.OK, 30: impl.OK, 31: impl.ErrRange, 32: impl.ErrRange,
		255: impl.ErrRange, 256: impl.ErrRange, 257: impl.ErrRange, 286: impl.ErrRange, impl.MaxText: impl.ErrRange, impl.MaxText + 1: impl.ErrLong} {
		key := filled(n)
		more, code := impl.TreeInsert(x, key)
		if code != want {
			t.Errorf("TreeInsert of %d bytes: code %d, want %d", n, code, want)
		}
		if code == impl.OK {
			checkKeys(t, fmt.Sprint("a key of ", n), more, wantWith(manyKeys(21), key))
			checkTree(t, fmt.Sprintf("a key of %d and without it", n), remove(t, more, key), x)
		} else {
			checkTree(t, fmt.Sprint("TreeInsert of a key of ", n), more, impl.Tree{})
		}
		less, code := impl.TreeDelete(x, key)
		if code != pick(want == impl.OK, impl.ErrNone, want) {
			t.Errorf("TreeDelete of %d bytes: code %d", n, code)
		}
		checkTree(t, fmt.Sprint("TreeDelete of a key of ", n), less, impl.Tree{})
		if ok, code := impl.TreeFind(x, key); ok || code != want {
			t.Errorf("TreeFind of %d bytes: %v, code %d", n, ok, code)
		}
	}
}

func TestRangesOfATree(t *testing.T) {
	x := dice(9)
	odd := oddKeys()
	slices.Sort(odd)
	ends := append(slices.Clone(odd), "", "\x00\x00\x00", "a\x00a", "aab", "m", filled(31), strings.Repeat("\xff", 31), filled(impl.MaxText))
	for n := range len(odd) + 1 {
		keys := x.mixed(odd)[:n]
		slices.Sort(keys)
		for _, one := range []impl.Tree{wantTree(keys), x.tree(keys, 4, 5), x.tree(keys, 1, 2)} {
			for _, from := range ends {
				for _, to := range ends {
					got, code := impl.TreeRange(one, from, to)
					if want := wantRange(keys, from, to); !slices.Equal(got, want) || code != impl.OK {
						t.Fatalf("from %.40q to %.40q of %q: %q, code %d, want %q", from, to, keys, got, code, want)
					}
				}
			}
		}
	}
}

func TestEndsOfARange(t *testing.T) {
	x := wantTree(keysIn("b d f h j l"))
	for _, c := range []struct{ name, from, to, want string }{
		{"alike ends", "d", "d", ""}, {"alike ends between keys", "e", "e", ""}, {"the wrong way round", "j", "d", ""},
		{"both empty", "", "", ""}, {"to an empty one", "d", "", ""}, {"from an empty one", "", "f", "b d"},
		{"beyond all keys", "m", "z", ""}, {"ahead of all keys", "A", "a", ""}, {"up to the first", "a", "b", ""},
		{"from the last on", "l", "z", "l"}, {"up to the last", "h", "l", "h j"}, {"from behind the last", "l\x00", "z", ""},
		{"just one", "d", "d\x00", "d"}, {"all", "b", "l\x00", "b d f h j l"}, {"from between", "c", "i", "d f h"},
		{"of one leaf", "b", "h", "b d f"}, {"of two leaves", "f", "j", "f h"}, {"of the greatest bytes", "", "\xff\xff", "b d f h j l"},
	} {
		if got, code := impl.TreeRange(x, c.from, c.to); !slices.Equal(got, keysIn(c.want)) || code != impl.OK {
			t.Errorf("%s: %q, code %d, want %q", c.name, got, code, c.want)
		}
	}
}
