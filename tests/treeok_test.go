package tests

import (
	"fmt"
	"math"
	"slices"
	"testing"

	"loop.example/g00332/impl"
)

// bush is a right tree of five keys.
func bush() impl.Tree {
	return treeOf(3, leaf("a", "b"), leaf("c", "d"), leaf("e"), inner(keysIn("c e"), 0, 1, 2))
}

// thicket is a right tree of three levels, with the root ahead.
func thicket() impl.Tree {
	return treeOf(0, inner(keysIn("e"), 1, 2), inner(keysIn("c"), 3, 4), inner(keysIn("g i"), 5, 6, 7),
		leaf("a", "b"), leaf("c", "d"), leaf("e", "f"), leaf("g", "h"), leaf("i", "j"))
}

// byTwos are leaves of one key, and over them nodes of two kids, as long as there is room for a level.
func byTwos(keys []string) impl.Tree {
	x := dice(1)
	return x.tree(keys, 1, 2)
}

// inRow has inner nodes in a row, each with a leaf to the left and the rest of the row to the right.
func inRow(inners int) impl.Tree {
	key := func(i int) string { return fmt.Sprintf("k%06d", i) }
	var nodes []impl.TreeNode
	for i := range inners {
		nodes = append(nodes, leaf(key(i)), inner([]string{key(i + 1)}, 2*i, min(2*i+3, 2*inners)))
	}
	return treeOf(min(1, 2*inners), append(nodes, leaf(key(inners)))...)
}

// wide is a tree of n leaves of one key, by fives, however many they are.
func wide(n int) impl.Tree {
	var x impl.Tree
	var level []int
	for i := range n {
		x.Nodes = append(x.Nodes, leaf(fmt.Sprintf("k%04d", i)))
		level = append(level, i)
	}
	for len(level) > 1 {
		var above []int
		at := 0
		for _, size := range sizes(len(level), 5) {
			var signs []string
			for _, kid := range level[at+1 : at+size] {
				for !x.Nodes[kid].Leaf {
					kid = x.Nodes[kid].Kids[0]
				}
				signs = append(signs, x.Nodes[kid].Keys[0])
			}
			x.Nodes = append(x.Nodes, inner(signs, level[at:at+size]...))
			above = append(above, len(x.Nodes)-1)
			at += size
		}
		level = above
	}
	x.Root = level[0]
	return cloneTree(x)
}

func rightTrees() map[string]impl.Tree {
	trees := map[string]impl.Tree{
		"an empty leaf":           treeOf(0, leaf()),
		"empty lists":             treeOf(0, impl.TreeNode{Leaf: true, Keys: []string{}, Kids: []int{}}),
		"one key":                 treeOf(0, leaf("a")),
		"TreeMost keys":           treeOf(0, leaf("a", "b", "c", "d")),
		"two leaves of one key":   treeOf(0, inner(keysIn("b"), 2, 1), leaf("b"), leaf("a")),
		"a bush":                  bush(),
		"a thicket":               thicket(),
		"five kids":               treeOf(5, leaf("a"), leaf("b"), leaf("c"), leaf("d"), leaf("e"), inner(keysIn("b c d e"), 0, 1, 2, 3, 4)),
		"odd keys":                treeOf(0, leaf("\x00", "\x00\x00", "\xff", "\xff\xff")),
		"a key of 30":             treeOf(0, leaf("a", filled(30))),
		"a key of 30 as a sign":   treeOf(0, inner([]string{filled(30)}, 1, 2), leaf("a"), leaf(filled(30))),
		"keys that begin alike":   treeOf(2, leaf("a", "a\x00"), leaf("aa", "aaa"), inner(keysIn("aa"), 0, 1)),
		"a row of one":            inRow(1),
		"60 leaves, by twos":      byTwos(manyKeys(60)),
		"32 leaves, by twos":      byTwos(manyKeys(32)),
		"60 leaves, by fives":     wide(60),
		"25 leaves, by fives":     wide(25),
		"leaves of 4 beside of 1": treeOf(2, leaf("a", "b", "c", "d"), leaf("e"), inner(keysIn("e"), 0, 1)),
		"nodes of 5 beside of 2": treeOf(9, leaf("a"), leaf("b"), leaf("c"), leaf("d"), leaf("e"), leaf("f"), leaf("g"),
			inner(keysIn("b c d e"), 0, 1, 2, 3, 4), inner(keysIn("g"), 5, 6), inner(keysIn("f"), 7, 8)),
	}
	for n := range impl.MaxLeaves + 1 {
		x := dice(n)
		trees[fmt.Sprint("the tree of keys ", n)] = wantTree(manyKeys(n))
		trees[fmt.Sprint("another tree of keys ", n)] = x.tree(manyKeys(n), 4, 5)
	}
	return trees
}

// wrongPlaces are trees in which nodes are none, or are reached twice or never.
func wrongPlaces() map[string]impl.Tree {
	trees := map[string]impl.Tree{
		"no nodes":                          {},
		"no nodes, a root":                  {Root: 1},
		"the root is a leaf aside":          treeWith(bush(), func(t *impl.Tree) { t.Root = 0 }),
		"the root is a kid":                 treeWith(thicket(), func(t *impl.Tree) { t.Root = 1 }),
		"a leaf twice":                      treeWith(bush(), func(t *impl.Tree) { t.Nodes[3].Kids[2] = 1 }),
		"a leaf twice, and all are reached": treeOf(2, leaf("a"), leaf("b"), inner(keysIn("b b"), 0, 1, 1)),
		"an inner node twice":               treeWith(thicket(), func(t *impl.Tree) { t.Nodes[0].Kids[1] = 1 }),
		"a leaf of two nodes":               treeWith(thicket(), func(t *impl.Tree) { t.Nodes[2].Kids[0] = 4 }),
		"a leaf that is never reached":      treeWith(bush(), func(t *impl.Tree) { t.Nodes = append(t.Nodes, leaf("z")) }),
		"an empty leaf aside":               treeWith(bush(), func(t *impl.Tree) { t.Nodes = append(t.Nodes, leaf()) }),
		"nothing aside":                     treeWith(bush(), func(t *impl.Tree) { t.Nodes = append(t.Nodes, impl.TreeNode{}) }),
		"a node that leads to itself aside": treeWith(bush(), func(t *impl.Tree) { t.Nodes = append(t.Nodes, inner(keysIn("c"), 4, 4)) }),
		"two empty leaves":                  treeOf(0, leaf(), leaf()),
		"two trees":                         treeOf(0, leaf("a"), leaf("b")),
		"the root is its own kid":           treeOf(0, inner(keysIn("b"), 1, 0), leaf("a")),
		"the root is its only kid":          treeOf(0, inner(nil, 0)),
		"the root is both its kids":         treeOf(0, inner(keysIn("a"), 0, 0)),
		"two nodes lead round":              treeOf(0, inner(keysIn("b"), 2, 1), inner(keysIn("c"), 3, 0), leaf("a"), leaf("b")),
		"three nodes lead round":            treeOf(0, inner(nil, 1), inner(nil, 2), inner(nil, 0)),
		"a kid leads back to the root":      treeWith(thicket(), func(t *impl.Tree) { t.Nodes[2].Kids[2] = 0 }),
	}
	for _, at := range []int{-1, 4, 5, 200, 201, 256, 1 << 32, math.MinInt, math.MaxInt} {
		trees[fmt.Sprint("root ", at)] = treeWith(bush(), func(t *impl.Tree) { t.Root = at })
		trees[fmt.Sprint("root of one leaf ", at)] = treeOf(at, leaf("a"))
		for kid := range 3 {
			trees[fmt.Sprintf("kid %d is %d", kid, at)] = treeWith(bush(), func(t *impl.Tree) { t.Nodes[3].Kids[kid] = at })
		}
	}
	return trees
}

// wrongNumbers are trees of too many nodes, keys or kids, or of too few.
func wrongNumbers() map[string]impl.Tree {
	trees := map[string]impl.Tree{
		"61 keys":                          wantTree(manyKeys(61)),
		"61 leaves, by twos":               byTwos(manyKeys(61)),
		"61 leaves, by fives":              wide(61),
		"64 keys":                          wantTree(manyKeys(64)),
		"five keys in the root":            treeOf(0, leaf("a", "b", "c", "d", "e")),
		"five keys in a leaf":              treeOf(2, leaf("a", "b", "c", "d", "e"), leaf("f"), inner(keysIn("f"), 0, 1)),
		"six kids":                         treeOf(6, leaf("a"), leaf("b"), leaf("c"), leaf("d"), leaf("e"), leaf("f"), inner(keysIn("b c d e f"), 0, 1, 2, 3, 4, 5)),
		"an inner node without kids":       treeOf(0, impl.TreeNode{}),
		"an inner node of keys alone":      treeOf(0, inner(keysIn("a b"))),
		"an inner node with one kid":       treeOf(0, inner(nil, 1), leaf("a")),
		"one kid, which is empty":          treeOf(0, inner(nil, 1), leaf()),
		"one kid, and a key":               treeOf(0, inner(keysIn("a"), 1), leaf("a")),
		"an inner kid with one kid":        treeOf(0, inner(keysIn("b"), 1, 2), inner(nil, 3), inner(nil, 4), leaf("a"), leaf("b")),
		"too few kids for the keys":        treeOf(2, leaf("a", "b"), leaf("c", "d"), inner(keysIn("c e"), 0, 1)),
		"as many kids as keys":             treeOf(2, leaf("a", "b"), leaf("c", "d"), inner(keysIn("a c"), 0, 1)),
		"too many kids for the keys":       treeWith(bush(), func(t *impl.Tree) { t.Nodes[3].Keys = keysIn("c") }),
		"kids without a key":               treeWith(bush(), func(t *impl.Tree) { t.Nodes[3].Keys = nil }),
		"a key too many":                   treeWith(bush(), func(t *impl.Tree) { t.Nodes[3].Keys = keysIn("c e g") }),
		"an empty leaf as the first kid":   treeWith(bush(), func(t *impl.Tree) { t.Nodes[0] = leaf() }),
		"an empty leaf as a middle kid":    treeWith(bush(), func(t *impl.Tree) { t.Nodes[1] = leaf() }),
		"an empty leaf as the last kid":    treeWith(bush(), func(t *impl.Tree) { t.Nodes[2] = leaf() }),
		"empty leaves alone":               treeOf(0, inner([]string{""}, 1, 2), leaf(), leaf()),
		"an empty leaf of no sign":         treeOf(0, inner([]string{""}, 1, 2), leaf("a"), leaf()),
		"an empty leaf below":              treeWith(thicket(), func(t *impl.Tree) { t.Nodes[6] = leaf() }),
		"a leaf with kids":                 treeWith(bush(), func(t *impl.Tree) { t.Nodes[0].Kids = []int{1} }),
		"a leaf that is its own kid":       treeWith(bush(), func(t *impl.Tree) { t.Nodes[2].Kids = []int{2} }),
		"a leaf with a kid that is none":   treeWith(bush(), func(t *impl.Tree) { t.Nodes[1].Kids = []int{-1} }),
		"a leaf as an inner node":          treeWith(bush(), func(t *impl.Tree) { t.Nodes[3].Leaf = true }),
		"an inner node as a leaf":          treeWith(bush(), func(t *impl.Tree) { t.Nodes[1].Leaf = false }),
		"a root leaf with a kid":           treeOf(0, impl.TreeNode{Leaf: true, Kids: []int{1}}, leaf("a")),
		"a root leaf with two kids":        treeOf(0, impl.TreeNode{Leaf: true, Keys: keysIn("b"), Kids: []int{1, 2}}, leaf("a"), leaf("b")),
		"a root leaf that is its kid":      treeOf(0, impl.TreeNode{Leaf: true, Kids: []int{0}}),
		"a root leaf with no node as kid":  treeOf(0, impl.TreeNode{Leaf: true, Kids: []int{-1}}),
		"a root leaf with no node as kids": treeOf(0, impl.TreeNode{Leaf: true, Keys: keysIn("b"), Kids: []int{7, 8}}),
		"MaxList keys in a leaf":           treeOf(0, leaf(slices.Repeat(keysIn("a"), impl.MaxList)...)),
		"MaxList kids":                     treeOf(0, inner(slices.Repeat(keysIn("a"), impl.MaxList), make([]int, impl.MaxList+1)...)),
	}
	// With at most 60 keys no right tree has more than 119 nodes: of those below, 200 and 201 are wrong for their keys, too.
	trees["200 nodes"], trees["201 nodes"] = wide(158), wide(159)
	for _, n := range []int{99, 100, 199, 200, 201, 202, 256, impl.MaxList + 1, 100001} {
		trees[fmt.Sprint("nodes in a row, of number ", n)] = inRow(n)
		trees[fmt.Sprint("leaves of one key, of number ", n)] = wide(n)
		trees[fmt.Sprint("empty leaves, of number ", n)] = treeOf(0, slices.Repeat([]impl.TreeNode{leaf()}, n)...)
		trees[fmt.Sprint("60 keys and leaves aside, of number ", n)] = treeWith(byTwos(manyKeys(60)), func(t *impl.Tree) {
			for i := len(t.Nodes); i < n; i++ {
				t.Nodes = append(t.Nodes, leaf(fmt.Sprintf("z%06d", i)))
			}
			t.Nodes = append(t.Nodes, leaf())
		})
	}
	return trees
}

// wrongKeys are trees whose keys do not rise, are too short or too long, or say what is not below; or of unlike depths.
func wrongKeys() map[string]impl.Tree {
	trees := map[string]impl.Tree{
		"keys that fall":                         treeOf(0, leaf("b", "a")),
		"keys that are alike":                    treeOf(0, leaf("a", "a")),
		"the last key falls":                     treeOf(0, leaf("a", "b", "d", "c")),
		"keys fall by a later byte":              treeOf(0, leaf("ab", "aa")),
		"a key behind one that begins with it":   treeOf(0, leaf("aa", "a")),
		"bytes as if they had a sign":            treeOf(0, leaf("\x80", "a")),
		"keys fall in a leaf":                    treeWith(bush(), func(t *impl.Tree) { t.Nodes[1].Keys[1] = "bb" }),
		"keys fall from leaf to leaf":            treeOf(2, leaf("c", "d"), leaf("a", "b"), inner(keysIn("a"), 0, 1)),
		"a key of the leaf ahead":                treeOf(2, leaf("a", "b"), leaf("b", "c"), inner(keysIn("b"), 0, 1)),
		"a key beyond the next leaf":             treeWith(bush(), func(t *impl.Tree) { t.Nodes[0].Keys[1] = "cc" }),
		"keys fall from node to node":            treeWith(thicket(), func(t *impl.Tree) { t.Nodes[4].Keys[1] = "ee" }),
		"kids the wrong way round":               treeWith(bush(), func(t *impl.Tree) { t.Nodes[3].Kids = []int{2, 1, 0} }),
		"kids and keys the wrong way round":      treeOf(2, leaf("b"), leaf("a"), inner(keysIn("a"), 0, 1)),
		"an empty key":                           treeOf(0, leaf("")),
		"an empty key ahead":                     treeOf(0, leaf("", "a")),
		"an empty key below":                     treeWith(bush(), func(t *impl.Tree) { t.Nodes[0].Keys[0] = "" }),
		"a key of 31":                            treeOf(0, leaf(filled(31))),
		"a key of 31 behind":                     treeOf(0, leaf("a", filled(31))),
		"a key of 31 below, and as a sign":       treeOf(0, inner([]string{filled(31)}, 1, 2), leaf("a"), leaf(filled(31))),
		"a key beyond MaxText":                   treeOf(0, leaf(filled(impl.MaxText+1))),
		"a sign above the least key":             treeWith(bush(), func(t *impl.Tree) { t.Nodes[3].Keys[0] = "d" }),
		"a sign between the leaves":              treeWith(bush(), func(t *impl.Tree) { t.Nodes[3].Keys[0] = "bb" }),
		"a sign that is the greatest key":        treeWith(bush(), func(t *impl.Tree) { t.Nodes[3].Keys[0] = "b" }),
		"an empty sign":                          treeWith(bush(), func(t *impl.Tree) { t.Nodes[3].Keys[1] = "" }),
		"a last sign above all":                  treeWith(bush(), func(t *impl.Tree) { t.Nodes[3].Keys[1] = "f" }),
		"signs of the kids, from the first on":   treeWith(bush(), func(t *impl.Tree) { t.Nodes[3].Keys = keysIn("a c") }),
		"signs the wrong way round":              treeWith(bush(), func(t *impl.Tree) { t.Nodes[3].Keys = keysIn("e c") }),
		"a sign that is a kid's first sign":      treeWith(thicket(), func(t *impl.Tree) { t.Nodes[0].Keys[0] = "g" }),
		"a wrong sign below the first kid":       treeWith(thicket(), func(t *impl.Tree) { t.Nodes[1].Keys[0] = "d" }),
		"a wrong last sign below":                treeWith(thicket(), func(t *impl.Tree) { t.Nodes[2].Keys[1] = "j" }),
		"a leaf beside an inner node":            treeOf(4, leaf("a"), leaf("b"), leaf("c"), inner(keysIn("c"), 1, 2), inner(keysIn("b"), 0, 3)),
		"an inner node beside a leaf":            treeOf(4, leaf("a"), leaf("b"), leaf("c"), inner(keysIn("b"), 0, 1), inner(keysIn("c"), 3, 2)),
		"a leaf between inner nodes":             treeOf(7, leaf("a"), leaf("b"), leaf("c"), leaf("d"), leaf("e"), inner(keysIn("b"), 0, 1), inner(keysIn("e"), 3, 4), inner(keysIn("c d"), 5, 2, 6)),
		"leaves of unlike depths, further below": treeOf(8, leaf("a"), leaf("b"), leaf("c"), leaf("d"), leaf("e"), inner(keysIn("b"), 0, 1), inner(keysIn("e"), 3, 4), inner(keysIn("d"), 2, 6), inner(keysIn("c"), 5, 7)),
		"each kid of unlike depths": treeOf(0, inner(keysIn("d"), 1, 2), inner(keysIn("b"), 5, 3), inner(keysIn("e"), 6, 4), inner(keysIn("c"), 7, 8), inner(keysIn("f"), 9, 10),
			leaf("a"), leaf("d"), leaf("b"), leaf("c"), leaf("e"), leaf("f")),
		"ten leaves in a row":  inRow(9),
		"two leaves and three": inRow(2),
	}
	return trees
}

func wrongTrees() map[string]impl.Tree {
	all := map[string]impl.Tree{}
	for _, trees := range []map[string]impl.Tree{wrongPlaces(), wrongNumbers(), wrongKeys()} {
		for name, x := range trees {
			all[name] = x
		}
	}
	return all
}

func TestTreeOK(t *testing.T) {
	for name, x := range rightTrees() {
		if !impl.TreeOK(x) {
			t.Errorf("%s: not right: %s", name, tellTree(x))
		}
		if !plainTreeOK(x) {
			t.Errorf("%s: not right by the plain rule", name)
		}
	}
	for name, x := range wrongTrees() {
		if impl.TreeOK(x) {
			t.Errorf("%s: right: %.2000s", name, tellTree(x))
		}
		if plainTreeOK(x) {
			t.Errorf("%s: right by the plain rule", name)
		}
	}
}

func TestTreesOfManyNodes(t *testing.T) {
	for leaves, nodes := range map[int]int{60: 76, 158: 200, 159: 201} {
		if n := len(wide(leaves).Nodes); n != nodes {
			t.Errorf("%d leaves by fives are %d nodes, want %d", leaves, n, nodes)
		}
	}
	if n := len(byTwos(manyKeys(60)).Nodes); n != 116 {
		t.Errorf("60 leaves by twos are %d nodes", n)
	}
}

// TestTreesOfThreeNodes: all trees of up to three nodes, with few keys.
func TestTreesOfThreeNodes(t *testing.T) {
	t.Parallel()
	var nodes []impl.TreeNode
	for _, kids := range [][]int{nil, {0}, {1}, {0, 1}, {1, 0}, {0, 2}, {2, 0}, {1, 2}, {2, 1}, {1, 1}, {0, 1, 2}} {
		for _, keys := range [][]string{nil, {"a"}, {"b"}, {"a", "b"}} {
			nodes = append(nodes, inner(keys, kids...), impl.TreeNode{Leaf: true, Keys: keys, Kids: kids})
		}
	}
	right := 0
	check := func(list ...impl.TreeNode) {
		for root := -1; root <= len(list); root++ {
			x := treeOf(root, list...)
			ok := impl.TreeOK(x)
			if ok != plainTreeOK(x) {
				t.Fatalf("right %v: %s", ok, tellTree(x))
			}
			if ok {
				right++
			}
		}
	}
	for _, a := range nodes {
		check(a)
		for _, b := range nodes {
			check(a, b)
			for _, c := range nodes {
				check(a, b, c)
			}
		}
	}
	// One leaf: of nothing, of a, of b, of both; three: a and b below each of the three places, either way round.
	if right != 4+6 {
		t.Errorf("%d are right", right)
	}
}

// edited is a tree with something changed, by the dice.
func (x *dice) edited(t impl.Tree) impl.Tree {
	t = cloneTree(t)
	at := x.below(len(t.Nodes))
	n := &t.Nodes[at]
	switch kind := x.below(12); {
	case kind == 0:
		t.Root = x.below(len(t.Nodes)+2) - 1
	case kind == 1:
		n.Leaf = !n.Leaf
	case kind == 2:
		n.Keys = append(n.Keys, fmt.Sprintf("k%02d", x.below(62)))
	case kind == 3:
		t.Nodes = append(t.Nodes, leaf(fmt.Sprintf("k%02d", x.below(62))))
	case kind == 4:
		n.Kids = append(n.Kids, x.below(len(t.Nodes)))
	case kind == 5 && len(n.Kids) > 0:
		n.Kids[x.below(len(n.Kids))] = x.below(len(t.Nodes)+2) - 1
	case kind == 6 && len(n.Kids) > 0:
		n.Kids = n.Kids[:len(n.Kids)-1]
	case kind == 7 && len(n.Kids) > 1:
		n.Kids[0], n.Kids[1] = n.Kids[1], n.Kids[0]
	case len(n.Keys) > 0 && kind == 8:
		n.Keys = n.Keys[1:]
	case len(n.Keys) > 0 && kind == 9:
		n.Keys = n.Keys[:len(n.Keys)-1]
	case len(n.Keys) > 0:
		n.Keys[x.below(len(n.Keys))] = fmt.Sprintf("k%02d%s", x.below(61), filled(x.below(3)*14))
	}
	return t
}

func TestRunsOfTreeOK(t *testing.T) {
	t.Parallel()
	seen := map[bool]int{}
	for run := range 20000 {
		x := dice(run)
		keys := x.mixed(manyKeys(impl.MaxLeaves))[:x.below(impl.MaxLeaves+1)]
		slices.Sort(keys)
		one := x.edited(x.tree(keys, 1+x.below(4), 2+x.below(4)))
		ok := impl.TreeOK(one)
		if ok != plainTreeOK(one) {
			t.Fatalf("run %d: right %v: %s", run, ok, tellTree(one))
		}
		seen[ok]++
	}
	if seen[true] < 500 || seen[false] < 5000 {
		t.Errorf("right or not: %v", seen)
	}
}
