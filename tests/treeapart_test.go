package tests

import (
	"fmt"
	"slices"
	"testing"

	"loop.example/g00332/impl"
)

// withRoom are a list's elements in other memory, with others behind its end.
func withRoom[T any](list []T, other T) []T {
	return append(slices.Clone(list), slices.Repeat([]T{other}, 9)...)[:len(list)]
}

// otherTree is x in other memory, with other things behind the ends of the lists.
func otherTree(x impl.Tree) impl.Tree {
	nodes := withRoom(x.Nodes, leaf("behind"))
	for i, n := range nodes {
		nodes[i].Keys, nodes[i].Kids = withRoom(n.Keys, "behind"), withRoom(n.Kids, 77)
	}
	return impl.Tree{Root: x.Root, Nodes: nodes}
}

func wholeTree(x impl.Tree) impl.Tree {
	x.Nodes = slices.Clone(x.Nodes[:cap(x.Nodes)])
	for i, n := range x.Nodes {
		x.Nodes[i].Keys, x.Nodes[i].Kids = n.Keys[:cap(n.Keys)], n.Kids[:cap(n.Kids)]
	}
	return x
}

func spoilTree(x impl.Tree) {
	for _, n := range x.Nodes {
		spoil(n.Keys, "spoilt")
		spoil(n.Kids, 7777)
	}
	spoil(x.Nodes, impl.TreeNode{Keys: []string{"spoilt"}})
}

type treeAsked struct{ key, from, to string }

type treeAnswer struct {
	name string
	tree impl.Tree
	keys []string
	is   bool
	n    int
	code int
}

func (a treeAnswer) tell() string {
	return fmt.Sprintf("%s: %s keys %q is %v n %d code %d", a.name, tellTree(a.tree), a.keys, a.is, a.n, a.code)
}

func (a treeAnswer) spoil() {
	spoilTree(a.tree)
	spoil(a.keys, "spoilt")
}

// treeAnswers are those of all calls that take a tree.
func treeAnswers(x impl.Tree, q treeAsked) []treeAnswer {
	all := []treeAnswer{{name: "TreeOK", is: impl.TreeOK(x)}}
	more, code := impl.TreeInsert(x, q.key)
	all = append(all, treeAnswer{name: "TreeInsert", tree: more, code: code})
	less, code := impl.TreeDelete(x, q.key)
	all = append(all, treeAnswer{name: "TreeDelete", tree: less, code: code})
	is, code := impl.TreeFind(x, q.key)
	all = append(all, treeAnswer{name: "TreeFind", is: is, code: code})
	keys, code := impl.TreeRange(x, q.from, q.to)
	all = append(all, treeAnswer{name: "TreeRange", keys: keys, code: code})
	n, code := impl.TreeDepth(x)
	return append(all, treeAnswer{name: "TreeDepth", n: n, code: code})
}

func tellTreeAnswers(all []treeAnswer) string {
	told := ""
	for _, a := range all {
		told += a.tell() + "\n"
	}
	return told
}

func checkTreeApart(t *testing.T, name string, x impl.Tree, q treeAsked) {
	t.Helper()
	mine, copied := otherTree(x), otherTree(x)
	all := treeAnswers(mine, q)
	if !sameTree(wholeTree(mine), wholeTree(copied)) {
		t.Fatalf("%s: an argument is changed, or what stands behind it", name)
	}
	told := tellTreeAnswers(all)
	spoilTree(mine)
	if tellTreeAnswers(all) != told {
		t.Fatalf("%s: an answer has memory of an argument", name)
	}
	all = treeAnswers(copied, q)
	if tellTreeAnswers(all) != told || tellTreeAnswers(treeAnswers(cloneTree(x), q)) != told {
		t.Fatalf("%s: alike arguments have other answers", name)
	}
	for i, a := range all {
		a.spoil()
		if tellTreeAnswers(all[i+1:]) != tellTreeAnswers(treeAnswers(x, q)[i+1:]) {
			t.Fatalf("%s: the answer of %s has memory of another one", name, a.name)
		}
	}
	if !sameTree(wholeTree(copied), wholeTree(otherTree(x))) {
		t.Fatalf("%s: writing into an answer changes an argument", name)
	}
}

func askedOfTrees() []treeAsked {
	return []treeAsked{{"a", "a", "z"}, {"k07", "", "k30"}, {"k07a", "k10", "k10"}, {"c", "c", "a"}, {"", "", ""}, {filled(30), filled(30), filled(31)},
		{filled(31), "", "\xff"}, {"z", "z", ""}, {filled(impl.MaxText + 1), "", "z"}, {"b", "", filled(impl.MaxText + 1)}}
}

func TestTreesStandApart(t *testing.T) {
	for name, x := range rightTrees() {
		for _, q := range askedOfTrees() {
			checkTreeApart(t, fmt.Sprintf("%s, %.20q", name, q), x, q)
		}
	}
	for name, x := range wrongTrees() {
		if len(x.Nodes) < 300 {
			checkTreeApart(t, name, x, treeAsked{"k07", "a", "z"})
		}
	}
}

// TestListsOfATreeStandApart: what is written into one list of an answer, also behind its end, is in no other.
func TestListsOfATreeStandApart(t *testing.T) {
	for n := range impl.MaxLeaves {
		for _, form := range []impl.Tree{wantTree(manyKeys(n)), byTwos(manyKeys(n))} {
			checkTreeLists(t, fmt.Sprint("TreeInsert into ", n), insert(t, form, "k30a"))
			checkTreeLists(t, fmt.Sprint("TreeDelete out of ", n+1), remove(t, insert(t, form, "k30a"), "k30a"))
		}
	}
}

func checkTreeLists(t *testing.T, name string, x impl.Tree) {
	t.Helper()
	want := cloneTree(x)
	for i := range x.Nodes {
		spoil(x.Nodes[i].Keys, "spoilt")
		want.Nodes[i].Keys = slices.Clone(x.Nodes[i].Keys)
		if !sameTree(x, want) {
			t.Fatalf("%s: the keys of node %d share memory with another list", name, i)
		}
		spoil(x.Nodes[i].Kids, 7777)
		want.Nodes[i].Kids = slices.Clone(x.Nodes[i].Kids)
		if !sameTree(x, want) {
			t.Fatalf("%s: the kids of node %d share memory with another list", name, i)
		}
	}
}

func TestNewTreesStandApart(t *testing.T) {
	a, b := impl.NewTree(), impl.NewTree()
	spoilTree(a)
	checkTree(t, "a second new tree", b, treeOf(0, leaf()))
	checkTree(t, "a third new tree", impl.NewTree(), treeOf(0, leaf()))
}

// treeCalls are calls of all functions of chapter 10.
func treeCalls() []call {
	all := []call{{"NewTree", func() string { return tellTree(impl.NewTree()) }}}
	for name, x := range rightTrees() {
		for _, q := range askedOfTrees() {
			all = append(all, call{name, func() string { return tellTreeAnswers(treeAnswers(x, q)) }})
		}
	}
	for name, x := range wrongTrees() {
		all = append(all, call{name, func() string { return tellTreeAnswers(treeAnswers(x, treeAsked{"a", "a", "z"})) }})
	}
	return all
}
