package tests

import (
	"fmt"
	"slices"
	"strings"

	"loop.example/g00332/impl"
)

func leaf(keys ...string) impl.TreeNode { return impl.TreeNode{Leaf: true, Keys: keys} }

func inner(keys []string, kids ...int) impl.TreeNode { return impl.TreeNode{Keys: keys, Kids: kids} }

func treeOf(root int, nodes ...impl.TreeNode) impl.Tree { return impl.Tree{Root: root, Nodes: nodes} }

// keysIn are the words of a text.
func keysIn(keys string) []string { return strings.Fields(keys) }

// manyKeys are n keys that rise.
func manyKeys(n int) []string {
	keys := make([]string, n)
	for i := range keys {
		keys[i] = fmt.Sprintf("k%02d", i)
	}
	return keys
}

// oddKeys rise: keys that begin with one another, of the least and the greatest bytes, of 1 to 30 bytes.
func oddKeys() []string {
	return []string{"\x00", "\x00\x00", "\x00\x01", "\x00\xff", strings.Repeat("\x01", 30), " ", "0", "00", "1", "10", "9", "A", "a", "a\x00", "a\x00b",
		"a\xff", "aa", strings.Repeat("a", 29), strings.Repeat("a", 30), "ab", "b", strings.Repeat("f", 30), "z", "\x7f", "\x80", "é", "\xff",
		"\xff\x00", "\xff\xff", strings.Repeat("\xff", 29), strings.Repeat("\xff", 30)}
}

// tellTree tells nil and an empty list alike: they are the same value.
func tellTree(t impl.Tree) string {
	var told strings.Builder
	fmt.Fprintf(&told, "root %d", t.Root)
	for i, n := range t.Nodes {
		fmt.Fprintf(&told, "\n%d: leaf %v keys %q kids %v", i, n.Leaf, n.Keys, n.Kids)
	}
	return told.String()
}

func sameTree(a, b impl.Tree) bool {
	return a.Root == b.Root && slices.EqualFunc(a.Nodes, b.Nodes, func(m, n impl.TreeNode) bool {
		return m.Leaf == n.Leaf && slices.Equal(m.Keys, n.Keys) && slices.Equal(m.Kids, n.Kids)
	})
}

func cloneTree(t impl.Tree) impl.Tree {
	t.Nodes = slices.Clone(t.Nodes)
	for i, n := range t.Nodes {
		t.Nodes[i].Keys, t.Nodes[i].Kids = slices.Clone(n.Keys), slices.Clone(n.Kids)
	}
	return t
}

func treeWith(t impl.Tree, change func(t *impl.Tree)) impl.Tree {
	t = cloneTree(t)
	change(&t)
	return t
}

// sizes are those of the shares of n things, by their number alone: the most each, then what is left over, of which a
// lone one takes another from the share ahead of it.
func sizes(n, most int) []int {
	shares := slices.Repeat([]int{most}, n/most)
	switch rest := n % most; {
	case rest == 1 && n > 1:
		shares[len(shares)-1]--
		return append(shares, 2)
	case rest > 0:
		return append(shares, rest)
	}
	return shares
}

// wantTree is the tree of keys, once more: a list of its levels, each told by the least key of each of its nodes.
func wantTree(keys []string) impl.Tree {
	if len(keys) == 0 {
		return treeOf(0, leaf())
	}
	var nodes []impl.TreeNode
	var least []string
	at := 0
	for _, n := range sizes(len(keys), 4) {
		nodes = append(nodes, leaf(keys[at:at+n]...))
		least = append(least, keys[at])
		at += n
	}
	for level := 0; len(least) > 1; {
		var above []string
		at := 0
		for _, n := range sizes(len(least), 5) {
			var kids []int
			for kid := range n {
				kids = append(kids, level+at+kid)
			}
			nodes = append(nodes, inner(least[at+1:at+n], kids...))
			above = append(above, least[at])
			at += n
		}
		level += len(least)
		least = above
	}
	return cloneTree(treeOf(len(nodes)-1, nodes...))
}

// wantWith are the keys with one more, wantWithout without one.
func wantWith(keys []string, key string) []string {
	all := append(slices.Clone(keys), key)
	slices.Sort(all)
	return all
}

func wantWithout(keys []string, key string) []string {
	return slices.DeleteFunc(slices.Clone(keys), func(k string) bool { return k == key })
}

func wantRange(keys []string, from, to string) []string {
	var some []string
	for _, k := range keys {
		if strings.Compare(k, from) >= 0 && strings.Compare(k, to) < 0 {
			some = append(some, k)
		}
	}
	return some
}

// parted answers sizes from least to most that make up n, by the dice.
func (x *dice) parted(n, least, most int) []int {
	var some []int
	for n > 0 {
		size := min(n, least+x.below(most-least+1))
		if n-size > 0 && n-size < least {
			size = n - least
			if size < least {
				size = n
			}
		}
		some = append(some, size)
		n -= size
	}
	return some
}

// tree is a right one of the keys, of any form, with its nodes in any order.
func (x *dice) tree(keys []string, leafMost, kidsMost int) impl.Tree {
	if len(keys) == 0 {
		return treeOf(0, leaf())
	}
	var nodes []impl.TreeNode
	var level []int
	least := map[int]string{}
	add := func(n impl.TreeNode, first string) int {
		nodes = append(nodes, n)
		least[len(nodes)-1] = first
		return len(nodes) - 1
	}
	at := 0
	for _, n := range x.parted(len(keys), 1, leafMost) {
		level = append(level, add(leaf(keys[at:at+n]...), keys[at]))
		at += n
	}
	for len(level) > 1 {
		var above []int
		at := 0
		for _, n := range x.parted(len(level), 2, kidsMost) {
			kids := level[at : at+n]
			var signs []string
			for _, kid := range kids[1:] {
				signs = append(signs, least[kid])
			}
			above = append(above, add(inner(signs, kids...), least[kids[0]]))
			at += n
		}
		level = above
	}
	return x.strewn(cloneTree(treeOf(level[0], nodes...)))
}

// strewn is a tree with its nodes in another order.
func (x *dice) strewn(t impl.Tree) impl.Tree {
	to := make([]int, len(t.Nodes))
	for i := range to {
		other := x.below(i + 1)
		to[i], to[other] = to[other], i
	}
	strewn := impl.Tree{Root: to[t.Root], Nodes: make([]impl.TreeNode, len(t.Nodes))}
	for i, n := range t.Nodes {
		for j, kid := range n.Kids {
			n.Kids[j] = to[kid]
		}
		strewn.Nodes[to[i]] = n
	}
	return strewn
}

// mixed are the keys in another order.
func (x *dice) mixed(keys []string) []string {
	keys = slices.Clone(keys)
	for i := range keys {
		other := x.below(i + 1)
		keys[i], keys[other] = keys[other], keys[i]
	}
	return keys
}

// plainTreeOK says the chapter's conditions once more, level by level.
func plainTreeOK(t impl.Tree) bool {
	met := make([]int, len(t.Nodes))
	for level := []int{t.Root}; ; {
		var below []int
		var keys []string
		leaves := 0
		for _, at := range level {
			if at < 0 || at >= len(t.Nodes) || met[at] > 0 {
				return false
			}
			met[at]++
			n := t.Nodes[at]
			if !plainNodeOK(n, at == t.Root) {
				return false
			}
			if n.Leaf {
				leaves++
				keys = append(keys, n.Keys...)
			}
			below = append(below, n.Kids...)
		}
		if leaves == 0 {
			level = below
			continue
		}
		return leaves == len(level) && !slices.Contains(met, 0) && len(t.Nodes) <= 200 && plainKeysOK(keys) && plainSignsOK(t)
	}
}

func plainNodeOK(n impl.TreeNode, root bool) bool {
	switch {
	case len(n.Keys) > 4:
		return false
	case n.Leaf:
		return len(n.Kids) == 0 && (root || len(n.Keys) > 0)
	}
	return len(n.Kids) > 1 && len(n.Kids)-len(n.Keys) == 1
}

func plainKeysOK(keys []string) bool {
	for _, k := range keys {
		if k == "" || len(k) > 30 {
			return false
		}
	}
	return len(keys) <= 60 && slices.IsSorted(keys) && len(slices.Compact(slices.Clone(keys))) == len(keys)
}

func plainSignsOK(t impl.Tree) bool {
	for _, n := range t.Nodes {
		for i, sign := range n.Keys {
			if n.Leaf {
				break
			}
			below := t.Nodes[n.Kids[i+1]]
			for !below.Leaf {
				below = t.Nodes[below.Kids[0]]
			}
			if below.Keys[0] != sign {
				return false
			}
		}
	}
	return true
}
