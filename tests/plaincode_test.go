package tests

import (
	"fmt"
	"slices"

	"loop.example/g00332/impl"
)

// Code made instruction by instruction, with no expression.

func pushIns(v impl.Value) impl.Ins { return impl.Ins{Op: impl.CoPush, V: v} }

func columnIns(n int) impl.Ins { return impl.Ins{Op: impl.CoColumn, N: n} }

func unaryIns(op int) impl.Ins { return impl.Ins{Op: impl.CoUnary, N: op} }

func binaryIns(op int) impl.Ins { return impl.Ins{Op: impl.CoBinary, N: op} }

func noIns(to int) impl.Ins { return impl.Ins{Op: impl.CoNo, N: to} }

func yesIns(to int) impl.Ins { return impl.Ins{Op: impl.CoYes, N: to} }

func codeOf(list ...impl.Ins) []impl.Ins { return list }

// pushes are numbers from 1 on, joined by the op as soon as all of them stand there.
func pushes(n, joins int) []impl.Ins {
	var list []impl.Ins
	for i := range n {
		list = append(list, pushIns(number(i+1)))
	}
	return append(list, slices.Repeat(codeOf(binaryIns(impl.ExAdd)), joins)...)
}

// tellCode tells nil and an empty list alike: they are the same value.
func tellCode(list []impl.Ins) string {
	told := ""
	for i, in := range list[:min(len(list), 100)] {
		told += fmt.Sprintf("\n%d: op %d n %d value %d %d %.40q", i, in.Op, in.N, in.V.Kind, in.V.N, in.V.T)
	}
	return fmt.Sprintf("%d instructions%s", len(list), told)
}

// plainCode is the code of the part whose last node stands at a place of a right expression, the first instruction of
// which stands at from.
func plainCode(e impl.Expr, at, from int) []impl.Ins {
	n := e.Nodes[at]
	switch n.Op {
	case impl.ExConst:
		return codeOf(pushIns(n.V))
	case impl.ExColumn:
		return codeOf(columnIns(n.Column))
	}
	left := plainCode(e, n.A, from)
	middle := from + len(left)
	switch n.Op {
	case impl.ExNot, impl.ExIsNull, impl.ExNeg:
		return append(left, unaryIns(n.Op))
	case impl.ExAnd:
		right := plainCode(e, n.B, middle+1)
		return slices.Concat(left, codeOf(noIns(middle+len(right)+2)), right, codeOf(binaryIns(n.Op)))
	case impl.ExOr:
		right := plainCode(e, n.B, middle+1)
		return slices.Concat(left, codeOf(yesIns(middle+len(right)+2)), right, codeOf(binaryIns(n.Op)))
	}
	return slices.Concat(left, plainCode(e, n.B, middle), codeOf(binaryIns(n.Op)))
}

func plainCodeOf(e impl.Expr) []impl.Ins { return plainCode(e, len(e.Nodes)-1, 0) }

// plainIns: what an instruction at a place needs, and what it leaves instead; false if it has not just what it names.
func plainIns(in impl.Ins, at, size int) (needs, leaves int, ok bool) {
	if in.Op != 1 && in.V != (impl.Value{}) || in.Op == 1 && in.N != 0 {
		return 0, 0, false
	}
	switch in.Op {
	case 1:
		return 0, 1, impl.ValueOK(in.V)
	case 2:
		return 0, 1, in.N == 0 || in.N == 1 || in.N == 2
	case 3:
		return 1, 1, slices.Contains(unaryOps(), in.N)
	case 4:
		return 2, 1, slices.Contains(binaryOps(), in.N)
	case 5, 6:
		return 1, 1, in.N > at && in.N <= size
	}
	return 0, 0, false
}

// plainHeights goes all ways there are, and tells how many values stood ahead of each place; nil if a way is none.
func plainHeights(list []impl.Ins) []map[int]bool {
	heights := make([]map[int]bool, len(list)+1)
	for i := range heights {
		heights[i] = map[int]bool{}
	}
	var walk func(at, height int) bool
	walk = func(at, height int) bool {
		if heights[at][height] {
			return true
		}
		heights[at][height] = true
		if at == len(list) {
			return true
		}
		needs, leaves, ok := plainIns(list[at], at, len(list))
		if !ok || height < needs || height > 60 {
			return false
		}
		height += leaves - needs
		if list[at].Op >= 5 && !walk(list[at].N, height) {
			return false
		}
		return walk(at+1, height)
	}
	if !walk(0, 0) {
		return nil
	}
	return heights
}

// plainCodeDepth says the chapter's conditions once more, by going all ways; 0 of code that is not right.
func plainCodeDepth(list []impl.Ins) int {
	if len(list) > 80 {
		return 0
	}
	heights := plainHeights(list)
	if heights == nil || !heights[len(list)][1] {
		return 0
	}
	most := 0
	for _, all := range heights {
		if len(all) != 1 {
			return 0
		}
		for height := range all {
			most = max(most, height)
		}
	}
	return most
}

// plainRun goes on at a place of right code with values that stand there.
func plainRun(list []impl.Ins, at int, values []impl.Value, r impl.Row) (impl.Value, int) {
	if at == len(list) {
		return values[0], impl.OK
	}
	in, n := list[at], len(values)
	goOn := func(to, keep int, v impl.Value) (impl.Value, int) {
		return plainRun(list, to, append(slices.Clone(values[:keep]), v), r)
	}
	v, code := in.V, impl.OK
	keep := n
	switch in.Op {
	case impl.CoColumn:
		v = []impl.Value{number(r.Id), r.N, r.Name}[in.N]
	case impl.CoUnary:
		v, code = plainUnary(in.N, values[n-1])
		keep = n - 1
	case impl.CoBinary:
		v, code = plainBinary(in.N, values[n-2], values[n-1])
		keep = n - 2
	case impl.CoNo:
		if values[n-1] == number(0) {
			return goOn(in.N, n-1, number(0))
		}
		return goOn(at+1, n-1, values[n-1])
	case impl.CoYes:
		if values[n-1].Kind == impl.VaInt && values[n-1].N != 0 {
			return goOn(in.N, n-1, number(1))
		}
		return goOn(at+1, n-1, values[n-1])
	}
	if code != impl.OK {
		return impl.Value{}, code
	}
	return goOn(at+1, keep, v)
}

// code is right code of so many instructions, whose jumps lead wherever they may.
func (x *dice) code(size int) []impl.Ins {
	var list []impl.Ins
	heights := []int{0}
	for height := 0; len(list) < size; heights = append(heights, height) {
		left := size - len(list)
		switch can := x.below(10); {
		case height == 0 || can < 4 && left > height:
			list = append(list, x.leafIns())
			height++
		case height > 1 && (can < 7 || left == height-1):
			list = append(list, binaryIns(binaryOps()[x.below(8)]))
			height--
		case can < 8:
			list = append(list, unaryIns(unaryOps()[x.below(3)]))
		default:
			list = append(list, impl.Ins{Op: impl.CoNo + x.below(2)})
		}
	}
	for at, in := range list {
		if in.Op < impl.CoNo {
			continue
		}
		var fit []int
		for to := at + 1; to <= size; to++ {
			if heights[to] == heights[at] {
				fit = append(fit, to)
			}
		}
		list[at].N = fit[x.below(len(fit))]
	}
	return list
}

func (x *dice) leafIns() impl.Ins { return plainCodeOf(x.leafExpr())[0] }

// editedCode is code with one thing changed, or an instruction more, fewer or in another place.
func (x *dice) editedCode(list []impl.Ins) []impl.Ins {
	list = slices.Clone(list)
	at := x.below(len(list))
	in := &list[at]
	switch x.below(8) {
	case 0:
		in.Op = x.below(9) - 1
	case 1:
		in.N += x.below(5) - 2
	case 2:
		in.N = x.below(len(list)+3) - 1
	case 3:
		in.V = []impl.Value{none, number(0), word("a"), {N: 1}, {Kind: 3}}[x.below(5)]
	case 4:
		list = slices.Delete(list, at, at+1)
	case 5:
		list = slices.Insert(list, at, *in)
	case 6:
		other := x.below(len(list))
		list[at], list[other] = list[other], list[at]
	}
	return list
}
