package tests

import (
	"fmt"
	"math"
	"slices"
	"testing"

	"loop.example/g00332/impl"
)

// rightCode has code with the most values that stand at a time in it; that of expressions and other code. By the ways
// that jumps allow, each instruction can be reached: a jump may also not be taken, though a run with its value always does.
func rightCode() map[string]struct {
	list []impl.Ins
	most int
} {
	type made = struct {
		list []impl.Ins
		most int
	}
	one, n := pushIns(number(1)), columnIns(1)
	not, add := unaryIns(impl.ExNot), binaryIns(impl.ExAdd)
	all := map[string]made{
		"a value":                             {codeOf(one), 1},
		"a value and a jump to the end":       {codeOf(one, noIns(2)), 1},
		"a jump to what is next":              {codeOf(one, yesIns(2), not), 1},
		"a jump over one":                     {codeOf(n, noIns(3), not, not), 1},
		"a jump over all that is left":        {codeOf(n, noIns(4), not, not), 1},
		"two jumps to one place":              {codeOf(n, noIns(4), yesIns(4), not, not), 1},
		"jumps that cross":                    {codeOf(n, noIns(4), yesIns(5), not, not, not), 1},
		"a jump to a jump":                    {codeOf(n, noIns(3), not, yesIns(5), not), 1},
		"a jump over a value and its joining": {codeOf(n, noIns(4), one, add, not), 2},
		"a jump with two values":              {codeOf(n, one, noIns(4), not, add), 2},
		"a jump with two, over one more":      {codeOf(n, one, noIns(5), one, add, add), 3},
		"a jump from one joining to another":  {codeOf(n, one, yesIns(7), n, binaryIns(impl.ExMul), one, binaryIns(impl.ExSub), add), 3},
		"one that no run comes to":            {codeOf(pushIns(number(0)), noIns(3), not), 1},
		"a part that no run comes to":         {codeOf(one, yesIns(4), n, binaryIns(impl.ExOr)), 2},
		"three and two joinings":              {codeOf(one, one, one, add, add), 3},
		"three, joined from the left on":      {codeOf(one, one, add, one, add), 2},
		"the most of them later":              {codeOf(one, n, add, one, n, n, add, add, add), 4},
		"a chain of jumps to the end":         {codeOf(n, noIns(4), yesIns(4), noIns(4)), 1},
		"80 instructions":                     {append(codeOf(n), slices.Repeat(codeOf(not), 79)...), 1},
		"79 instructions, 40 values":          {pushes(40, 39), 40},
		"80 instructions, 40 values":          {append(pushes(40, 39), not), 40},
		"80 instructions, a jump to the end":  {append(codeOf(n, yesIns(80)), slices.Repeat(codeOf(not), 78)...), 1},
		"80 instructions, a jump to the last": {append(codeOf(n, yesIns(79)), slices.Repeat(codeOf(not), 78)...), 1},
	}
	for i, v := range risingValues() {
		all[fmt.Sprint("value ", i)] = made{codeOf(pushIns(v)), 1}
	}
	for column := range 3 {
		all[fmt.Sprint("column ", column)] = made{codeOf(columnIns(column)), 1}
	}
	for _, op := range unaryOps() {
		all[fmt.Sprint("op ", op)] = made{codeOf(n, unaryIns(op)), 1}
	}
	for _, op := range binaryOps() {
		all[fmt.Sprint("op ", op)] = made{codeOf(n, one, binaryIns(op)), 2}
	}
	return all
}

// wrongInstructions have one instruction that has not just what it names, in code that would be right else.
func wrongInstructions() map[string][]impl.Ins {
	all := map[string][]impl.Ins{}
	one, not := pushIns(number(1)), unaryIns(impl.ExNot)
	forms := map[string]struct {
		list []impl.Ins
		at   int
	}{
		"CoPush":   {codeOf(one), 0},
		"CoColumn": {codeOf(columnIns(0)), 0},
		"CoUnary":  {codeOf(one, not), 1},
		"CoBinary": {codeOf(one, one, binaryIns(impl.ExAdd)), 2},
		"CoNo":     {codeOf(one, noIns(3), not), 1},
		"CoYes":    {codeOf(one, yesIns(3), not), 1},
	}
	for name, f := range forms {
		add := func(what string, change func(in *impl.Ins)) {
			list := slices.Clone(f.list)
			change(&list[f.at])
			all[name+what] = list
			all[name+what+", with more behind it"] = append(slices.Clone(list), not, unaryIns(impl.ExNeg), unaryIns(impl.ExIsNull))
		}
		for _, op := range []int{math.MinInt, -1, 0, 7, 8, 256 + f.list[f.at].Op, math.MaxInt} {
			add(fmt.Sprint(" with Op ", op), func(in *impl.Ins) { in.Op = op })
		}
		if name != "CoPush" {
			for i, v := range append(badValues()[:20], number(0), number(1), word(""), word("a")) {
				add(fmt.Sprint(" with a value, ", i), func(in *impl.Ins) { in.V = v })
			}
		}
	}
	for _, n := range []int{math.MinInt, -1, 1, 2, impl.ExAdd, math.MaxInt} {
		all[fmt.Sprint("CoPush with N ", n)] = codeOf(impl.Ins{Op: impl.CoPush, N: n, V: number(1)})
		all[fmt.Sprint("CoPush of nothing with N ", n)] = codeOf(impl.Ins{Op: impl.CoPush, N: n})
	}
	for i, v := range badValues() {
		all[fmt.Sprint("CoPush of a wrong value, ", i)] = codeOf(pushIns(v))
	}
	for _, n := range []int{math.MinInt, -1, 3, 4, 256, math.MaxInt} {
		all[fmt.Sprint("CoColumn of ", n)] = codeOf(columnIns(n))
	}
	for _, n := range append(binaryOps(), math.MinInt, -1, 0, impl.ExConst, impl.ExColumn, 14, 256+impl.ExNot, math.MaxInt) {
		all[fmt.Sprint("CoUnary of ", n)] = codeOf(one, unaryIns(n))
	}
	for _, n := range append(unaryOps(), math.MinInt, -1, 0, impl.ExConst, impl.ExColumn, 14, 15, 256+impl.ExAdd, math.MaxInt) {
		all[fmt.Sprint("CoBinary of ", n)] = codeOf(one, one, binaryIns(n))
	}
	return all
}

// wrongJumps lead where they must not.
func wrongJumps() map[string][]impl.Ins {
	all := map[string][]impl.Ins{}
	one, not, add := pushIns(number(1)), unaryIns(impl.ExNot), binaryIns(impl.ExAdd)
	for _, op := range []int{impl.CoNo, impl.CoYes} {
		jump := func(to int) impl.Ins { return impl.Ins{Op: op, N: to} }
		for name, list := range map[string][]impl.Ins{
			"to itself":                      codeOf(one, not, jump(2), not),
			"to the one ahead":               codeOf(one, not, jump(1), not),
			"to the first":                   codeOf(one, not, jump(0), not),
			"to ahead of all":                codeOf(one, not, jump(-1), not),
			"far ahead of all":               codeOf(one, not, jump(math.MinInt), not),
			"beyond the end":                 codeOf(one, not, jump(5), not),
			"beyond the end, as the last":    codeOf(one, jump(3)),
			"to itself, as the last":         codeOf(one, jump(1)),
			"far beyond the end":             codeOf(one, not, jump(math.MaxInt), not),
			"by 256 too far":                 codeOf(one, not, jump(256+3), not),
			"to more values":                 codeOf(one, jump(3), one, not, add),
			"to fewer values":                codeOf(one, one, jump(4), add, not),
			"to where two are joined":        codeOf(one, jump(3), one, add),
			"to the end over a joining":      codeOf(one, one, jump(4), add),
			"to the end over a value":        codeOf(one, jump(3), one),
			"to what another jump leads to":  codeOf(one, jump(5), one, jump(5), not, add),
			"and another one with more":      codeOf(one, one, jump(6), add, jump(6), not, not),
			"with no value":                  codeOf(jump(1), one),
			"with no value, alone":           codeOf(jump(1)),
			"with no value, ahead of a push": codeOf(jump(2), one, not),
		} {
			all[fmt.Sprintf("jump %d %s", op, name)] = list
		}
	}
	return all
}

// wrongHeights have too few or too many values, or are too long. (As a joining takes one away, code of 80 that ends with
// one value never has more than 40 of them: what has 60 or 61 is not right for its end, or its length, too.)
func wrongHeights() map[string][]impl.Ins {
	one, not, add := pushIns(number(1)), unaryIns(impl.ExNot), binaryIns(impl.ExAdd)
	return map[string][]impl.Ins{
		"nothing":                          nil,
		"an empty list":                    {},
		"two values at the end":            codeOf(one, one),
		"two values at the end, one made":  codeOf(one, one, not),
		"three values, one joining":        codeOf(one, one, one, add),
		"CoUnary of nothing":               codeOf(not),
		"CoUnary ahead of its value":       codeOf(not, one),
		"CoBinary of nothing":              codeOf(add),
		"CoBinary of one":                  codeOf(one, add),
		"CoBinary of one, one behind it":   codeOf(one, add, one),
		"CoBinary ahead of its values":     codeOf(add, one, one),
		"two values, two joinings":         codeOf(one, one, add, add),
		"81 instructions":                  append(codeOf(one), slices.Repeat(codeOf(not), 80)...),
		"81 instructions, 41 values":       pushes(41, 40),
		"80 instructions, two at the end":  append(codeOf(one, one), slices.Repeat(codeOf(not), 78)...),
		"82 instructions, 41 values":       append(pushes(41, 40), not),
		"60 values and no joining":         pushes(60, 0),
		"60 values, joined as may be":      pushes(60, 20),
		"60 values, joined":                pushes(60, 59),
		"61 values and no joining":         pushes(61, 0),
		"61 values, joined as may be":      pushes(61, 19),
		"61 values, joined":                pushes(61, 60),
		"80 values":                        pushes(80, 0),
		"a list of MaxList":                append(codeOf(one), slices.Repeat(codeOf(not), impl.MaxList-1)...),
		"MaxList zero instructions":        make([]impl.Ins, impl.MaxList),
		"a list of MaxList, with one left": pushes(2048, 2048),
	}
}

func wrongCode() map[string][]impl.Ins {
	all := wrongHeights()
	for _, some := range []map[string][]impl.Ins{wrongInstructions(), wrongJumps()} {
		for name, list := range some {
			all[name] = list
		}
	}
	return all
}

func longCode() map[string][]impl.Ins {
	one, not := pushIns(number(1)), unaryIns(impl.ExNot)
	return map[string][]impl.Ins{
		"zero instructions":    make([]impl.Ins, impl.MaxList+1),
		"one value and ExNot":  append(codeOf(one), slices.Repeat(codeOf(not), impl.MaxList)...),
		"values":               pushes(impl.MaxList+1, 0),
		"values, all joined":   pushes(2049, 2048),
		"twice as long":        append(codeOf(one), slices.Repeat(codeOf(not), 2*impl.MaxList)...),
		"a jump over all that": append(codeOf(one, noIns(impl.MaxList+1)), slices.Repeat(codeOf(not), impl.MaxList)...),
	}
}

func TestCodeThatIsRight(t *testing.T) {
	for name, c := range rightCode() {
		if !impl.CodeOK(c.list) || plainCodeDepth(c.list) == 0 {
			t.Errorf("%s: not right: %s", name, tellCode(c.list))
		}
	}
}

// TestCodeThatIsNotRight: no call takes it, whatever the row is.
func TestCodeThatIsNotRight(t *testing.T) {
	for name, list := range wrongCode() {
		if impl.CodeOK(list) || plainCodeDepth(list) != 0 {
			t.Errorf("%s: right: %s", name, tellCode(list))
		}
		if depth, code := impl.CodeDepth(list); depth != 0 || code != impl.ErrBad {
			t.Errorf("%s: CodeDepth %d, code %d", name, depth, code)
		}
		for _, r := range []impl.Row{{}, row(1, 2), {Id: -1}, {Id: 1001, N: word("a")}} {
			checkRun(t, name, list, r, none, impl.ErrBad)
		}
	}
}

// TestCodeThatIsTooLong: ErrLong comes ahead of ErrBad, of the list and of the row.
func TestCodeThatIsTooLong(t *testing.T) {
	for name, list := range longCode() {
		if impl.CodeOK(list) {
			t.Errorf("%s: right", name)
		}
		if depth, code := impl.CodeDepth(list); depth != 0 || code != impl.ErrLong {
			t.Errorf("%s: CodeDepth %d, code %d", name, depth, code)
		}
		for _, r := range []impl.Row{{}, row(1, 2), {Id: -1}, {Id: 1001, N: word("a")}} {
			checkRun(t, name, list, r, none, impl.ErrLong)
		}
	}
}

// TestEveryJumpOfSomeCode: each place that a jump may name, and those around, held against the plain conditions.
func TestEveryJumpOfSomeCode(t *testing.T) {
	for name, c := range rightCode() {
		for at, in := range c.list {
			if in.Op < impl.CoNo {
				continue
			}
			for to := -2; to < len(c.list)+3; to++ {
				list := slices.Clone(c.list)
				list[at].N = to
				if impl.CodeOK(list) != (plainCodeDepth(list) > 0) {
					t.Errorf("%s: right is %v: %s", name, impl.CodeOK(list), tellCode(list))
				}
			}
		}
	}
}

func checkDepth(t *testing.T, name string, list []impl.Ins, want int) {
	t.Helper()
	if got, code := impl.CodeDepth(list); got != want || code != impl.OK {
		t.Errorf("CodeDepth of %s: %d, code %d, want %d", name, got, code, want)
	}
}

func TestDepthsOfCode(t *testing.T) {
	for name, c := range rightCode() {
		checkDepth(t, name, c.list, c.most)
	}
	for values := 1; values <= 40; values++ {
		checkDepth(t, fmt.Sprint(values, " values"), pushes(values, values-1), values)
	}
	for text, want := range map[string]int{
		"id": 1, "- id": 1, "id + n": 2, "id + n + id": 2, "id + (n + id)": 3, "(id + n) * (n + id)": 3, "id + (n + (id + n))": 4,
		"id and n": 2, "id and n and name": 2, "id and (n and name)": 3, "id or n and name": 3, "not (id or (n = 1))": 3, "(id + (n + 1)) + n": 3,
	} {
		list, _ := impl.CompileExpr(parsed(t, text))
		checkDepth(t, text, list, want)
	}
}

// someInstructions are those of the short lists that are gone through.
func someInstructions() []impl.Ins {
	return codeOf(impl.Ins{}, pushIns(none), pushIns(number(5)), pushIns(word("a")), columnIns(1), columnIns(3), unaryIns(impl.ExNot), unaryIns(impl.ExAdd), binaryIns(impl.ExAnd), binaryIns(impl.ExDiv),
		noIns(0), noIns(1), noIns(2), noIns(3), noIns(4), yesIns(2), yesIns(3), yesIns(5))
}

// TestAllShortCode: all lists of up to four instructions out of many, held against the plain rules.
func TestAllShortCode(t *testing.T) {
	t.Parallel()
	rows := []impl.Row{row(1, 2), row(0, 0), {}}
	rights := 0
	check := func(list ...impl.Ins) {
		want := plainCodeDepth(list)
		depth, code := impl.CodeDepth(list)
		if impl.CodeOK(list) != (want > 0) || depth != want || code != pick(want > 0, impl.OK, impl.ErrBad) {
			t.Fatalf("right is %v, depth %d, code %d, want %d: %s", impl.CodeOK(list), depth, code, want, tellCode(list))
		}
		if want == 0 {
			return
		}
		rights++
		for _, r := range rows {
			v, code := plainRun(list, 0, nil, r)
			checkRun(t, "short code", list, r, v, code)
		}
	}
	check()
	some := someInstructions()
	for _, a := range some {
		check(a)
		for _, b := range some {
			check(a, b)
			for _, c := range some {
				check(a, b, c)
				for _, d := range some {
					check(a, b, c, d)
				}
			}
		}
	}
	if rights < 500 {
		t.Errorf("%d are right", rights)
	}
}

// TestRunsOfCode: right code whose jumps lead wherever they may, and other code near it, held against the plain rules.
func TestRunsOfCode(t *testing.T) {
	t.Parallel()
	x := dice(57)
	rows := rightRows()
	rights, wrongs, deep := 0, 0, 0
	codes := map[int]int{}
	for range 40000 {
		list := x.code(1 + x.below(83))
		for range x.below(3) {
			if len(list) > 0 {
				list = x.editedCode(list)
			}
		}
		want := plainCodeDepth(list)
		depth, code := impl.CodeDepth(list)
		if impl.CodeOK(list) != (want > 0) || depth != want || code != pick(want > 0, impl.OK, impl.ErrBad) {
			t.Fatalf("right is %v, depth %d, code %d, want %d: %s", impl.CodeOK(list), depth, code, want, tellCode(list))
		}
		r := rows[x.below(len(rows))]
		if want == 0 {
			wrongs++
			checkRun(t, "code that is not right", list, r, none, impl.ErrBad)
			continue
		}
		rights++
		deep = max(deep, depth)
		v, code := plainRun(list, 0, nil, r)
		checkRun(t, "code", list, r, v, code)
		codes[code]++
	}
	if rights < 5000 || wrongs < 5000 || deep < 8 {
		t.Errorf("%d right ones, %d others, the deepest %d", rights, wrongs, deep)
	}
	for _, code := range []int{impl.OK, impl.ErrType, impl.ErrZero, impl.ErrOver} {
		if codes[code] < 100 {
			t.Errorf("code %d came %d times", code, codes[code])
		}
	}
}
