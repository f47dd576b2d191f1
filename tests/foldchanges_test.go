package tests

import (
	"fmt"
	"math"
	"slices"
	"testing"

	"loop.example/g00332/impl"
)

func checkFold(t *testing.T, name string, list []impl.Change, table int, want ...impl.Row) {
	t.Helper()
	rows, code := impl.FoldChanges(list, table)
	if code != impl.OK || !slices.Equal(rows, want) {
		t.Errorf("%s: %v, code %d, want %v", name, rows, code, want)
	}
	if !slices.Equal(want, plainFold(table, list)) {
		t.Errorf("%s: plainly %v, want %v", name, plainFold(table, list), want)
	}
}

func TestFoldChanges(t *testing.T) {
	a, b, c := row(5, 1), row(2, 2), impl.Row{Id: 5}
	checkFold(t, "nothing", nil, 1)
	checkFold(t, "one", []impl.Change{put(0, 1, a)}, 1, a)
	checkFold(t, "of another table", []impl.Change{put(0, 1, a)}, 2)
	checkFold(t, "by Id", []impl.Change{put(0, 1, a), put(1, 1, b), put(2, 1, row(1000, 0)), put(2, 1, row(0, 0))}, 1, row(0, 0), b, a, row(1000, 0))
	checkFold(t, "in its place", []impl.Change{put(0, 3, a), put(0, 3, row(9, 9)), put(2, 3, c), put(1, 3, b)}, 3, b, c, row(9, 9))
	checkFold(t, "the same once more", []impl.Change{put(0, 3, a), put(0, 3, a)}, 3, a)
	checkFold(t, "back again", []impl.Change{put(0, 3, a), put(0, 3, c), put(0, 3, a)}, 3, a)
	checkFold(t, "gone", []impl.Change{put(0, 2, a), put(0, 2, b), gone(1, 2, a)}, 2, b)
	checkFold(t, "gone by its Id", []impl.Change{put(0, 2, a), put(0, 2, b), gone(1, 2, c)}, 2, b)
	checkFold(t, "gone, the first", []impl.Change{put(0, 2, a), put(0, 2, b), gone(1, 2, b)}, 2, a)
	checkFold(t, "gone, and there again", []impl.Change{put(0, 2, a), gone(0, 2, a), put(0, 2, c)}, 2, c)
	checkFold(t, "gone twice", []impl.Change{put(0, 2, a), gone(0, 2, a), gone(0, 2, a), put(0, 2, b)}, 2, b)
	checkFold(t, "gone ahead of being there", []impl.Change{gone(0, 2, a), put(0, 2, a)}, 2, a)
	checkFold(t, "gone, none was there", []impl.Change{gone(0, 2, a), gone(0, 2, b)}, 2)
	checkFold(t, "gone in another table", []impl.Change{put(0, 1, a), gone(0, 2, a), gone(0, 3, a)}, 1, a)
	checkFold(t, "put in another table", []impl.Change{put(0, 1, a), put(0, 2, c), put(0, 3, b)}, 1, a)
	for session := range 3 {
		checkFold(t, "whoever did it", []impl.Change{put(session, 1, a), put(2-session, 1, c)}, 1, c)
	}
}

// TestFoldsOfAThousand: as many as there may be, and each row that there may be.
func TestFoldsOfAThousand(t *testing.T) {
	var list []impl.Change
	for i := range 1000 {
		list = append(list, put(i%3, 1, row(999-i, i)))
	}
	rows, code := impl.FoldChanges(list, 1)
	if code != impl.OK || len(rows) != 1000 || rows[0] != row(0, 999) || rows[999] != row(999, 0) {
		t.Errorf("1000 rows: code %d, %d rows", code, len(rows))
	}
	for i := range list {
		list[i] = put(i%3, 1, row(7, i))
	}
	checkFold(t, "one row 1000 times", list, 1, row(7, 999))
	list[999].Gone = true
	checkFold(t, "one row 1000 times, gone", list, 1)
}

func TestFoldsThatAreRefused(t *testing.T) {
	for _, table := range wrongTables() {
		for _, list := range [][]impl.Change{nil, {put(0, 1, row(1, 1))}, manyChanges(1000)} {
			checkNoFold(t, fmt.Sprint("table ", table), list, table, impl.ErrRange)
		}
	}
	for name, c := range wrongChanges() {
		for _, table := range append(wrongTables(), 1, 2, 3) {
			checkNoFold(t, name, []impl.Change{c}, table, impl.ErrBad)
			checkNoFold(t, name+", last", append(manyChanges(9), c), table, impl.ErrBad)
			checkNoFold(t, name+", first", append([]impl.Change{c}, manyChanges(9)...), table, impl.ErrBad)
		}
		checkNoFold(t, name+", the last of 1000", append(manyChanges(999), c), 1, impl.ErrBad)
	}
	for _, table := range []int{math.MinInt, 0, 1, 3, 4} {
		for _, n := range []int{1001, 1002, impl.MaxList - 1, impl.MaxList} {
			checkNoFold(t, fmt.Sprint(n, " changes"), manyChanges(n), table, impl.ErrBad)
		}
		for _, n := range []int{impl.MaxList + 1, 2 * impl.MaxList} {
			checkNoFold(t, fmt.Sprint(n, " changes"), manyChanges(n), table, impl.ErrLong)
			checkNoFold(t, fmt.Sprint(n, " wrong changes"), make([]impl.Change, n), table, impl.ErrLong)
		}
	}
	if _, code := impl.FoldChanges(manyChanges(1000), 3); code != impl.OK {
		t.Errorf("1000 changes: code %d", code)
	}
}

func checkNoFold(t *testing.T, name string, list []impl.Change, table, want int) {
	t.Helper()
	if rows, code := impl.FoldChanges(list, table); code != want || len(rows) != 0 {
		t.Errorf("%s, table %d: %d rows, code %d, want %d", name, table, len(rows), code, want)
	}
}

// TestRunsOfFolds: held against the last change of each Id.
func TestRunsOfFolds(t *testing.T) {
	x := dice(141)
	for range 2000 {
		var list []impl.Change
		for range x.below(40) {
			list = append(list, impl.Change{Session: x.below(3), Table: 1 + x.below(3), Row: x.row(x.below(6) * 200), Gone: x.below(3) == 0})
		}
		for table := 1; table <= 3; table++ {
			checkFold(t, fmt.Sprint(list), list, table, plainFold(table, list)...)
		}
	}
}
