package tests

import (
	"math"
	"slices"
	"testing"

	"loop.example/g00332/impl"
)

func checkSorted(t *testing.T, name string, rows []impl.Row, column int, down bool, want []impl.Row) {
	t.Helper()
	got, code := impl.SortRows(rows, column, down)
	if !slices.Equal(got, want) || code != impl.OK {
		t.Fatalf("%s: SortRows by %d, down %v: %v, code %d, want %v", name, column, down, got, code, want)
	}
}

func checkNotSorted(t *testing.T, name string, rows []impl.Row, column, want int) {
	t.Helper()
	for _, down := range []bool{false, true} {
		if got, code := impl.SortRows(rows, column, down); len(got) != 0 || code != want {
			t.Errorf("%s: SortRows of %d rows by %d: %d rows, code %d, want %d", name, len(rows), column, len(got), code, want)
		}
	}
}

func idsOf(rows []impl.Row) []int {
	var ids []int
	for _, r := range rows {
		ids = append(ids, r.Id)
	}
	return ids
}

// valueRows have the given values in the column 1 or 2, and Ids that rise.
func valueRows(column int, values ...impl.Value) []impl.Row {
	var rows []impl.Row
	for i, v := range values {
		rows = append(rows, impl.Row{Id: 10 * i, N: pick(column == 1, v, none), Name: pick(column == 2, v, none)})
	}
	return rows
}

// TestRowsInTheirOrder: by a column of values of all kinds, with those that are alike by Id; down is all that turned round.
func TestRowsInTheirOrder(t *testing.T) {
	rows := []impl.Row{
		{Id: 0, N: number(5), Name: word("b")}, {Id: 1, N: none, Name: word("ab")}, {Id: 3, N: number(-5), Name: none}, {Id: 4, N: number(5), Name: word("a")},
		{Id: 7, N: number(0), Name: none}, {Id: 8, N: none, Name: word("")}, {Id: 20, N: number(5), Name: word("b")}, {Id: 999, N: number(-1000000000), Name: word("zzzzzzzzzz")}, {Id: 1000, N: number(1000000000), Name: word("b")},
	}
	for _, c := range []struct {
		column int
		want   []int
	}{
		{0, []int{0, 1, 3, 4, 7, 8, 20, 999, 1000}},
		{1, []int{1, 8, 999, 3, 7, 0, 4, 20, 1000}},
		{2, []int{3, 7, 8, 4, 1, 0, 20, 1000, 999}},
	} {
		got, code := impl.SortRows(rows, c.column, false)
		if !slices.Equal(idsOf(got), c.want) || code != impl.OK {
			t.Errorf("by %d: %v, code %d, want %v", c.column, idsOf(got), code, c.want)
		}
		turned, code := impl.SortRows(rows, c.column, true)
		slices.Reverse(turned)
		if !slices.Equal(idsOf(turned), c.want) || code != impl.OK {
			t.Errorf("by %d, down: turned round %v, code %d, want %v", c.column, idsOf(turned), code, c.want)
		}
		checkSorted(t, "rows", rows, c.column, false, plainSorted(rows, c.column, false))
		checkSorted(t, "rows", rows, c.column, true, plainSorted(rows, c.column, true))
	}
}

// TestEachTwoValuesInTheirOrder: whichever comes first by Id.
func TestEachTwoValuesInTheirOrder(t *testing.T) {
	for i, a := range risingValues() {
		for j, b := range risingValues() {
			for column := 1; column <= 2; column++ {
				wrong := pick(column == 1, impl.VaText, impl.VaInt)
				if a.Kind == wrong || b.Kind == wrong {
					continue
				}
				rows := valueRows(column, a, b)
				want := pick(i > j, []impl.Row{rows[1], rows[0]}, rows)
				checkSorted(t, "two", rows, column, false, want)
				checkSorted(t, "two", rows, column, true, []impl.Row{want[1], want[0]})
			}
		}
	}
}

func TestFewAndManyRows(t *testing.T) {
	for _, n := range []int{0, 1, 2, 3, 99, 100} {
		rows := rowsOf(0, n)
		for i := range rows {
			rows[i].N, rows[i].Name = number(-i%7), none
		}
		for column := range 3 {
			for _, down := range []bool{false, true} {
				checkSorted(t, "rows", rows, column, down, plainSorted(rows, column, down))
			}
		}
	}
	checkSorted(t, "an empty list", []impl.Row{}, 2, true, nil)
	for _, n := range []int{101, 102, 1001, impl.MaxList} {
		checkNotSorted(t, "many", rowsOf(0, n), 0, impl.ErrMany)
	}
	checkNotSorted(t, "too long", rowsOf(0, impl.MaxList+1), 0, impl.ErrLong)
}

// TestCodesOfSorting: those of the length ahead of the rows', and the rows' ahead of the column's.
func TestCodesOfSorting(t *testing.T) {
	wrongColumns := []int{math.MinInt, -1, 3, 4, 256, 257, math.MaxInt}
	for _, column := range append(wrongColumns, 0, 1, 2) {
		checkNotSorted(t, "long rows that are not right", make([]impl.Row, impl.MaxList+1), column, impl.ErrLong)
		checkNotSorted(t, "many rows that are not right", make([]impl.Row, impl.MaxList), column, impl.ErrMany)
		checkNotSorted(t, "many rows that are not right", make([]impl.Row, 101), column, impl.ErrMany)
		checkNotSorted(t, "100 rows that are not right", make([]impl.Row, 100), column, impl.ErrBad)
		for name, rows := range wrongTableRows() {
			checkNotSorted(t, name, rows, column, impl.ErrBad)
		}
	}
	for _, column := range wrongColumns {
		checkNotSorted(t, "right rows", rowsOf(0, 100), column, impl.ErrRange)
		checkNotSorted(t, "no rows", nil, column, impl.ErrRange)
	}
}

// wrongTableRows are lists of rows that no table has.
func wrongTableRows() map[string][]impl.Row {
	all := map[string][]impl.Row{
		"two that fall":               {row(2, 1), row(1, 1)},
		"two of one Id":               {row(2, 1), row(2, 2)},
		"a row twice":                 {row(2, 1), row(2, 1)},
		"the last two fall":           {row(1, 1), row(2, 1), row(9, 1), row(8, 1)},
		"the last is of one Id":       {row(1, 1), row(2, 1), row(9, 1), row(9, 0)},
		"the first is not alone":      {row(0, 1), row(0, 2), row(3, 1)},
		"all the other way round":     {row(5, 1), row(4, 2), row(3, 3), row(2, 4), row(1, 5)},
		"an Id again, others between": {row(1, 1), row(2, 1), row(1, 1)},
		"a fall below 0":              {row(0, 1), row(-1, 1)},
	}
	for i, r := range wrongRows() {
		if i%40 == 0 || i < 12 {
			all["wrong row "+tellRow(r)] = []impl.Row{r}
			all["wrong row in the middle "+tellRow(r)] = []impl.Row{row(0, 1), r, row(1000, 1)}
			all["wrong row at the end "+tellRow(r)] = append(rowsOf(0, 7), r)
		}
	}
	return all
}

// TestRunsOfRows: whatever rows stand in a table, sorted ones are the same ones, in their order.
func TestRunsOfRows(t *testing.T) {
	t.Parallel()
	x := dice(81)
	for range 20000 {
		rows := x.rows(pick(x.below(20) == 0, 100, 12))
		column, down := x.below(3), x.below(2) == 0
		checkSorted(t, "rows", rows, column, down, plainSorted(rows, column, down))
		again, _ := impl.SortRows(rows, column, down)
		slices.SortFunc(again, func(a, b impl.Row) int { return a.Id - b.Id })
		if !slices.Equal(again, rows) {
			t.Fatalf("by %d: the rows are not the same ones: %v, of %v", column, again, rows)
		}
	}
}
