package tests

import (
	"fmt"
	"slices"
	"testing"

	"loop.example/g00332/impl"
)

// heldWorld has rows that are committed, and rows that are open: of two sessions, new ones, changed ones and one that is
// gone, in all three tables.
func heldWorld(t *testing.T) impl.World {
	t.Helper()
	p := newPlayer(t)
	p.begin(0)
	p.sql(0, "insert 1 1 1 'a'", "insert 1 2 2 'b'", "insert 2 1 1 'a'", "insert 3 5 null null")
	p.commit(0)
	p.begin(1, 2)
	p.sql(1, "update 1 set n = n + 10 where id = 1", "delete 1 where id = 2", "insert 1 3 3 'c'")
	p.sql(2, "insert 3 6 6 ''", "insert 2 7 7 'g'")
	return p.w
}

func TestTablesThatHold(t *testing.T) {
	held := heldWorld(t)
	for name, w := range map[string]impl.World{"new": impl.NewWorld(), "held": held, "busy": busyWorld(t), "down": downWorld(t), "a chronicle": played(t, chronicle(t)...), "a refill": played(t, refill(t)...)} {
		checkTablesHold(t, name, w, true)
		checkTablesHold(t, name+", lost", worldWith(w, func(w *impl.World) { w.Lost = true }), false)
	}
	p := &player{t, held}
	p.commit(1)
	checkTablesHold(t, "one is committed", p.w, true)
	p.abort(2)
	checkTablesHold(t, "one is aborted", p.w, true)
	p.act(crashAct(), impl.OK)
	checkTablesHold(t, "down", p.w, true)
	p.restart()
	checkTablesHold(t, "up again", p.w, true)
}

// TestEachChangeCounts: if one of Done or Open lacks, or is another one, tables are not what these lead to, unless a later
// change of the row stands behind it.
func TestEachChangeCounts(t *testing.T) {
	held := heldWorld(t)
	for list, part := range map[string]func(w *impl.World) *[]impl.Change{"Done": partsOfWorlds()["Done"], "Open": partsOfWorlds()["Open"]} {
		for i, c := range *part(&held) {
			later := func(o impl.Change) bool { return o.Table == c.Table && o.Row.Id == c.Row.Id }
			isLater := slices.ContainsFunc((*part(&held))[i+1:], later) || list == "Done" && slices.ContainsFunc(held.Open, later)
			for name, change := range map[string]func(list []impl.Change) []impl.Change{
				"lacks":                 func(list []impl.Change) []impl.Change { return slices.Delete(list, i, i+1) },
				"is gone, or is not":    func(list []impl.Change) []impl.Change { list[i].Gone = !list[i].Gone; return list },
				"has another N":         func(list []impl.Change) []impl.Change { list[i].Row.N = number(777); return list },
				"has another Name":      func(list []impl.Change) []impl.Change { list[i].Row.Name = word("q"); return list },
				"is of another session": func(list []impl.Change) []impl.Change { list[i].Session = (list[i].Session + 1) % 3; return list },
				"stands there twice":    func(list []impl.Change) []impl.Change { return slices.Insert(list, i, list[i]) },
			} {
				isNothing := name == "is of another session" || name == "stands there twice" || c.Gone && name != "is gone, or is not" && name != "lacks"
				w := worldWith(held, func(w *impl.World) { *part(w) = change(*part(w)) })
				checkTablesHold(t, fmt.Sprintf("%s, change %d %s", list, i, name), w, isLater || isNothing)
			}
			other := c
			other.Row.Id, other.Gone = 999, false
			w := worldWith(held, func(w *impl.World) { *part(w) = append(*part(w), other) })
			checkTablesHold(t, fmt.Sprintf("%s, one more of table %d", list, c.Table), w, false)
			w = worldWith(w, func(w *impl.World) { other.Gone = true; w.Open = append(w.Open, other) })
			checkTablesHold(t, fmt.Sprintf("%s, one more of table %d that goes again", list, c.Table), w, true)
		}
	}
}

// TestOpenComesBehindDone: whatever the sessions; and each table counts by itself.
func TestOpenComesBehindDone(t *testing.T) {
	base := played(t, beginAct(0), sqlAct(0, insertOf(2, row(1, 5))))
	for name, x := range map[string]struct {
		done, open []impl.Change
		want       bool
	}{
		"open":                      {nil, []impl.Change{put(0, 2, row(1, 5))}, true},
		"done":                      {[]impl.Change{put(0, 2, row(1, 5))}, nil, true},
		"both":                      {[]impl.Change{put(0, 2, row(1, 5))}, []impl.Change{put(1, 2, row(1, 5))}, true},
		"open is ahead":             {[]impl.Change{put(0, 2, row(1, 6))}, []impl.Change{put(2, 2, row(1, 5))}, true},
		"done is ahead":             {[]impl.Change{put(0, 2, row(1, 5))}, []impl.Change{put(0, 2, row(1, 6))}, false},
		"gone in Open":              {[]impl.Change{put(0, 2, row(1, 5))}, []impl.Change{gone(0, 2, row(1, 5))}, false},
		"gone in Done":              {[]impl.Change{gone(0, 2, row(1, 5))}, []impl.Change{put(0, 2, row(1, 5))}, true},
		"gone, of other values":     {[]impl.Change{put(0, 2, row(9, 9))}, []impl.Change{gone(0, 2, row(9, 1)), put(0, 2, row(1, 5))}, true},
		"in the order of the list":  {nil, []impl.Change{put(1, 2, row(1, 6)), put(0, 2, row(1, 5))}, true},
		"in the other order":        {nil, []impl.Change{put(0, 2, row(1, 5)), put(1, 2, row(1, 6))}, false},
		"nothing":                   {nil, nil, false},
		"another table":             {nil, []impl.Change{put(0, 1, row(1, 5))}, false},
		"a row of table 1 more":     {nil, []impl.Change{put(0, 1, row(1, 5)), put(0, 2, row(1, 5))}, false},
		"a row of table 3 more":     {nil, []impl.Change{put(0, 2, row(1, 5)), put(0, 3, row(1, 5))}, false},
		"another Id":                {nil, []impl.Change{put(0, 2, row(2, 5))}, false},
		"an Id that comes and goes": {[]impl.Change{put(0, 3, row(8, 8))}, []impl.Change{put(0, 2, row(1, 5)), gone(1, 3, row(8, 0))}, true},
	} {
		w := worldWith(base, func(w *impl.World) { w.Done, w.Open = x.done, x.open })
		checkTablesHold(t, name, w, x.want)
		checkTablesHold(t, name+", lost", worldWith(w, func(w *impl.World) { w.Lost = true }), false)
		for doubt, list := range map[string][]impl.Change{"what is there": {put(0, 2, row(1, 5))}, "another row": {put(1, 2, row(1, 6)), put(1, 3, row(1, 6))}, "all gone": {gone(2, 2, row(1, 5))}, "all that lacks": x.done} {
			checkTablesHold(t, name+", in doubt is "+doubt, worldWith(w, func(w *impl.World) { w.Doubt = list }), x.want)
		}
	}
}

// TestTablesOfAWorldThatIsDown: they are not asked; what is lost is.
func TestTablesOfAWorldThatIsDown(t *testing.T) {
	for name, base := range map[string]impl.World{"down": downWorld(t), "a new one": played(t, crashAct()), "a held one": func() impl.World {
		w, _, _ := impl.WorldStep(heldWorld(t), crashAct(1, 1))
		return w
	}()} {
		for what, change := range map[string]func(w *impl.World){
			"as it is": func(w *impl.World) {}, "nothing": func(w *impl.World) { w.Done, w.Open, w.Doubt = nil, nil, nil }, "others": func(w *impl.World) { w.Done, w.Open, w.Doubt = manyChanges(9), manyChanges(5), manyChanges(2) },
		} {
			w := worldWith(base, change)
			checkTablesHold(t, name+", "+what, w, true)
			checkTablesHold(t, name+", "+what+", lost", worldWith(w, func(w *impl.World) { w.Lost = true }), false)
		}
	}
}

// TestTablesAsThePagesStand: in frames, else on the disk; where a row stands twice, the first place counts.
func TestTablesAsThePagesStand(t *testing.T) {
	w := withEngine(twice(t).e)
	w.Done = []impl.Change{put(0, 1, row(5, 3)), put(0, 1, row(6, 60)), put(0, 2, row(5, 70))}
	checkTablesHold(t, "a row three times", w, true)
	for _, n := range []int{1, 2} {
		checkTablesHold(t, "a row three times, a later place", worldWith(w, func(w *impl.World) { w.Done[0].Row.N = number(n) }), false)
	}
	held := heldWorld(t)
	for no := range impl.MaxPages {
		w := worldWith(held, func(w *impl.World) { w.Engine.Store, _ = fetchFrom(t, w.Engine.Store, no) })
		checkTablesHold(t, fmt.Sprint("page ", no, " is fetched"), w, true)
	}
	for i, f := range held.Engine.Store.Frames {
		for slot, record := range f.Page.Slots {
			w := worldWith(held, func(w *impl.World) { w.Engine.Store.Frames[i].Page.Slots[slot] = "" })
			checkTablesHold(t, fmt.Sprintf("slot %d of frame %d lacks", slot, i), w, record == "")
			w = worldWith(held, func(w *impl.World) { w.Engine.Store.Frames[i].Page.Slots[slot] = bytesOfRow(3, row(500, 5)) })
			checkTablesHold(t, fmt.Sprintf("slot %d of frame %d is another row", slot, i), w, false)
		}
	}
}

// TestTablesOfFullLists: 1000 changes of each, which lead to their rows together.
func TestTablesOfFullLists(t *testing.T) {
	base := played(t, beginAct(1), sqlAct(1, insertOf(1, row(1, 1))))
	full := slices.Repeat([]impl.Change{put(1, 1, row(1, 1))}, 1000)
	other := slices.Repeat([]impl.Change{put(2, 3, row(7, 7))}, 999)
	for name, x := range map[string]struct {
		done, open []impl.Change
		want       bool
	}{
		"both":                        {full, full, true},
		"Done alone":                  {full, nil, true},
		"Open alone":                  {nil, full, true},
		"the last of Open is another": {full, append(full[:999:999], put(0, 1, row(1, 2))), false},
		"the last of Open is gone":    {full, append(full[:999:999], gone(0, 1, row(1, 1))), false},
		"the last of Open takes away": {append(other[:999:999], put(2, 1, row(1, 1))), append(other[:999:999], gone(0, 3, row(7, 7))), true},
	} {
		checkTablesHold(t, name, worldWith(base, func(w *impl.World) { w.Done, w.Open = x.done, x.open }), x.want)
	}
}

// TestTablesOfRightWorlds: also of those that did not begin new.
func TestTablesOfRightWorlds(t *testing.T) {
	met := map[bool]int{}
	for name, w := range rightWorlds(t) {
		want := plainTablesHold(w)
		checkTablesHold(t, name, w, want)
		met[want]++
	}
	if met[true] < 5 || met[false] < 5 {
		t.Errorf("hold and do not: %v", met)
	}
}

// TestTablesHoldCodes: a world that is not right is none that is asked, lost or not.
func TestTablesHoldCodes(t *testing.T) {
	for name, w := range wrongWorlds(t) {
		for _, lost := range []bool{false, true} {
			w.Lost = lost
			hold, code := impl.TablesHold(w)
			checkNotAsked(t, "TablesHold of "+name, hold, code, impl.ErrBad)
		}
	}
}
