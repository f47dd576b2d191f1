package tests

import (
	"slices"

	"loop.example/g00332/impl"
)

// plainAnalysis asks of each page and of each transaction by itself what the log says of it.
func plainAnalysis(log []impl.LogRecord) (pages []impl.Dirty, txs []impl.Tx) {
	var ahead impl.LogRecord
	behind := log
	for i, r := range log {
		if r.Kind == impl.LoCheck {
			ahead, behind = r, log[i+1:]
		}
	}
	toldPages, toldTxs := checkedOf(ahead.After)
	for no := range impl.MaxPages {
		at := slices.IndexFunc(behind, func(r impl.LogRecord) bool {
			return r.Page == no && (r.Kind == impl.LoUpdate || r.Kind == impl.LoClr)
		})
		if first, told := toldPages[no]; told {
			pages = append(pages, impl.Dirty{No: no, First: first})
		} else if at >= 0 {
			pages = append(pages, impl.Dirty{No: no, First: behind[at].Lsn})
		}
	}
	for id := 1; id <= impl.MaxTx; id++ {
		last, open := toldTxs[id]
		for _, r := range behind {
			if r.Tx == id {
				last, open = r.Lsn, r.Kind != impl.LoCommit && r.Kind != impl.LoEnd
			}
		}
		if open {
			txs = append(txs, impl.Tx{Id: id, Last: last})
		}
	}
	return pages, txs
}

// checkedOf are both lists of a right checkpoint's After, by their numbers; of no text they are empty.
func checkedOf(after string) (pages, txs map[int]int) {
	lists := [2]map[int]int{{}, {}}
	for i := range lists {
		if after == "" {
			break
		}
		n := int(after[0])
		for at := range n {
			lists[i][int(after[1+2*at])] = int(after[2+2*at])
		}
		after = after[1+2*n:]
	}
	return lists[0], lists[1]
}

// epochOf is the epoch of a header's bytes; -1 if they are none.
func epochOf(b string) int {
	for epoch := range impl.MaxEpoch + 1 {
		if b == header(epoch) || b == "" {
			return epoch
		}
	}
	return -1
}

func (p *plainEngine) crash(keep []int) int {
	p.pool.disk.crash(keep)
	p.gone()
	return impl.OK
}

func (p *plainEngine) arm(keep []int) int {
	p.pool.disk.armed, p.pool.disk.keep = true, slices.Clone(keep)
	return impl.OK
}

func (p *plainEngine) takeCheck() int {
	if !p.up {
		return impl.ErrDown
	}
	if p.room() < 1 {
		return impl.ErrFull
	}
	if !p.pool.flush(len(p.pool.log)) || !p.pool.disk.sync() {
		return p.gone()
	}
	var pages, txs [][2]int
	for no := range impl.MaxPages {
		if at := p.pool.place(no); at >= 0 && p.pool.frames[at].Dirty {
			pages = append(pages, [2]int{no, p.pool.frames[at].First})
		}
	}
	for _, x := range p.txs {
		txs = append(txs, [2]int{x.id, x.own[len(x.own)-1]})
	}
	p.pool.log = append(p.pool.log, check(p.pool.epoch, len(p.pool.log)+1, pairs(pages...)+pairs(txs...)))
	if !p.pool.flush(len(p.pool.log)) {
		return p.gone()
	}
	return impl.OK
}

// restart is of a disk whose open transactions have one begin each.
func (p *plainEngine) restart() int {
	if p.up {
		return impl.ErrTwice
	}
	d := p.pool.disk.asDisk()
	history := p.pool.disk.history[0]
	epoch := epochOf(history[len(history)-1])
	if epoch < 0 {
		return impl.ErrSum
	}
	if epoch == impl.MaxEpoch {
		return impl.ErrMany
	}
	e := impl.Engine{Store: impl.Store{Disk: d, Epoch: epoch + 1}, Up: true, Next: 1}
	e.Store.Log, _ = impl.ReadLog(d, epoch)
	e.Store.Sure = len(e.Store.Log)
	for _, r := range e.Store.Log {
		e.Next = max(e.Next, r.Tx+1)
	}
	pages, txs := plainAnalysis(e.Store.Log)
	e.Txs = txs
	if !impl.EngineOK(e) {
		return impl.ErrForm
	}
	*p = *plainEngineOf(e)
	p.pool.disk.write(0, header(epoch+1))
	if !p.pool.disk.sync() {
		return p.gone()
	}
	if !p.redo(pages) || !p.undoOpen() || !p.pool.flush(len(p.pool.log)) {
		return p.gone()
	}
	return impl.OK
}

func (p *plainEngine) redo(pages []impl.Dirty) bool {
	for _, r := range slices.Clone(p.pool.log) {
		at := slices.IndexFunc(pages, func(d impl.Dirty) bool { return d.No == r.Page && d.First <= r.Lsn })
		if r.Kind != impl.LoUpdate && r.Kind != impl.LoClr || at < 0 {
			continue
		}
		if !p.pool.fetch(r.Page) {
			return false
		}
		if p.pool.frames[p.pool.place(r.Page)].Page.Lsn < r.Lsn && !p.pool.apply(r.Lsn) {
			return false
		}
	}
	return true
}

// undoOpen has all that is to be undone in one list, begins too, and goes through it from its last record on.
func (p *plainEngine) undoOpen() bool {
	var todo []impl.LogRecord
	for _, x := range p.txs {
		todo = append(append(todo, x.todo...), p.pool.log[x.own[0]-1])
	}
	slices.SortFunc(todo, func(a, b impl.LogRecord) int { return b.Lsn - a.Lsn })
	for _, r := range todo {
		x := p.open(r.Tx)
		if r.Kind == impl.LoBegin {
			p.add(x, impl.LogRecord{Kind: impl.LoEnd})
			p.close(r.Tx)
			continue
		}
		c := p.add(x, impl.LogRecord{Kind: impl.LoClr, Page: r.Page, Slot: r.Slot, After: r.Before, Next: r.Prev})
		if !p.pool.apply(c.Lsn) {
			return false
		}
	}
	return true
}
