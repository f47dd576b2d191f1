package tests

import (
	"maps"
	"slices"
	"testing"

	"loop.example/g00332/impl"
)

// plainTx has the lsns of its records, and the updates that are not undone.
type plainTx struct {
	id   int
	own  []int
	todo []impl.LogRecord
}

// plainEngine says chapter 8 once more, over a plain pool and plain locks.
type plainEngine struct {
	pool  *plainPool
	locks *plainLocks
	up    bool
	txs   []*plainTx
	next  int
}

// plainPoolOf is the pool of a right store.
func plainPoolOf(s impl.Store) *plainPool {
	s = cloneStore(s)
	p := &plainPool{disk: newPlainDisk(len(s.Disk.Sectors)), known: map[string]impl.Page{}, epoch: s.Epoch, log: s.Log, sure: s.Sure,
		frames: s.Frames, hand: s.Hand}
	know := func(at int, b string) {
		if pg, code := impl.ReadPage(at-1, []byte(b)); at >= 1 && code == impl.OK {
			p.known[b] = pg
		}
	}
	for at, b := range s.Disk.Sectors {
		p.disk.history[at] = []string{b}
		know(at, b)
	}
	for _, w := range s.Disk.Cache {
		p.disk.write(w.At, w.Data)
		know(w.At, w.Data)
	}
	p.disk.armed, p.disk.keep = s.Disk.Armed, s.Disk.Keep
	return p
}

// plainEngineOf is that of a right engine whose transactions have one begin each.
func plainEngineOf(e impl.Engine) *plainEngine {
	e = cloneEngine(e)
	p := &plainEngine{pool: plainPoolOf(e.Store), locks: &plainLocks{held: e.Locks.Held, waits: e.Locks.Waits}, up: e.Up, next: e.Next}
	for _, x := range e.Txs {
		tx := &plainTx{id: x.Id, todo: openUpdates(e.Store.Log[:x.Last], x.Id)}
		for _, r := range e.Store.Log[:x.Last] {
			if r.Tx == x.Id {
				tx.own = append(tx.own, r.Lsn)
			}
		}
		p.txs = append(p.txs, tx)
	}
	return p
}

func (p *plainEngine) asEngine() impl.Engine {
	e := impl.Engine{Store: p.pool.asStore(), Up: p.up, Next: p.next, Locks: p.locks.asLocks()}
	for _, x := range p.txs {
		e.Txs = append(e.Txs, impl.Tx{Id: x.id, Last: x.own[len(x.own)-1]})
	}
	return e
}

func (p *plainEngine) check(t *testing.T, name string, e impl.Engine) {
	t.Helper()
	if want := p.asEngine(); !sameEngine(e, want) {
		t.Fatalf("%s: %.4000s\nwant %.4000s", name, tellEngine(e), tellEngine(want))
	}
}

// sameEngine is quicker than to tell both.
func sameEngine(a, b impl.Engine) bool {
	s, o := a.Store, b.Store
	sameFrame := func(f, g impl.Frame) bool {
		return f.No == g.No && f.Dirty == g.Dirty && f.First == g.First && f.Page.Lsn == g.Page.Lsn && slices.Equal(f.Page.Slots, g.Page.Slots)
	}
	return a.Up == b.Up && a.Next == b.Next && slices.Equal(a.Txs, b.Txs) && slices.Equal(a.Locks.Held, b.Locks.Held) &&
		slices.Equal(a.Locks.Waits, b.Locks.Waits) && s.Epoch == o.Epoch && s.Sure == o.Sure && s.Hand == o.Hand &&
		slices.Equal(s.Log, o.Log) && slices.EqualFunc(s.Frames, o.Frames, sameFrame) && slices.Equal(s.Disk.Sectors, o.Disk.Sectors) &&
		slices.Equal(s.Disk.Cache, o.Disk.Cache) && s.Disk.Armed == o.Disk.Armed && slices.Equal(s.Disk.Keep, o.Disk.Keep)
}

func (p *plainEngine) room() int {
	n := impl.MaxLog - len(p.pool.log)
	for _, x := range p.txs {
		n -= len(x.todo) + 1
	}
	return n
}

func (p *plainEngine) open(tx int) *plainTx {
	for _, x := range p.txs {
		if x.id == tx {
			return x
		}
	}
	return nil
}

// gone is what is left when the power went.
func (p *plainEngine) gone() int {
	log, _ := impl.ReadLog(p.pool.disk.asDisk(), p.pool.epoch)
	p.pool.log, p.pool.sure, p.pool.frames, p.pool.hand = log, len(log), nil, 0
	p.up, p.txs, p.locks = false, nil, &plainLocks{}
	return impl.ErrDown
}

func (p *plainEngine) add(x *plainTx, r impl.LogRecord) impl.LogRecord {
	r.Epoch, r.Lsn, r.Tx = p.pool.epoch, len(p.pool.log)+1, x.id
	if len(x.own) > 0 {
		r.Prev = x.own[len(x.own)-1]
	}
	p.pool.log = append(p.pool.log, r)
	x.own = append(x.own, r.Lsn)
	return r
}

func (p *plainEngine) begin() (int, int) {
	switch {
	case !p.up:
		return 0, impl.ErrDown
	case p.next > 60 || len(p.txs) == 10:
		return 0, impl.ErrMany
	case p.room() < 2:
		return 0, impl.ErrFull
	}
	x := &plainTx{id: p.next}
	p.txs = append(p.txs, x)
	p.next++
	p.add(x, impl.LogRecord{Kind: impl.LoBegin})
	return x.id, impl.OK
}

// ready is what the calls of a transaction ask for ahead of all.
func (p *plainEngine) ready(tx int) int {
	if !p.up {
		return impl.ErrDown
	}
	if p.open(tx) == nil {
		return impl.ErrTx
	}
	return impl.OK
}

func (p *plainEngine) take(tx int, list ...impl.Lock) int {
	if code := p.ready(tx); code != impl.OK {
		return code
	}
	for _, k := range list {
		code := p.locks.take(k)
		if code == impl.ErrDeadlock && p.abort(tx) == impl.ErrDown {
			return impl.ErrDown
		}
		if code != impl.OK {
			return code
		}
	}
	return impl.OK
}

// slots fetches all pages, and has all records in the order of their places; false if the power went.
func (p *plainEngine) slots() ([]string, bool) {
	var list []string
	for no := range impl.MaxPages {
		if !p.pool.fetch(no) {
			return nil, false
		}
		list = append(list, p.pool.frames[p.pool.place(no)].Page.Slots...)
	}
	return list, true
}

func isRowOf(record string, table, id int) bool {
	of, r, code := impl.ReadRow([]byte(record))
	return code == impl.OK && of == table && r.Id == id
}

func (p *plainEngine) keptBy(place int, tx int) bool {
	for _, x := range p.txs {
		for _, u := range x.todo {
			if x.id != tx && u.Page == place/4 && u.Slot == place%4 {
				return true
			}
		}
	}
	return false
}

// set puts the row of these bytes, or drops it if there are none.
func (p *plainEngine) set(tx, table, id int, after string) int {
	if code := p.take(tx, lock(tx, table, -1, impl.LkIX), lock(tx, table, id, impl.LkX)); code != impl.OK {
		return code
	}
	list, alive := p.slots()
	if !alive {
		return p.gone()
	}
	place, before := slices.IndexFunc(list, func(r string) bool { return isRowOf(r, table, id) }), ""
	if place >= 0 {
		before = list[place]
		if !p.pool.fetch(place / 4) {
			return p.gone()
		}
	} else if after == "" {
		return impl.ErrNone
	}
	for i, r := range list {
		if place < 0 && r == "" && !p.keptBy(i, tx) {
			place = i
		}
	}
	if place < 0 {
		return impl.ErrOver
	}
	if p.room() < 2 {
		return impl.ErrFull
	}
	x := p.open(tx)
	u := p.add(x, impl.LogRecord{Kind: impl.LoUpdate, Page: place / 4, Slot: place % 4, Before: before, After: after})
	x.todo = append(x.todo, u)
	if !p.pool.apply(u.Lsn) {
		return p.gone()
	}
	return impl.OK
}

func (p *plainEngine) get(tx, table, id int) (impl.Row, int) {
	if code := p.take(tx, lock(tx, table, -1, impl.LkIS), lock(tx, table, id, impl.LkS)); code != impl.OK {
		return impl.Row{}, code
	}
	list, alive := p.slots()
	if !alive {
		return impl.Row{}, p.gone()
	}
	place := slices.IndexFunc(list, func(r string) bool { return isRowOf(r, table, id) })
	if place < 0 {
		return impl.Row{}, impl.ErrNone
	}
	if !p.pool.fetch(place / 4) {
		return impl.Row{}, p.gone()
	}
	_, r, _ := impl.ReadRow([]byte(list[place]))
	return r, impl.OK
}

func (p *plainEngine) scan(tx, table int) ([]impl.Row, int) {
	if code := p.take(tx, lock(tx, table, -1, impl.LkS)); code != impl.OK {
		return nil, code
	}
	list, alive := p.slots()
	if !alive {
		return nil, p.gone()
	}
	first := map[int]impl.Row{}
	for _, record := range slices.Backward(list) {
		if of, r, code := impl.ReadRow([]byte(record)); code == impl.OK && of == table {
			first[r.Id] = r
		}
	}
	var rows []impl.Row
	for _, id := range slices.Sorted(maps.Keys(first)) {
		rows = append(rows, first[id])
	}
	return rows, impl.OK
}

func (p *plainEngine) close(tx int) {
	p.txs = slices.DeleteFunc(p.txs, func(x *plainTx) bool { return x.id == tx })
	p.locks.free(tx)
}

func (p *plainEngine) commit(tx int) int {
	if code := p.ready(tx); code != impl.OK {
		return code
	}
	r := p.add(p.open(tx), impl.LogRecord{Kind: impl.LoCommit})
	if !p.pool.flush(r.Lsn) {
		return p.gone()
	}
	p.close(tx)
	return impl.OK
}

// undo takes the updates behind lsn from the last one on; false if the power went.
func (p *plainEngine) undo(x *plainTx, lsn int) bool {
	for len(x.todo) > 0 && x.todo[len(x.todo)-1].Lsn > lsn {
		u := x.todo[len(x.todo)-1]
		x.todo = x.todo[:len(x.todo)-1]
		r := p.add(x, impl.LogRecord{Kind: impl.LoClr, Page: u.Page, Slot: u.Slot, After: u.Before, Next: u.Prev})
		if !p.pool.apply(r.Lsn) {
			return false
		}
	}
	return true
}

func (p *plainEngine) abort(tx int) int {
	if code := p.ready(tx); code != impl.OK {
		return code
	}
	x := p.open(tx)
	if !p.undo(x, 0) {
		return p.gone()
	}
	p.add(x, impl.LogRecord{Kind: impl.LoEnd})
	p.close(tx)
	return impl.OK
}

func (p *plainEngine) rollback(tx, lsn int) int {
	if code := p.ready(tx); code != impl.OK {
		return code
	}
	x := p.open(tx)
	if !slices.Contains(x.own, lsn) {
		return impl.ErrNone
	}
	if !p.undo(x, lsn) {
		return p.gone()
	}
	return impl.OK
}
