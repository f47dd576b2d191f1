package tests

import (
	"fmt"
	"maps"
	"slices"
	"testing"

	"loop.example/g00332/impl"
)

// Acts made field by field.

func beginAct(session int) impl.WorldAct {
	return impl.WorldAct{Kind: impl.WoBegin, Session: session}
}

func sqlAct(session int, s impl.Stmt) impl.WorldAct {
	return impl.WorldAct{Kind: impl.WoSql, Session: session, Stmt: s}
}

func commitAct(session int) impl.WorldAct {
	return impl.WorldAct{Kind: impl.WoCommit, Session: session}
}

func abortAct(session int) impl.WorldAct {
	return impl.WorldAct{Kind: impl.WoAbort, Session: session}
}

func evictAct(no int) impl.WorldAct { return impl.WorldAct{Kind: impl.WoEvict, N: no} }

func checkAct() impl.WorldAct { return impl.WorldAct{Kind: impl.WoCheck} }

func crashAct(keep ...int) impl.WorldAct { return impl.WorldAct{Kind: impl.WoCrash, Keep: keep} }

func armAct(keep ...int) impl.WorldAct { return impl.WorldAct{Kind: impl.WoArm, Keep: keep} }

func restartAct(n int) impl.WorldAct { return impl.WorldAct{Kind: impl.WoRestart, N: n} }

func tellAct(a impl.WorldAct) string {
	text, _ := impl.StmtText(a.Stmt)
	return fmt.Sprintf("act %d of session %d, N %d, Keep %.60s, %.200s", a.Kind, a.Session, a.N, fmt.Sprint(a.Keep), text)
}

// put and gone are changes of a row.

func put(session, table int, r impl.Row) impl.Change {
	return impl.Change{Session: session, Table: table, Row: r}
}

func gone(session, table int, r impl.Row) impl.Change {
	return impl.Change{Session: session, Table: table, Row: r, Gone: true}
}

// tellWorld tells nil and an empty list alike: they are the same value.
func tellWorld(w impl.World) string {
	return fmt.Sprintf("sessions %v lost %v open %v done %v doubt %v %s", w.Sessions, w.Lost, w.Open, w.Done, w.Doubt, tellEngine(w.Engine))
}

func sameWorld(a, b impl.World) bool {
	return sameEngine(a.Engine, b.Engine) && slices.Equal(a.Sessions, b.Sessions) && slices.Equal(a.Open, b.Open) &&
		slices.Equal(a.Done, b.Done) && slices.Equal(a.Doubt, b.Doubt) && a.Lost == b.Lost
}

func checkWorld(t *testing.T, name string, got, want impl.World) {
	t.Helper()
	if !sameWorld(got, want) {
		t.Fatalf("%s: %.4000s\nwant %.4000s", name, tellWorld(got), tellWorld(want))
	}
}

func cloneWorld(w impl.World) impl.World {
	w.Engine, w.Sessions = cloneEngine(w.Engine), slices.Clone(w.Sessions)
	w.Open, w.Done, w.Doubt = slices.Clone(w.Open), slices.Clone(w.Done), slices.Clone(w.Doubt)
	return w
}

// worldWith is a world that differs in what change does to it.
func worldWith(w impl.World, change func(w *impl.World)) impl.World {
	w = cloneWorld(w)
	change(&w)
	return w
}

// plainFold: of each Id the last change counts.
func plainFold(table int, lists ...[]impl.Change) []impl.Row {
	last := map[int]impl.Change{}
	for _, c := range slices.Concat(lists...) {
		if c.Table == table {
			last[c.Row.Id] = c
		}
	}
	var rows []impl.Row
	for _, id := range slices.Sorted(maps.Keys(last)) {
		if !last[id].Gone {
			rows = append(rows, last[id].Row)
		}
	}
	return rows
}

func areChanges(list []impl.Change) bool {
	return len(list) <= 1000 && !slices.ContainsFunc(list, func(c impl.Change) bool {
		return c.Session < 0 || c.Session > 2 || c.Table < 1 || c.Table > 3 || !isPlainRow(c.Row)
	})
}

func plainWorldOK(w impl.World) bool {
	if !impl.EngineOK(w.Engine) || len(w.Sessions) != 3 || !areChanges(w.Open) || !areChanges(w.Done) || !areChanges(w.Doubt) {
		return false
	}
	open := map[int]bool{0: true}
	for _, x := range w.Engine.Txs {
		open[x.Id] = true
		if !slices.Contains(w.Sessions, x.Id) {
			return false
		}
	}
	return open[w.Sessions[0]] && open[w.Sessions[1]] && open[w.Sessions[2]]
}

// plainWorld does chapter 15 once more, call by call of the chapters ahead of it, one act behind the other.
type plainWorld struct{ impl.World }

func plainStep(w impl.World, a impl.WorldAct) (impl.World, impl.Answer, int) {
	switch {
	case len(a.Keep) > impl.MaxList:
		return impl.World{}, impl.Answer{}, impl.ErrLong
	case !plainWorldOK(w):
		return impl.World{}, impl.Answer{}, impl.ErrBad
	}
	p := &plainWorld{cloneWorld(w)}
	answer, code := p.act(a)
	// The power went in this act: it was there ahead of it, or came back in it.
	if !p.Engine.Up && (w.Engine.Up || a.Kind == impl.WoRestart && code == impl.ErrDown) {
		p.Sessions, p.Open = []int{0, 0, 0}, nil
	}
	return p.World, answer, code
}

func (p *plainWorld) act(a impl.WorldAct) (impl.Answer, int) {
	kind, code := a.Kind, impl.OK
	switch {
	case kind < 1 || kind > 9:
		code = impl.ErrForm
	case kind <= 4 && (a.Session < 0 || a.Session > 2):
		code = impl.ErrRange
	case kind != 9 && !p.Engine.Up:
		code = impl.ErrDown
	case kind >= 2 && kind <= 4 && p.Sessions[a.Session] == 0:
		code = impl.ErrTx
	case kind == 2:
		return p.sql(a.Session, a.Stmt)
	case kind <= 4:
		code = p.tx(kind, a.Session)
	case kind == 9:
		code = p.restart(a.N)
	default:
		code = p.other(a)
	}
	return impl.Answer{}, code
}

// parted are the changes of a session, and the others.
func parted(list []impl.Change, session int) (own, others []impl.Change) {
	for _, c := range list {
		if c.Session == session {
			own = append(own, c)
		} else {
			others = append(others, c)
		}
	}
	return own, others
}

func (p *plainWorld) sql(session int, s impl.Stmt) (impl.Answer, int) {
	if !plainStmtOK(s) {
		return impl.Answer{}, impl.ErrBad
	}
	tx := p.Sessions[session]
	var answer impl.Answer
	var code int
	p.Engine, answer, code = calledExec(p.Engine, tx, s)
	own, others := parted(p.Open, session)
	if code == impl.OK {
		was := plainFold(s.Table, p.Done, own)
		now, meant, fault := plainDenote(was, s)
		if s.Kind != impl.StInsert && (fault != impl.OK || !sameAnswer(meant, answer)) {
			p.Lost = true
		}
		p.Open = append(p.Open, plainChanges(session, s.Table, was, now)...)
	} else if !isOpen(p.Engine, tx) {
		p.left(tx)
		p.Open = others
	}
	return answer, code
}

// left: nobody has that transaction any more.
func (p *plainWorld) left(tx int) {
	for i := range p.Sessions {
		p.Sessions[i] = pick(p.Sessions[i] == tx, 0, p.Sessions[i])
	}
}

// plainChanges looks at each Id that there can be.
func plainChanges(session, table int, was, now []impl.Row) []impl.Change {
	var gones, puts []impl.Change
	for id := range 1001 {
		at := func(r impl.Row) bool { return r.Id == id }
		a, b := slices.IndexFunc(was, at), slices.IndexFunc(now, at)
		switch {
		case a >= 0 && b < 0:
			gones = append(gones, gone(session, table, was[a]))
		case b >= 0 && (a < 0 || was[a] != now[b]):
			puts = append(puts, put(session, table, now[b]))
		}
	}
	return append(gones, puts...)
}

func (p *plainWorld) tx(kind, session int) int {
	own, others := parted(p.Open, session)
	tx, code := p.Sessions[session], impl.OK
	switch {
	case kind == impl.WoBegin && tx != 0:
		return impl.ErrTwice
	case kind == impl.WoBegin:
		if p.Engine, tx, code = impl.BeginTx(p.Engine); code == impl.OK {
			p.Sessions[session] = tx
		}
		return code
	case kind == impl.WoCommit:
		p.Engine, code = impl.CommitTx(p.Engine, tx)
	case kind == impl.WoAbort:
		p.Engine, code = impl.AbortTx(p.Engine, tx)
	}
	if code == impl.OK {
		p.left(tx)
		p.Open = others
	}
	if kind == impl.WoCommit && code == impl.OK {
		p.Done = append(p.Done, own...)
	}
	if kind == impl.WoCommit && code == impl.ErrDown {
		p.Doubt = append(p.Doubt, own...)
	}
	return code
}

func (p *plainWorld) other(a impl.WorldAct) int {
	var code int
	switch {
	case a.Kind == impl.WoEvict && (a.N < 0 || a.N > 7):
		return impl.ErrRange
	case a.Kind == impl.WoEvict:
		s, alive, code := impl.EvictPage(p.Engine.Store, a.N)
		c := called{e: engineWith(p.Engine, func(e *impl.Engine) { e.Store = s })}
		if code == impl.OK && !alive {
			code = c.gone()
		}
		p.Engine = c.e
		return code
	case a.Kind == impl.WoCheck:
		p.Engine, code = impl.TakeCheck(p.Engine)
	case a.Kind == impl.WoCrash:
		p.Engine, code = impl.CrashEngine(p.Engine, a.Keep)
	case len(a.Keep) > 500:
		return impl.ErrMany
	default:
		p.Engine, code = impl.ArmEngine(p.Engine, a.Keep)
	}
	return code
}

func (p *plainWorld) restart(n int) int {
	if p.Engine.Up {
		return impl.ErrTwice
	}
	e := p.Engine
	if n > 0 {
		e = armedEngine(e, n%2)
	}
	e, code := impl.RestartEngine(e)
	if code == impl.OK || code == impl.ErrDown {
		p.Engine = e
	}
	if code != impl.OK {
		return code
	}
	switch {
	case p.isOf(p.Done):
	case p.isOf(p.Done, p.Doubt):
		p.Done = append(p.Done, p.Doubt...)
	default:
		p.Lost = true
	}
	p.Doubt = nil
	return impl.OK
}

func (p *plainWorld) isOf(lists ...[]impl.Change) bool {
	for table := 1; table <= impl.MaxTables; table++ {
		if rows, _ := impl.TableRows(p.Engine, table); !slices.Equal(rows, plainFold(table, lists...)) {
			return false
		}
	}
	return true
}

// checkStep: the world, the answer and the code are those of the calls that the chapter names.
func checkStep(t *testing.T, name string, w impl.World, a impl.WorldAct) (impl.World, impl.Answer, int) {
	t.Helper()
	got, answer, code := impl.WorldStep(w, a)
	want, wantAnswer, wantCode := plainStep(w, a)
	name = name + ", " + tellAct(a)
	if code != wantCode || !sameAnswer(answer, wantAnswer) {
		t.Fatalf("%s: code %d, %s, want code %d, %s", name, code, tellAnswer(answer), wantCode, tellAnswer(wantAnswer))
	}
	checkWorld(t, name, got, want)
	if code != impl.OK && !sameAnswer(answer, impl.Answer{}) {
		t.Fatalf("%s: code %d with %s", name, code, tellAnswer(answer))
	}
	return got, answer, code
}

// player does acts, each held against the plain ones, in a world that stays right, and in which nothing is lost.
type player struct {
	t *testing.T
	w impl.World
}

func newPlayer(t *testing.T) *player { return &player{t, impl.NewWorld()} }

func (p *player) act(a impl.WorldAct, want int) impl.Answer {
	p.t.Helper()
	w, answer, code := checkStep(p.t, "a player", p.w, a)
	if code != want || !impl.WorldOK(w) || w.Lost != p.w.Lost {
		p.t.Fatalf("%s: code %d, want %d, right %v, lost %v", tellAct(a), code, want, impl.WorldOK(w), w.Lost)
	}
	p.w = w
	return answer
}

func (p *player) begin(sessions ...int) {
	p.t.Helper()
	for _, s := range sessions {
		p.act(beginAct(s), impl.OK)
	}
}

// sql does statements that must be OK.
func (p *player) sql(session int, texts ...string) (last impl.Answer) {
	p.t.Helper()
	for _, text := range texts {
		last = p.act(sqlAct(session, stmtOf(p.t, text)), impl.OK)
	}
	return last
}

// tells does a statement that must be OK, with that answer's text.
func (p *player) tells(session int, text, want string) {
	p.t.Helper()
	if got, code := impl.AnswerText(p.sql(session, text)); got != want || code != impl.OK {
		p.t.Fatalf("%s: %q, code %d, want %q", text, got, code, want)
	}
}

func (p *player) sqlCode(session int, text string, want int) {
	p.t.Helper()
	p.act(sqlAct(session, stmtOf(p.t, text)), want)
}

func (p *player) commit(session int) { p.t.Helper(); p.act(commitAct(session), impl.OK) }

func (p *player) abort(session int) { p.t.Helper(); p.act(abortAct(session), impl.OK) }

func (p *player) restart() { p.t.Helper(); p.act(restartAct(0), impl.OK) }

// has: the changes of the world are these.
func (p *player) has(name string, open, done, doubt []impl.Change) {
	p.t.Helper()
	for list, pair := range map[string][2][]impl.Change{"Open": {p.w.Open, open}, "Done": {p.w.Done, done}, "Doubt": {p.w.Doubt, doubt}} {
		if !slices.Equal(pair[0], pair[1]) {
			p.t.Fatalf("%s: %s is %v, want %v", name, list, pair[0], pair[1])
		}
	}
}

func (p *player) sessions(name string, want ...int) {
	p.t.Helper()
	if !slices.Equal(p.w.Sessions, want) {
		p.t.Fatalf("%s: the sessions have %v, want %v", name, p.w.Sessions, want)
	}
}

// played is a world behind acts that all must be OK.
func played(t *testing.T, acts ...impl.WorldAct) impl.World {
	t.Helper()
	p := newPlayer(t)
	for _, a := range acts {
		p.act(a, impl.OK)
	}
	return p.w
}
