package raft_test

import (
	"reflect"
	"slices"
	"testing"

	"dragoman/api"
	"dragoman/raft"
)

// dice are numbers that look thrown, and are the same in each run.
type dice uint64

func (d *dice) below(n int) int {
	*d ^= *d << 13
	*d ^= *d >> 7
	*d ^= *d << 17
	return int(uint64(*d) >> 1 % uint64(n))
}

// model is the chapter, word by word: a log by its indexes, effects that are put together as they are said.
type model struct {
	self                       int
	role                       uint8
	ballot                     api.Ballot
	leader                     int
	mark                       api.Mark
	log                        map[int]api.Entry
	last, commit               int
	now, quiet, wait, draw     int
	given                      map[int]int
	next, match, pieces, heard map[int]int
	beat, start                int
	fx                         api.Effects
}

func newModel(self int, b api.Ballot, mark api.Mark, log []api.Entry) *model {
	x := &model{self: self, role: api.Follower, ballot: b, leader: -1, mark: mark, log: map[int]api.Entry{}, last: mark.Index, commit: mark.Index, draw: 4 * self}
	x.next, x.match, x.pieces, x.heard = map[int]int{}, map[int]int{}, map[int]int{}, map[int]int{}
	for _, e := range log {
		x.last++
		x.log[x.last] = e
	}
	return x
}

func (x *model) term(index int) int {
	if index == x.mark.Index {
		return x.mark.Term
	}
	return x.log[index].Term
}

func (x *model) others() []int {
	return slices.DeleteFunc([]int{0, 1, 2}, func(n int) bool { return n == x.self })
}

func (x *model) view() api.View {
	v := api.View{Role: x.role, Ballot: x.ballot, Leader: x.leader, Snap: x.mark, Last: x.last, Commit: x.commit, Now: x.now, Ready: x.role == api.Leader && x.start <= x.commit}
	for n := range v.Heard {
		v.Heard[n] = x.heard[n]
	}
	return v
}

// done: the effects of a call, which is over.
func (x *model) done() api.Effects {
	fx := x.fx
	x.fx = api.Effects{}
	return fx
}

func (x *model) save(term, node int) {
	if b := (api.Ballot{Term: term, For: node}); b != x.ballot {
		x.ballot, x.fx.Save, x.fx.Ballot = b, true, b
	}
}

func (x *model) send(to int, m api.Message) {
	m.From, m.To, m.Term = x.self, to, x.ballot.Term
	x.fx.Send = append(x.fx.Send, m)
}

func (x *model) follow(term, leader int) {
	if term > x.ballot.Term {
		x.save(term, -1)
	}
	x.role, x.leader = api.Follower, leader
}

func (x *model) speak(n int) {
	next := x.next[n]
	if next <= x.mark.Index {
		x.send(n, api.Message{Kind: api.MsgSnap, Index: x.mark.Index, LogTerm: x.mark.Term, At: x.pieces[n], Stamp: x.now})
		return
	}
	m := api.Message{Kind: api.MsgAppend, Index: next - 1, LogTerm: x.term(next - 1), Commit: x.commit, Stamp: x.now}
	room := api.MaxData
	for i := next; i <= x.last && i < next+api.MaxShip && len(x.log[i].Data) <= room; i++ {
		room -= len(x.log[i].Data)
		m.Entries = append(m.Entries, x.log[i])
	}
	x.send(n, m)
}

func (x *model) beats() {
	x.beat = 0
	for _, n := range x.others() {
		x.speak(n)
	}
}

func (x *model) put(data string) {
	x.last++
	x.log[x.last] = api.Entry{Term: x.ballot.Term, Data: data}
	x.fx.Append = append(x.fx.Append, x.log[x.last])
	x.match[x.self] = x.last
}

func (x *model) tick() api.Effects {
	x.now++
	if x.role == api.Leader {
		o := x.others()
		x.beat++
		if x.now-max(x.heard[o[0]], x.heard[o[1]]) >= 20 {
			x.follow(x.ballot.Term, -1)
			x.quiet, x.wait = 0, 0
		} else if x.beat >= 3 {
			x.beats()
		}
		return x.done()
	}
	x.quiet++
	x.wait++
	if x.wait >= 20+x.draw && x.ballot.Term < 1<<40 {
		x.save(x.ballot.Term+1, x.self)
		x.role, x.leader, x.wait, x.given = api.Candidate, -1, 0, map[int]int{x.self: 1}
		for _, n := range x.others() {
			x.send(n, api.Message{Kind: api.MsgVote, Index: x.last, LogTerm: x.term(x.last)})
		}
	}
	return x.done()
}

func (x *model) propose(data string) (int, int, api.Effects, api.Errno) {
	switch {
	case x.role != api.Leader:
		return 0, 0, api.Effects{}, api.ErrNotLeader
	case len(data) > 3500:
		return 0, 0, api.Effects{}, api.ErrLong
	case x.last-x.commit >= 64 || x.last == 1<<20:
		return 0, 0, api.Effects{}, api.ErrFull
	}
	x.put(data)
	x.beats()
	return x.last, x.ballot.Term, x.done(), api.OK
}

func (x *model) step(m api.Message) api.Effects {
	if m.To != x.self || !slices.Contains(x.others(), m.From) || m.Term < 1 || m.Term > 1<<40 {
		return api.Effects{}
	}
	switch m.Kind {
	case 1:
		x.vote(m)
	case 2:
		x.voted(m)
	case 3, 5:
		x.told(m)
	case 4, 6:
		x.answered(m)
	}
	return x.done()
}

func (x *model) vote(m api.Message) {
	if x.role == api.Leader || x.quiet < 20 {
		return
	}
	if m.Term > x.ballot.Term {
		x.follow(m.Term, -1)
	}
	good := m.Term == x.ballot.Term
	good = good && (x.ballot.For == -1 || x.ballot.For == m.From)
	good = good && (m.LogTerm > x.term(x.last) || m.LogTerm == x.term(x.last) && m.Index >= x.last)
	if good {
		x.save(x.ballot.Term, m.From)
		x.wait = 0
	}
	x.send(m.From, api.Message{Kind: 2, Good: good})
}

func (x *model) voted(m api.Message) {
	if m.Term > x.ballot.Term {
		x.follow(m.Term, -1)
		return
	}
	if x.role != api.Candidate || m.Term != x.ballot.Term || !m.Good {
		return
	}
	x.role, x.leader, x.start = api.Leader, x.self, x.last+1
	for n := range 3 {
		x.next[n], x.match[n], x.pieces[n], x.heard[n] = x.last+1, 0, 0, x.now
	}
	if x.last < 1<<20 {
		x.put("")
	}
	x.beats()
}

func (x *model) told(m api.Message) {
	if m.Term < x.ballot.Term {
		x.send(m.From, api.Message{Kind: m.Kind + 1})
		return
	}
	if m.Term == x.ballot.Term && x.role == api.Leader || m.Index < 0 || m.LogTerm < 0 || m.LogTerm > m.Term {
		return
	}
	x.follow(m.Term, m.From)
	x.quiet, x.wait = 0, 0
	if m.Kind == 3 {
		x.entries(m)
		return
	}
	if m.Index <= x.mark.Index || m.Index <= x.last && x.term(m.Index) == m.LogTerm {
		x.commit = max(x.commit, m.Index)
		x.send(m.From, api.Message{Kind: 6, Good: true, Index: m.Index, At: m.Total, Total: m.Total, Stamp: m.Stamp})
		return
	}
	x.fx.Piece = m.Index <= 1<<20
}

func (x *model) entries(m api.Message) {
	before := m.LogTerm
	for _, e := range m.Entries {
		if e.Term < before || e.Term > m.Term || e.Term < 1 {
			return
		}
		before = e.Term
	}
	if m.Index > 1<<20 || m.Index+len(m.Entries) > 1<<20 {
		return
	}
	said := map[int]api.Entry{}
	end := m.Index
	for _, e := range m.Entries {
		end++
		if end > x.mark.Index {
			said[end] = e
		}
	}
	if m.Index < x.mark.Index {
		end = max(end, x.mark.Index)
		if e, ok := said[x.mark.Index+1]; ok && e.Term < x.mark.Term {
			return
		}
	} else if m.Index > x.last || x.term(m.Index) != m.LogTerm {
		x.send(m.From, api.Message{Kind: 4, Index: max(0, min(x.last, m.Index-1)), Stamp: m.Stamp})
		return
	}
	for i := max(m.Index, x.mark.Index) + 1; i <= end; i++ {
		if i <= x.last && x.log[i].Term == said[i].Term {
			continue
		}
		if i <= x.last {
			if i <= x.commit {
				return
			}
			x.fx.CutFrom = i
			for k := i; k <= x.last; k++ {
				delete(x.log, k)
			}
		}
		for k := i; k <= end; k++ {
			x.log[k] = said[k]
			x.fx.Append = append(x.fx.Append, said[k])
		}
		x.last = end
		break
	}
	x.commit = max(x.commit, min(m.Commit, end))
	x.send(m.From, api.Message{Kind: 4, Good: true, Index: end, Stamp: m.Stamp})
}

func (x *model) answered(m api.Message) {
	if m.Term > x.ballot.Term {
		x.follow(m.Term, -1)
		return
	}
	if x.role != api.Leader || m.Term != x.ballot.Term || m.Stamp < 0 || m.Stamp > x.now {
		return
	}
	n := m.From
	x.heard[n] = max(x.heard[n], m.Stamp)
	switch {
	case m.Kind == 6:
		if m.Index != x.mark.Index || x.next[n] > x.mark.Index {
			return
		}
		if m.At < m.Total || !m.Good {
			x.pieces[n] = max(m.At, 0)
		} else {
			x.match[n] = max(x.match[n], m.Index)
			x.next[n] = x.match[n] + 1
		}
		x.speak(n)
	case !m.Good:
		next := x.next[n] - 1
		if m.Index < next {
			next = m.Index + 1
			if next > x.next[n]-1 {
				next = x.next[n] - 1
			}
		}
		x.next[n] = max(next, x.match[n]+1)
		x.speak(n)
	case m.Index <= x.last:
		x.match[n] = max(x.match[n], m.Index)
		x.next[n] = max(x.next[n], x.match[n]+1)
		was := x.commit
		x.commits()
		if x.next[n] <= x.last || x.commit != was {
			x.speak(n)
		}
	}
}

func (x *model) commits() {
	best := x.commit
	for i := x.commit + 1; i <= x.last; i++ {
		have, own := 0, true
		for n := range 3 {
			if x.match[n] >= i {
				have++
			}
		}
		for k := i; k <= x.last; k++ {
			own = own && x.log[k].Term == x.ballot.Term
		}
		if own && have >= 2 {
			best = i
		}
	}
	x.commit = best
}

func (x *model) compact(index int) api.Errno {
	if index < x.mark.Index || index > x.commit {
		return api.ErrRange
	}
	if index == x.mark.Index {
		return api.OK
	}
	x.mark = api.Mark{Index: index, Term: x.term(index)}
	for i := range x.log {
		if i <= index {
			delete(x.log, i)
		}
	}
	clear(x.pieces)
	return api.OK
}

func (x *model) install(m api.Mark) api.Errno {
	if x.role != api.Follower {
		return api.ErrState
	}
	if m.Index <= x.commit || m.Index > 1<<20 || m.Term < 0 || m.Term < x.mark.Term || m.Term > x.ballot.Term {
		return api.ErrRange
	}
	x.mark, x.last, x.commit = m, m.Index, m.Index
	clear(x.log)
	return api.OK
}

// pair is a node, its model, and what it saved.
type pair struct {
	core   *raft.Core
	model  *model
	ballot api.Ballot
	mark   api.Mark
	log    []api.Entry
}

// sameEffects: whether effects are alike; nil and empty lists are one.
func sameEffects(a, b api.Effects) bool {
	for _, x := range []*api.Effects{&a, &b} {
		if len(x.Append) == 0 {
			x.Append = nil
		}
		if len(x.Send) == 0 {
			x.Send = nil
		}
		for i := range x.Send {
			if len(x.Send[i].Entries) == 0 {
				x.Send[i].Entries = nil
			}
		}
	}
	return reflect.DeepEqual(a, b)
}

// checked: the effects and all that is seen are the model's.
func (p *pair) checked(t *testing.T, what string, got, want api.Effects) {
	t.Helper()
	if !sameEffects(got, want) {
		t.Fatalf("%s: the effects %+v, want %+v", what, got, want)
	}
	p.seen(t, what)
}

func (p *pair) seen(t *testing.T, what string) {
	t.Helper()
	v := p.core.View()
	if v != p.model.view() {
		t.Fatalf("%s: View %+v, want %+v", what, v, p.model.view())
	}
	for i := v.Snap.Index - 1; i <= v.Last+1; i++ {
		x, e := p.core.Entry(i)
		y, ok := p.model.log[i]
		if x != y || ok != (e == api.OK) || !ok && e != api.ErrNone {
			t.Fatalf("%s: Entry(%d) %v, %d, want %v", what, i, x, e, y)
		}
	}
}

// world is three nodes, and what is on its way.
type world struct {
	nodes  [3]*pair
	flight []api.Message
}

func newWorld(t *testing.T, marks api.Mark, log []api.Entry) *world {
	t.Helper()
	w := &world{}
	term := marks.Term
	if len(log) > 0 {
		term = log[len(log)-1].Term
	}
	for n := range w.nodes {
		w.nodes[n] = &pair{ballot: api.Ballot{Term: term, For: -1}, mark: marks, log: slices.Clone(log)}
		w.boot(t, n)
	}
	return w
}

func (w *world) boot(t *testing.T, n int) {
	t.Helper()
	p := w.nodes[n]
	c, e := raft.New(n, p.ballot, p.mark, p.log)
	if c == nil || e != api.OK {
		t.Fatalf("New(%d, %v, %v, %d entries): %d", n, p.ballot, p.mark, len(p.log), e)
	}
	p.core, p.model = c, newModel(n, p.ballot, p.mark, p.log)
	p.seen(t, "New")
}

// carry: effects are carried out.
func (w *world) carry(n int, fx api.Effects) {
	p := w.nodes[n]
	if fx.Save {
		p.ballot = fx.Ballot
	}
	if fx.CutFrom > 0 {
		p.log = p.log[:fx.CutFrom-p.mark.Index-1]
	}
	p.log = append(slices.Clone(p.log), fx.Append...)
	w.flight = append(w.flight, fx.Send...)
	for len(w.flight) > 20 {
		w.flight = w.flight[1:]
	}
}

func (w *world) tick(t *testing.T, n int) {
	t.Helper()
	p := w.nodes[n]
	fx := p.core.Tick()
	p.checked(t, "Tick", fx, p.model.tick())
	w.carry(n, fx)
}

func (w *world) propose(t *testing.T, n int, data string) {
	t.Helper()
	p := w.nodes[n]
	i, term, fx, e := p.core.Propose(data)
	wantI, wantTerm, want, wantE := p.model.propose(data)
	if i != wantI || term != wantTerm || e != wantE {
		t.Fatalf("Propose: %d, %d, %d, want %d, %d, %d", i, term, e, wantI, wantTerm, wantE)
	}
	p.checked(t, "Propose", fx, want)
	w.carry(n, fx)
}

func (w *world) compact(t *testing.T, n, index int) {
	t.Helper()
	p := w.nodes[n]
	e := p.core.Compact(index)
	if want := p.model.compact(index); e != want {
		t.Fatalf("Compact(%d): %d, want %d", index, e, want)
	}
	p.seen(t, "Compact")
	if e == api.OK {
		p.log = slices.Clone(p.log[index-p.mark.Index:])
		p.mark = p.core.View().Snap
	}
}

func (w *world) install(t *testing.T, n int, m api.Mark) bool {
	t.Helper()
	p := w.nodes[n]
	e := p.core.Install(m)
	if want := p.model.install(m); e != want {
		t.Fatalf("Install(%v): %d, want %d", m, e, want)
	}
	p.seen(t, "Install")
	if e == api.OK {
		p.mark, p.log = m, nil
	}
	return e == api.OK
}

// step: a message comes; a snapshot that comes is there at once, if it may.
func (w *world) step(t *testing.T, m api.Message, honest bool) {
	t.Helper()
	if m.To < 0 || m.To > 2 {
		return
	}
	p := w.nodes[m.To]
	kept := slices.Clone(m.Entries)
	fx := p.core.Step(m)
	p.checked(t, "Step", fx, p.model.step(m))
	if !slices.Equal(kept, m.Entries) {
		t.Fatal("Step has changed its message")
	}
	w.carry(m.To, fx)
	if fx.Piece && honest && w.install(t, m.To, api.Mark{Index: m.Index, Term: m.LogTerm}) {
		w.flight = append(w.flight, api.Message{Kind: api.MsgSnapped, From: m.To, To: m.From, Term: p.ballot.Term, Good: true, Index: m.Index, Stamp: m.Stamp})
	}
}

// spoil: some field of a message becomes another one.
func (d *dice) spoil(m api.Message) api.Message {
	numbers := []*int{&m.From, &m.To, &m.Term, &m.Index, &m.LogTerm, &m.Commit, &m.Stamp, &m.At, &m.Total}
	for range 1 + d.below(3) {
		switch d.below(6) {
		case 0:
			m.Kind = uint8(d.below(8))
		case 1:
			m.Good = !m.Good
		case 2:
			m.Entries = slices.Clone(m.Entries)
			for i := range m.Entries {
				m.Entries[i].Term = max(0, m.Entries[i].Term+d.below(3)-1)
			}
		case 3:
			m.Entries = append(slices.Clone(m.Entries), api.Entry{Term: m.Term - d.below(2), Data: "spoilt"})
		default:
			x := numbers[d.below(len(numbers))]
			if *x += d.below(5) - 2; d.below(20) == 0 {
				*x = []int{-1, 0, 1 << 20, 1<<20 + 1, 1 << 40, 1<<40 + 1, 1<<63 - 1, -1 << 63}[d.below(8)]
			}
		}
	}
	return m
}

// act: one thing happens in the world. Weights let leaders be found and lost often.
func (w *world) act(t *testing.T, d *dice, honest bool) {
	t.Helper()
	n := d.below(3)
	v := w.nodes[n].core.View()
	switch x := d.below(100); {
	case x < 30:
		// Now and then so many that another one stands; else so few that a leader goes on.
		many := 1
		if d.below(12) == 0 {
			many = d.below(30)
		}
		for range many {
			w.tick(t, n)
		}
	case x < 80:
		if len(w.flight) == 0 {
			return
		}
		i := d.below(len(w.flight))
		m := w.flight[i]
		if d.below(5) > 0 {
			w.flight = slices.Delete(w.flight, i, i+1)
		}
		if !honest && d.below(3) == 0 {
			m = d.spoil(m)
		}
		w.step(t, m, honest)
	case x < 90:
		w.propose(t, n, []string{"", "a", "bc", string(make([]byte, 1200+d.below(2400)))}[d.below(4)])
	case x < 95:
		w.compact(t, n, v.Snap.Index+d.below(v.Commit-v.Snap.Index+2)-d.below(2))
	case x < 97:
		draw := d.below(24) - 2
		if e := w.nodes[n].core.Draw(draw); (e == api.OK) != (draw >= 0 && draw < 20) {
			t.Fatalf("Draw(%d): %d", draw, e)
		} else if e == api.OK {
			w.nodes[n].model.draw = draw
		}
	case x < 99:
		if d.below(4) == 0 {
			w.boot(t, n)
		}
	default:
		if !honest {
			w.install(t, n, api.Mark{Index: v.Commit + d.below(6) - 2, Term: v.Ballot.Term + d.below(4) - 2})
		}
	}
}

// P18.1 to P18.9: step by step as the chapter says it, whatever comes.
func TestAsModel(t *testing.T) {
	for seed := range 60 {
		d := dice(seed*7919 + 11)
		d.below(9)
		log := []api.Entry{{Term: 2, Data: "x"}, {Term: 3}, {Term: 3, Data: "y"}}
		w := newWorld(t, api.Mark{Index: d.below(3), Term: d.below(3)}, log[:d.below(4)])
		for range 1500 {
			w.act(t, &d, false)
		}
	}
}

// P18.9: a copy goes on as the other one would, each by itself.
func TestCopy(t *testing.T) {
	d := dice(99)
	w := newWorld(t, api.Mark{}, nil)
	for range 3000 {
		n := d.below(3)
		p := w.nodes[n]
		first, second := p.core.Copy(), p.core.Copy()
		if len(w.flight) > 0 {
			m := w.flight[d.below(len(w.flight))]
			m.To = n
			if !sameEffects(first.Step(m), second.Step(m)) || first.View() != second.View() {
				t.Fatal("two copies go different ways")
			}
		}
		first.Tick()
		first.Propose("z")
		first.Compact(first.View().Commit)
		p.seen(t, "behind the steps of a copy")
		w.act(t, &d, true)
	}
}
