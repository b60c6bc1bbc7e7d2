package node_test

import (
	"slices"
	"testing"

	"dragoman/api"
	"dragoman/disk"
	"dragoman/gateway"
	"dragoman/message"
	"dragoman/node"
	"dragoman/ring"
	"dragoman/table"
	"dragoman/vote"
	"dragoman/wal"
)

// dice are numbers that look thrown, and are the same in each run.
type dice uint64

func (d *dice) below(n int) int {
	*d ^= *d << 13
	*d ^= *d >> 7
	*d ^= *d << 17
	return int(uint64(*d) >> 11 % uint64(n))
}

// member is a node on its disk, and what it is held to.
type member struct {
	*node.Node
	disk   *disk.Disk
	ballot api.Ballot        // the one behind its last call that was OK
	done   int               // up to where it knew all to be committed then
	seen   map[int]api.Entry // what may be committed by the call that comes, also if it is compacted by it
}

// call: a call of a node, with a message, or for a tick.
func (w *world) call(i int, m *api.Message) {
	w.t.Helper()
	x := w.members[i]
	x.seen = map[int]api.Entry{}
	if m == nil {
		l, e := x.Tick()
		w.heard(i, l, e)
		return
	}
	if m.Kind != api.MsgSnap {
		for at := x.done + 1; at <= x.View().Last; at++ {
			x.seen[at], _ = x.Entry(at)
		}
	}
	if m.Kind == api.MsgAppend {
		for k, e := range m.Entries {
			x.seen[m.Index+1+k] = e
		}
	}
	l, e := x.Receive(bytesOf(w.t, *m))
	w.heard(i, l, e)
}

// ballotBox is who was voted for, by whom, in which term.
type ballotBox struct {
	voter, term int
}

// world is three nodes, whose power goes now and then, and letters that are lost, late, doubled.
type world struct {
	t         *testing.T
	dice      dice
	members   [3]*member
	flight    []api.Message
	gate      *gateway.Gateway
	out       *ring.Ring
	votes     map[ballotBox]int
	committed map[int]api.Entry
	tables    map[int]string // by how many were applied
	requests  int
	crashes   int
	snaps     int
}

func newWorld(t *testing.T, seed int) *world {
	w := &world{t: t, dice: dice(seed + 1), votes: map[ballotBox]int{}, committed: map[int]api.Entry{}, tables: map[int]string{}}
	for i := range w.members {
		w.members[i] = &member{disk: disk.New(), ballot: api.Ballot{For: -1}}
		w.boot(i)
	}
	w.gate, _ = gateway.Open(disk.New())
	w.out, _ = ring.New(api.MaxRing)
	return w
}

// boot: P26.7 of a node that is opened.
func (w *world) boot(i int) {
	w.t.Helper()
	x := w.members[i]
	saving := x.View().Ballot
	n := open(w.t, i, x.disk)
	v := n.View()
	if v.Ballot != x.ballot && v.Ballot != saving {
		w.t.Fatalf("the ballot %v, want %v or %v", v.Ballot, x.ballot, saving)
	}
	if v.Last < x.done {
		w.t.Fatalf("the last is %d, and %d were known to be committed", v.Last, x.done)
	}
	for at := v.Snap.Index + 1; at <= x.done; at++ {
		if e, err := n.Entry(at); err != api.OK || e != w.committed[at] {
			w.t.Fatalf("the entry %d is %v, %d; committed was %v", at, e, err, w.committed[at])
		}
	}
	x.Node, x.ballot = n, v.Ballot
	// What was committed by the call in which the power went, and stands in a snapshot already.
	for at := x.done + 1; at <= v.Snap.Index; at++ {
		w.commits(i, at)
	}
	x.done = v.Snap.Index
}

// heard: what a call of a node says, or that it is broken.
func (w *world) heard(i int, l []api.Message, e api.Errno) {
	w.t.Helper()
	x := w.members[i]
	if e != api.OK {
		if e != api.ErrOff || len(l) != 0 {
			w.t.Fatalf("node %d: %v, %d", i, l, e)
		}
		w.crash(i)
		return
	}
	v := x.View()
	if v.Ballot.Term < x.ballot.Term {
		w.t.Fatalf("node %d: the term falls from %v to %v", i, x.ballot, v.Ballot)
	}
	if len(l) > 0 && (x.disk.Loose(0) > 0 || x.disk.Loose(1) > 0) {
		w.t.Fatalf("node %d: a ballot is not sure", i)
	}
	x.ballot = v.Ballot
	w.look(i)
	for _, m := range l {
		if m.From != i || message.Check(m) != api.OK {
			w.t.Fatalf("node %d says %+v", i, m)
		}
		if m.Kind == api.MsgVoted && m.Good || m.Kind == api.MsgVote {
			whom := m.To
			if m.Kind == api.MsgVote {
				whom = i
			}
			b := ballotBox{i, m.Term}
			if other, ok := w.votes[b]; ok && other != whom {
				w.t.Fatalf("node %d votes for %d and %d in the term %d", i, other, whom, m.Term)
			}
			w.votes[b] = whom
		}
		if m.To < 4 {
			w.flight = append(w.flight, m)
		}
	}
}

// commits: a node has committed its entry of an index, which is that of all others.
func (w *world) commits(i, at int) {
	w.t.Helper()
	x := w.members[i]
	e, err := x.Entry(at)
	if err != api.OK {
		known := false
		if e, known = x.seen[at]; !known {
			return // it came in a snapshot
		}
	}
	if other, ok := w.committed[at]; ok && other != e {
		w.t.Fatalf("node %d has committed %v at %d, another one %v", i, e, at, other)
	}
	w.committed[at] = e
}

// look: what a node has committed is what others have.
func (w *world) look(i int) {
	w.t.Helper()
	x := w.members[i]
	v := x.View()
	for at := x.done + 1; at <= v.Commit; at++ {
		w.commits(i, at)
	}
	if x.Done() != v.Commit {
		w.t.Fatalf("node %d: Done %d of %+v", i, x.Done(), v)
	}
	if x.done < x.Done() {
		s := x.Table().Save()
		if other, ok := w.tables[x.Done()]; ok && other != s {
			w.t.Fatalf("node %d has another table behind %d", i, x.Done())
		}
		w.tables[x.Done()] = s
	}
	x.done = x.Done()
}

func (w *world) crash(i int) {
	w.crashes++
	keep := make([]int, 32)
	for f := range keep {
		keep[f] = w.dice.below(4)
	}
	want(w.t, "Crash", w.members[i].disk.Crash(keep, w.dice.below(300)), api.OK)
	w.boot(i)
}

// step: something goes on, somewhere.
func (w *world) step(lossy bool) {
	d := &w.dice
	i := d.below(3)
	switch n := d.below(30); {
	case n < 6:
		w.call(i, nil)
	case n == 6:
		w.ask(i)
	case n == 7 && lossy && d.below(6) == 0:
		want(w.t, "Power", w.members[i].disk.Power(d.below(12)), api.OK)
	case n == 8 && lossy && d.below(12) == 0:
		w.crash(i)
	case n == 9:
		want(w.t, "Draw", w.members[i].Draw(d.below(20)), api.OK)
		w.out.Put("ok?")
	case len(w.flight) > 0:
		at := d.below(min(len(w.flight), 20))
		m := w.flight[at]
		if !lossy || d.below(8) > 0 { // else it is doubled
			w.flight = slices.Delete(w.flight, at, at+1)
		}
		if !lossy || d.below(8) > 0 { // else it is lost
			w.arrives(m)
		}
	}
}

func (w *world) arrives(m api.Message) {
	if m.To == api.GatewayAddress {
		a, e := w.gate.Do(m, w.out)
		want(w.t, "the gateway", e, api.OK)
		w.flight = append(w.flight, a)
		return
	}
	w.call(m.To, &m)
}

// ask: a client asks some node.
func (w *world) ask(i int) {
	w.requests++
	m := call(w.requests, api.OpSubmit, 0, 0, lines(`a:/send "x"/expect {/"k?o" goto a/timeout 9 goto b/}/b:/send "y"/exit 0`))
	m.To = i
	if w.requests%9 > 0 {
		m.Op, m.Talk = api.OpCancel, w.requests%10
	}
	w.arrives(m)
}

// leaderOf: the node that is ready, and how many there are.
func (w *world) leaderOf() (leader *member, many int) {
	for _, x := range w.members {
		if x.View().Ready {
			leader = x
			many++
		}
	}
	return leader, many
}

// P26.7: whatever crash, at whatever step: it opens, and has what it must have; nodes stay alike.
func TestLife(t *testing.T) {
	committed, crashes, snaps := 0, 0, 0
	for seed := range 60 {
		w := newWorld(t, seed)
		for range 6000 {
			w.step(true)
			// As many as the network of a cluster would keep.
			if len(w.flight) > 200 {
				w.flight = w.flight[len(w.flight)-100:]
			}
		}
		for i, x := range w.members {
			want(t, "Power", x.disk.Power(-1), api.OK)
			w.members[i].disk.Crash(nil, 0)
			w.boot(i)
			want(t, "Draw", x.Draw(6*i), api.OK)
		}
		// With nothing lost they come to the same.
		for range 120 {
			for i := range w.members {
				w.call(i, nil)
			}
			l := w.flight
			w.flight = nil
			for _, m := range l {
				w.arrives(m)
			}
		}
		x, many := w.leaderOf()
		if many != 1 {
			t.Fatalf("seed %d: %d lead", seed, many)
		}
		for _, y := range w.members {
			if y.Done() < x.Done()-8 || x.Done() == y.Done() && x.Table().Save() != y.Table().Save() {
				t.Fatalf("seed %d: Done %d and %d", seed, x.Done(), y.Done())
			}
			if y.View().Snap.Index > 0 {
				snaps++
			}
		}
		replays(t, w, x)
		committed += x.Done()
		crashes += w.crashes
	}
	if committed < 2000 || crashes < 500 || snaps < 20 {
		t.Errorf("too little happens: %d committed, %d crashes, %d snapshots", committed, crashes, snaps)
	}
}

// replays: a table is what the log comes to.
func replays(t *testing.T, w *world, x *member) {
	t.Helper()
	y := table.New()
	for i := 1; i <= x.Done(); i++ {
		if _, ok := w.committed[i]; !ok {
			t.Fatalf("nobody has committed %d", i)
		}
		y.Apply(w.committed[i].Data)
	}
	if y.Save() != x.Table().Save() {
		t.Fatal("the table is not what the log comes to")
	}
	sent := 0
	for s := range w.gate.Taken() {
		talk, e := y.Talk(s.Talk)
		if e != api.OK || s.Seq > len(talk.Sends) || talk.Sends[s.Seq-1] != s.Text {
			t.Fatalf("sent %v, meant %v", s, talk.Sends)
		}
		sent++
	}
	if y.Len() > 0 && sent == 0 {
		t.Error("nothing was sent")
	}
}

// again: the power comes again without a crash, and then there is a crash that keeps nothing: what it stood on by then is there.
func again(t *testing.T, self int, d *disk.Disk) {
	t.Helper()
	want(t, "Power", d.Power(-1), api.OK)
	was := open(t, self, d).View()
	want(t, "Crash", d.Crash(nil, 0), api.OK)
	if v := open(t, self, d).View(); v != was {
		t.Fatalf("behind a crash %+v, and ahead of it %+v", v, was)
	}
}

// P26.7: at whatever step the power goes, and comes again.
func TestAgain(t *testing.T) {
	entries := []api.Entry{{Term: 2, Data: "a"}, {Term: 2, Data: "b"}}
	for n := range 9 {
		d := disk.New()
		leader(t, d)
		x := open(t, 2, d)
		want(t, "Power", d.Power(n), api.OK)
		x.Receive(bytesOf(t, api.Message{Kind: api.MsgAppend, From: 1, To: 2, Term: 2, Entries: entries}))
		again(t, 2, d)
	}
	for n := range 13 {
		d := disk.New()
		x := open(t, 2, d)
		feed(t, x, command, 31)
		want(t, "Power", d.Power(n), api.OK)
		x.Receive(bytesOf(t, api.Message{Kind: api.MsgAppend, From: 1, To: 2, Term: 1, Index: 31, LogTerm: 1, Commit: 32, Entries: []api.Entry{{Term: 1}}}))
		again(t, 2, d)
	}
	for n := range 9 {
		d := stored{api.Ballot{Term: 3, For: -1}, api.Mark{}, "", 1, records(20, 2)}.disk(t)
		x := open(t, 2, d)
		want(t, "Power", d.Power(n), api.OK)
		x.Receive(bytesOf(t, piece(tableOf(t), api.Mark{Index: 16, Term: 1}, 0)))
		again(t, 2, d)
	}
}

// P26.2, P26.7: what was loose when it was opened is sure then; with an error of the disk it is not opened.
func TestLoose(t *testing.T) {
	for n := range 5 {
		d := disk.New()
		log, e := wal.Open(d)
		want(t, "wal.Open", e, api.OK)
		want(t, "Append", log.Append(node.Record(api.Entry{Term: 1})), api.OK)
		box, e := vote.Open(d)
		want(t, "vote.Open", e, api.OK)
		want(t, "Power", d.Power(1), api.OK)
		want(t, "Write", box.Write(api.Ballot{Term: 1, For: 2}), api.ErrOff)
		want(t, "Power", d.Power(n), api.OK)
		x, e := node.Open(0, d, 100)
		if n < 2 { // a sync of each of both files
			if x != nil || e != api.ErrOff {
				t.Errorf("power %d: %v, %d", n, x, e)
			}
			continue
		}
		want(t, "Open", e, api.OK)
		if v := x.View(); v.Ballot != (api.Ballot{Term: 1, For: 2}) || v.Last != 1 || d.Loose(api.BallotA) != 0 || d.Loose(api.FirstSegment) != 0 {
			t.Errorf("power %d: %+v", n, v)
		}
		was := d.Ops()
		if n > 2 {
			open(t, 0, d)
		}
		if d.Ops() != was {
			t.Error("a step where nothing is loose")
		}
	}
}
