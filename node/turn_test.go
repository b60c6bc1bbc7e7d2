package node_test

import (
	"strings"
	"testing"

	"dragoman/api"
	"dragoman/disk"
	"dragoman/node"
	"dragoman/snap"
	"dragoman/table"
	"dragoman/vote"
	"dragoman/wal"
)

// P26.4, P26.5: what must be sure is sure ahead of what is said: the ballot, then the log.
func TestSure(t *testing.T) {
	d := disk.New()
	candidate(t, d)
	if d.Ops() != 2 || d.Loose(api.BallotA) != 0 {
		t.Errorf("%d steps, %d loose", d.Ops(), d.Loose(api.BallotA))
	}
	d = disk.New()
	n := candidate(t, d)
	l := receive(t, n, api.Message{Kind: api.MsgVoted, From: 1, Term: 1, Good: true})
	beat := api.Message{Kind: api.MsgAppend, To: 1, Term: 1, Stamp: 20, Entries: []api.Entry{{Term: 1}}}
	other := beat
	other.To = 2
	says(t, "MsgVoted", l, beat, other)
	// The head of a segment, the record, and one sync.
	if d.Ops() != 5 || d.Loose(4) != 0 {
		t.Errorf("%d steps, %d loose", d.Ops(), d.Loose(4))
	}
	// Entries of two segments at once, where others stood: a cut, and then all of them behind one another, synced once a segment.
	n = open(t, 2, d)
	d.Crash(nil, 0)
	entries := []api.Entry{{Term: 2, Data: "a"}, {Term: 2, Data: "b"}}
	m := api.Message{Kind: api.MsgAppend, From: 1, To: 2, Term: 2, Index: 0, Entries: entries, Stamp: 7}
	was := d.Ops()
	says(t, "MsgAppend", receive(t, n, m), api.Message{Kind: api.MsgAppended, From: 2, To: 1, Term: 2, Good: true, Index: 2, Stamp: 7})
	// The ballot; the cut and its sync, of the whole segment; its head, both records, the sync.
	if d.Ops() != was+2+2+3+1 {
		t.Errorf("%d steps", d.Ops()-was)
	}
	if x, e := n.Entry(1); x != entries[0] || e != api.OK {
		t.Errorf("Entry(1): %v, %d", x, e)
	}
	log, _ := wal.Open(d.Copy())
	if rec, e := log.Get(2); rec != node.Record(entries[1]) || e != api.OK || log.Last() != 2 {
		t.Errorf("the log has %q, %d", rec, e)
	}
}

// P26.4, P26.5: the power goes at each step: it says nothing, and its error from then on, whatever it is asked.
func TestBroken(t *testing.T) {
	entries := []api.Entry{{Term: 2, Data: "a"}, {Term: 2, Data: "b"}}
	for n := range 8 {
		d := disk.New()
		leader(t, d)
		x := open(t, 2, d)
		want(t, "Power", d.Power(n), api.OK)
		m := bytesOf(t, api.Message{Kind: api.MsgAppend, From: 1, To: 2, Term: 2, Entries: entries, Stamp: 7})
		for _, power := range []int{-1, 0, -1} {
			l, e := x.Receive(m)
			says(t, "Receive", l)
			want(t, "Receive", e, api.ErrOff)
			l, e = x.Receive("no message")
			says(t, "Receive", l)
			want(t, "Receive", e, api.ErrOff)
			l, e = x.Tick()
			says(t, "Tick", l)
			want(t, "Tick", e, api.ErrOff)
			want(t, "Power", d.Power(power), api.OK)
		}
		was := d.Ops()
		if _, e := x.Tick(); e != api.ErrOff || d.Ops() != was {
			t.Errorf("a broken one goes on: %d", e)
		}
		want(t, "Crash", d.Crash(nil, 0), api.OK)
		y := open(t, 2, d).View()
		ballot, last := api.Ballot{Term: 1, For: 0}, 1
		if n >= 2 {
			ballot = api.Ballot{Term: 2, For: -1}
		}
		if n >= 4 {
			last = 0
		}
		if y.Ballot != ballot || y.Last != last {
			t.Errorf("power for %d steps: %+v", n, y)
		}
	}
	// A candidate whose ballot can't be written asks nobody; nor does it by another call.
	for n := range 2 {
		d := disk.New()
		x := open(t, 0, d)
		for range 19 {
			tick(t, x)
		}
		want(t, "Power", d.Power(n), api.OK)
		for range 3 {
			l, e := x.Tick()
			says(t, "Tick", l)
			want(t, "Tick", e, api.ErrOff)
		}
	}
	// One whose disk goes off is not broken as long as it does nothing with it.
	d := disk.New()
	x := ready(t, d)
	want(t, "Power", d.Power(0), api.OK)
	tick(t, x)
	if a := answers(receive(t, x, call(1, api.OpWatch, 1, 0, ""))); len(a) != 1 {
		t.Errorf("answered: %v", a)
	}
	_, e := x.Receive(bytesOf(t, call(1, api.OpSubmit, 0, 0, dialogue)))
	want(t, "a submit", e, api.ErrOff)
}

// P26.4: an error of its own breaks it, too: a log that is full.
func TestFull(t *testing.T) {
	n := open(t, 2, disk.New())
	for i := 0; ; i += 4 {
		m := api.Message{Kind: api.MsgAppend, From: 1, To: 2, Term: 1, Index: i, LogTerm: min(i, 1), Entries: []api.Entry{{Term: 1}, {Term: 1}, {Term: 1}, {Term: 1}}}
		l, e := n.Receive(bytesOf(t, m))
		if e != api.OK {
			says(t, "Receive", l)
			want(t, "Receive", e, api.ErrFull)
			if i != 8*28 {
				t.Errorf("full behind %d", i)
			}
			_, e := n.Tick()
			want(t, "Tick", e, api.ErrFull)
			return
		}
		if i > 1000 {
			t.Fatal("never full")
		}
	}
}

// P26.5: what is no message, is not to it, or is of no kind that it hears.
func TestReceiveOthers(t *testing.T) {
	n := ready(t, disk.New())
	was := n.View()
	for _, s := range []string{"", "x", bytesOf(t, call(1, api.OpWatch, 1, 0, "")) + "x"} {
		l, e := n.Receive(s)
		says(t, "no message", l)
		want(t, "no message", e, api.OK)
	}
	for kind := api.MsgVote; kind <= api.MsgAnswer; kind++ {
		for to := 1; to < 16; to++ {
			m := call(1, api.OpWatch, 1, 0, "")
			m.Kind, m.To, m.Term = kind, to, 9
			says(t, "to another one", receive(t, n, m))
		}
		if kind == api.MsgAttach || kind == api.MsgSend || kind == api.MsgPull || kind == api.MsgAnswer {
			m := call(1, api.OpWatch, 1, 0, "")
			m.Kind, m.From, m.Term = kind, 1, 9
			says(t, "another kind", receive(t, n, m))
		}
	}
	if n.View() != was {
		t.Errorf("%+v, want %+v", n.View(), was)
	}
}

// P26.5: which calls are heard at all.
func TestCallers(t *testing.T) {
	n := open(t, 0, disk.New())
	for client := range 10 {
		for from := range 16 {
			for request := range 3 {
				m := call(request, api.OpWatch, 1, 0, "")
				m.Client, m.From = client, from
				heard := len(receive(t, n, m)) == 1
				if heard != (client < 8 && from == 8+client && request >= 1) {
					t.Errorf("client %d from %d, request %d: heard %v", client, from, request, heard)
				}
			}
		}
	}
	for op := range 256 {
		heard := len(receive(t, n, call(1, uint8(op), 1, 0, ""))) == 1
		if heard != (op == 1 || op == 2 || op == 6 || op == 7) {
			t.Errorf("op %d: heard %v", op, heard)
		}
	}
}

// P26.5: OpSubmit and OpCancel, refused in order.
func TestAskRefused(t *testing.T) {
	long := strings.Repeat("x", 2049)
	far := 1<<49 + 1
	n := open(t, 1, disk.New())
	l := []api.Message{call(1, api.OpSubmit, 0, 0, dialogue), call(1, api.OpSubmit, 0, 0, long), call(1, api.OpCancel, far, 0, ""), call(1, api.OpStatus, 1, 0, "")}
	for _, m := range l {
		m.To = 1
		says(t, "a follower", receive(t, n, m), api.Message{Kind: api.MsgAnswer, From: 1, To: 10, Client: 2, Request: 1, Op: m.Op, Err: api.ErrNotLeader})
	}
	receive(t, n, api.Message{Kind: api.MsgAppend, From: 2, To: 1, Term: 3})
	m := l[0]
	m.To = 1
	says(t, "one who knows a leader", receive(t, n, m), api.Message{Kind: api.MsgAnswer, From: 1, To: 10, Client: 2, Request: 1, Op: m.Op, Err: api.ErrNotLeader, Leader: 3})

	n = ready(t, disk.New())
	for op := api.OpSubmit; op <= api.OpCancel; op++ {
		for _, c := range []struct {
			m api.Message
			e api.Errno
		}{
			{call(1, op, far, 0, long), api.ErrLong}, {call(1, op, far, 0, ""), api.ErrArg}, {call(far, op, 1, 0, ""), api.ErrArg}, {call(far, op, 1, 0, long), api.ErrLong},
		} {
			says(t, "refused", receive(t, n, c.m), answerErr(c.m, c.e))
		}
	}
	if v := n.View(); v.Last != 1 {
		t.Errorf("%+v", v)
	}
	says(t, "as long as may be", answers(receive(t, n, call(1, api.OpSubmit, 0, 0, long[1:]))))
	says(t, "as long as may be", answers(receive(t, n, call(1, api.OpCancel, 1, 0, long[1:]))))
	n = ready(t, disk.New())
	// As many as may be open, and one more.
	for request := 1; request <= 64; request++ {
		if a := answers(receive(t, n, call(request, api.OpSubmit, 1<<49, 9, "?"))); len(a) != 0 {
			t.Errorf("the request %d: %v", request, a)
		}
	}
	m = call(65, api.OpSubmit, 0, 0, "?")
	says(t, "too many", receive(t, n, m), answerErr(m, api.ErrBusy))
	m = call(65, api.OpCancel, 1, 0, "?")
	says(t, "too many", receive(t, n, m), answerErr(m, api.ErrBusy))
}

// P26.5: what stands in the log of what was asked.
func TestAskForm(t *testing.T) {
	n := ready(t, disk.New())
	receive(t, n, call(5, api.OpSubmit, 7, 8, "text"))
	receive(t, n, call(6, api.OpCancel, 7, 8, "text"))
	for i, c := range []api.Command{{Op: api.OpSubmit, Client: 2, Request: 5, Talk: 7, Data: "text"}, {Op: api.OpCancel, Client: 2, Request: 6, Talk: 7}} {
		s, _ := table.Encode(c)
		if x, e := n.Entry(i + 2); x != (api.Entry{Term: 1, Data: s}) || e != api.OK {
			t.Errorf("Entry(%d): %v, %d", i+2, x, e)
		}
	}
}

// P26.4, apply: calls are answered when their entries are committed, in the order in which they came.
func TestAskAnswered(t *testing.T) {
	n := ready(t, disk.New())
	asks := []api.Message{call(1, api.OpSubmit, 0, 0, dialogue), call(1, api.OpSubmit, 0, 0, dialogue), call(2, api.OpCancel, 1, 0, ""), call(3, api.OpCancel, 1, 0, ""), call(1, api.OpSubmit, 0, 0, "?"), call(4, api.OpSubmit, 0, 0, "?")}
	for _, m := range asks {
		if a := answers(receive(t, n, m)); len(a) != 0 {
			t.Errorf("answered at once: %v", a)
		}
	}
	wants := make([]api.Message, len(asks))
	for i, m := range asks {
		wants[i] = answer(m)
		wants[i].Index, wants[i].Talk = i+2, 1
	}
	wants[3].Err = api.ErrState
	wants[4].Err, wants[4].Talk = api.ErrOld, 0
	wants[5].Err, wants[5].Talk, wants[5].At = api.ErrText, 0, 0
	says(t, "answers", answers(agree(t, n)), wants...)
	if n.Done() != 7 || n.Table().Len() != 1 {
		t.Errorf("Done %d, %d talks", n.Done(), n.Table().Len())
	}
	says(t, "once more", answers(agree(t, n)))
}

// apply: a call whose entry another one's took the place of is not answered, nor when that one is like it.
func TestAskLost(t *testing.T) {
	d := disk.New()
	n := ready(t, d)
	m := call(1, api.OpSubmit, 0, 0, dialogue)
	receive(t, n, m)
	x, e := n.Entry(2)
	want(t, "Entry", e, api.OK)
	later := api.Message{Kind: api.MsgAppend, From: 2, Term: 3, Index: 1, LogTerm: 1, Commit: 2, Entries: []api.Entry{{Term: 3, Data: x.Data}}, Stamp: 5}
	says(t, "MsgAppend", receive(t, n, later), api.Message{Kind: api.MsgAppended, To: 2, Term: 3, Good: true, Index: 2, Stamp: 5})
	if n.Done() != 2 || n.Table().Len() != 1 {
		t.Errorf("Done %d, %d talks", n.Done(), n.Table().Len())
	}
	// One whose entry is committed by another leader is.
	n = ready(t, disk.New())
	receive(t, n, m)
	later.Entries = []api.Entry{x}
	a := answer(m)
	a.Talk, a.Index, a.Leader = 1, 2, 3
	says(t, "MsgAppend", answers(receive(t, n, later)), a)
	// What is not a client's command is answered to nobody: the calls that wait are of those alone.
	says(t, "MsgAppend", answers(receive(t, n, later)))
}

// P26.5: OpStatus, as long as the lease is held, up to the last tick of it.
func TestStatus(t *testing.T) {
	n := leader(t, disk.New())
	m := call(4, api.OpStatus, 1, 5, "data")
	says(t, "one that is not ready", receive(t, n, m), answerErr(m, api.ErrLease))
	agree(t, n)
	none := answerErr(m, api.ErrNone)
	none.Talk, none.Index, none.Data = 1, 1, node.StatusText(api.Status{})
	says(t, "no talk", receive(t, n, m), none)
	receive(t, n, call(1, api.OpSubmit, 0, 0, dialogue))
	agree(t, n)
	a := answer(m)
	a.Talk, a.Index, a.Data = 1, 2, node.StatusText(api.Status{State: api.TalkRuns, Sends: 1, History: 1})
	for ticks := range 20 {
		want := a
		if ticks >= 14 { // the span of the drift 100
			want = answerErr(m, api.ErrLease)
		}
		says(t, "a talk", receive(t, n, m), want)
		tick(t, n)
	}
	says(t, "no leader any more", receive(t, n, m), api.Message{Kind: api.MsgAnswer, To: 10, Client: 2, Request: 4, Op: api.OpStatus, Err: api.ErrNotLeader})
}

// P26.5: OpWatch, of any node.
func TestWatch(t *testing.T) {
	d := stored{api.Ballot{Term: 2, For: 1}, api.Mark{Index: 8, Term: 1}, "", 9, nil}
	x := table.New()
	text := lines("a:/" + strings.Repeat(`send "s"/`, 11) + `expect {/"ok" goto a/}`)
	s, _ := table.Encode(api.Command{Op: api.OpSubmit, Client: 1, Request: 1, Data: text})
	x.Apply(s)
	d.text = x.Save()
	n := open(t, 0, d.disk(t))
	for talk := range 3 {
		for _, at := range []int{0, 1, 3, 4, 5, 10, 11, 12, 1 << 50} {
			m := call(4, api.OpWatch, talk, at, "data")
			l, e := x.Watch(talk, at, 8)
			says(t, "OpWatch", receive(t, n, m), api.Message{Kind: api.MsgAnswer, To: 10, Client: 2, Request: 4, Op: api.OpWatch, Talk: talk, At: at, Err: e, Data: node.HappenText(l), Index: 8})
		}
	}
}

// P26.4, P26.5: the driver of one that leads, and of one that does no more, or again.
func TestDriver(t *testing.T) {
	n := ready(t, disk.New())
	receive(t, n, call(1, api.OpSubmit, 0, 0, dialogue))
	agree(t, n)
	gate := func(kind uint8, f api.Fence, seq int, data string) api.Message {
		return api.Message{Kind: kind, From: 3, Talk: 1, Token: f, Seq: seq, Data: data}
	}
	f := api.Fence{Term: 1, Epoch: 1}
	says(t, "Tick", tick(t, n), api.Message{Kind: api.MsgAttach, To: 3, Talk: 1, Token: f})
	other := gate(api.MsgAttached, f, 0, "")
	for _, from := range []int{0, 1, 2, 4, 10, 15} {
		other.From = from
		says(t, "of another one than the gateway", receive(t, n, other))
	}
	says(t, "MsgAttached", receive(t, n, gate(api.MsgAttached, f, 0, "")), api.Message{Kind: api.MsgSend, To: 3, Talk: 1, Token: f, Seq: 1, Data: "x"})
	// What is sent goes ahead of what is proposed.
	l := receive(t, n, gate(api.MsgSent, f, 1, ""))
	if len(l) != 3 || l[0].Kind != api.MsgPull || l[1].Kind != api.MsgAppend || l[1].To != 1 || l[2].To != 2 || n.View().Last != 3 {
		t.Errorf("MsgSent: %+v", l)
	}
	l = receive(t, n, gate(api.MsgOutput, f, 0, "ok"))
	if len(l) != 2 || n.View().Last != 4 {
		t.Errorf("MsgOutput: %+v", l)
	}
	agree(t, n)
	if s, e := n.Table().Status(1); e != api.OK || s.State != api.TalkEnded || s.Acked != 1 {
		t.Errorf("Status: %+v, %d", s, e)
	}
	// It follows another leader, and is driven by nothing that it hears; then it leads again, with a driver that knows nothing.
	receive(t, n, call(2, api.OpSubmit, 0, 0, dialogue))
	agree(t, n)
	if l := tick(t, n); len(l) == 0 || l[len(l)-1].Kind != api.MsgAttach || l[len(l)-1].Token != (api.Fence{Term: 1, Epoch: 2}) {
		t.Errorf("Tick: %+v", l)
	}
	receive(t, n, api.Message{Kind: api.MsgAppend, From: 2, Term: 5, Index: 5, LogTerm: 1})
	m := gate(api.MsgAttached, api.Fence{Term: 1, Epoch: 2}, 0, "")
	m.Talk = 2
	says(t, "a follower", receive(t, n, m))
	for n.View().Role != api.Candidate {
		if l := tick(t, n); n.View().Role != api.Candidate {
			says(t, "a follower's tick", l)
		}
	}
	receive(t, n, api.Message{Kind: api.MsgVoted, From: 1, Term: 6, Good: true})
	says(t, "one that is not ready", tick(t, n))
	agree(t, n)
	if l := tick(t, n); len(l) != 1 || l[0].Kind != api.MsgAttach || l[0].Token != (api.Fence{Term: 6, Epoch: 1}) || l[0].Talk != 2 {
		t.Errorf("the first tick of another term: %+v", l)
	}
}

// P26.4: one that hears nobody any more has no driver from that tick on.
func TestDriverGone(t *testing.T) {
	n := ready(t, disk.New())
	for range 3 {
		tick(t, n)
	}
	receive(t, n, call(1, api.OpSubmit, 0, 0, dialogue))
	// What came back is of the tick 20: so it goes on up to the tick 40.
	receive(t, n, api.Message{Kind: api.MsgAppended, From: 1, Term: 1, Good: true, Index: 2, Stamp: 20})
	asked := 0
	for range 16 {
		for _, m := range tick(t, n) {
			if m.To == api.GatewayAddress {
				asked++
			}
		}
	}
	if asked != 4 || n.View().Role != api.Leader {
		t.Fatalf("asked %d times, %+v", asked, n.View())
	}
	// At this one its driver would ask once more.
	says(t, "the tick 40", tick(t, n))
	if n.View().Role != api.Follower {
		t.Errorf("%+v", n.View())
	}
	for range 10 {
		says(t, "a follower's tick", tick(t, n))
	}
}

// What a driver proposes goes into the log as far as it has a form, and the core takes it.
func TestPropose(t *testing.T) {
	n := ready(t, disk.New())
	receive(t, n, call(1, api.OpSubmit, 0, 0, dialogue))
	agree(t, n)
	f := api.Fence{Term: 1, Epoch: 1}
	tick(t, n)
	m := api.Message{Kind: api.MsgOutput, From: 3, Talk: 1, Token: f, At: 1<<49 + 1, Data: "ok"}
	says(t, "output too far", receive(t, n, m))
	if v := n.View(); v.Last != 2 {
		t.Errorf("%+v", v)
	}
	n = ready(t, disk.New())
	for request := 1; request <= 64; request++ {
		receive(t, n, call(request, api.OpSubmit, 0, 0, dialogue))
	}
	// The first eight of them make talks; others then fill it up again.
	agree(t, n)
	l := tick(t, n)
	if len(l) < 8 {
		t.Errorf("Tick: %+v", l)
	}
	for request := 65; request <= 128; request++ {
		receive(t, n, call(request, api.OpSubmit, 0, 0, dialogue))
	}
	a := api.Message{Kind: api.MsgSent, From: 3, Talk: 1, Token: f, Seq: 1}
	if l := receive(t, n, a); len(l) != 1 || l[0].Kind != api.MsgPull {
		t.Errorf("MsgSent: %+v", l)
	}
}

// feed: a follower 2 has entries of the term 1 up to an index, all committed.
func feed(t *testing.T, n *node.Node, data func(int) string, to int) {
	t.Helper()
	for n.View().Last < to {
		i := n.View().Last
		receive(t, n, api.Message{Kind: api.MsgAppend, From: 1, To: 2, Term: 1, Index: i, LogTerm: min(i, 1), Commit: i + 1, Entries: []api.Entry{{Term: 1, Data: data(i + 1)}}})
	}
	if n.Done() != to {
		t.Fatalf("Done %d, want %d", n.Done(), to)
	}
}

// command: a submit as the entry of some index.
func command(index int) string {
	s, _ := table.Encode(api.Command{Op: api.OpSubmit, Client: index % 8, Request: index, Data: dialogue})
	return s
}

// apply: snapshots stand at each 32nd index, and the log begins behind them.
func TestCompact(t *testing.T) {
	d := disk.New()
	n := open(t, 2, d)
	for i := 1; i <= 200; i++ {
		feed(t, n, command, i)
		at := i - i%32
		m, text, e := snap.Load(d)
		if at == 0 {
			want(t, "snap.Load", e, api.ErrNone)
		} else if e != api.OK || m != (api.Mark{Index: at, Term: 1}) || n.View().Snap != m {
			t.Fatalf("at %d: the mark %v, %d, %v", i, m, e, n.View().Snap)
		}
		if i == at && text != n.Table().Save() {
			t.Errorf("at %d: the snapshot is another one", i)
		}
		log, e := wal.Open(d.Copy())
		if e != api.OK || i > at && (log.First() != at+1 || log.Last() != i) || i == at && log.Last() != 0 {
			t.Fatalf("at %d: the log is from %d to %d, %d", i, log.First(), log.Last(), e)
		}
		if i%9 == 0 {
			want(t, "Crash", d.Crash(nil, 0), api.OK)
			n = open(t, 2, d)
			if n.Done() != at || n.View().Last != i {
				t.Fatalf("at %d: %+v", i, n.View())
			}
			receive(t, n, api.Message{Kind: api.MsgAppend, From: 1, To: 2, Term: 1, Index: i, LogTerm: 1, Commit: i})
		}
	}
}

// apply: of a snapshot whose mark is no multiple of 32 the next one comes where 32 entries, or some more, are behind it.
func TestCompactLater(t *testing.T) {
	d := stored{api.Ballot{Term: 1, For: 1}, api.Mark{Index: 40, Term: 1}, tableOf(t), 41, nil}.disk(t)
	n := open(t, 2, d)
	feed(t, n, command, 71)
	if n.View().Snap.Index != 40 {
		t.Errorf("%+v", n.View())
	}
	feed(t, n, command, 72)
	if n.View().Snap.Index != 72 {
		t.Errorf("%+v", n.View())
	}
}

// apply: of one whose mark is no multiple of MaxSegment, too, the next one's is.
func TestCompactMultiple(t *testing.T) {
	n := open(t, 2, stored{api.Ballot{Term: 1, For: 1}, api.Mark{Index: 5, Term: 1}, tableOf(t), 1, records(7, 1)}.disk(t))
	feed(t, n, command, 39)
	if n.View().Snap.Index != 5 {
		t.Errorf("%+v", n.View())
	}
	feed(t, n, command, 40)
	if n.View().Snap.Index != 40 {
		t.Errorf("%+v", n.View())
	}
}

// P26.5: the error of a snapshot's steps.
func TestCompactBroken(t *testing.T) {
	for power := range 20 {
		d := disk.New()
		n := open(t, 2, d)
		feed(t, n, command, 31)
		want(t, "Power", d.Power(power), api.OK)
		m := api.Message{Kind: api.MsgAppend, From: 1, To: 2, Term: 1, Index: 31, LogTerm: 1, Commit: 32, Entries: []api.Entry{{Term: 1}}}
		l, e := n.Receive(bytesOf(t, m))
		// The record and its sync; the snapshot and its sync; four segments, removed and synced.
		if power >= 12 {
			want(t, "Receive", e, api.OK)
			says(t, "Receive", l, api.Message{Kind: api.MsgAppended, From: 2, To: 1, Term: 1, Good: true, Index: 32})
			continue
		}
		want(t, "Receive", e, api.ErrOff)
		says(t, "Receive", l)
		want(t, "Crash", d.Crash([]int{9, 9, 9, 9, 9, 9, 9, 9}, 0), api.OK)
		if v := open(t, 2, d).View(); v.Last < 31 || v.Snap.Index != 0 && v.Snap.Index != 32 {
			t.Errorf("power %d: %+v", power, v)
		}
	}
}

// piece: of a snapshot that the leader 1 of the term 3 tells the node 2.
func piece(text string, mark api.Mark, at int) api.Message {
	s, _ := snap.Piece(text, at)
	return api.Message{Kind: api.MsgSnap, From: 1, To: 2, Term: 3, Index: mark.Index, LogTerm: mark.Term, At: at, Total: len(text), Data: s, Stamp: 17}
}

// wants: the answer that so many bytes came.
func wants(m api.Message, at int, whole bool) api.Message {
	return api.Message{Kind: api.MsgSnapped, From: 2, To: 1, Term: 3, Good: whole, Index: m.Index, At: at, Total: m.Total, Stamp: 17}
}

// longTable: one whose form has some pieces.
func longTable(t *testing.T) *table.Table {
	t.Helper()
	x := table.New()
	for i := range 4 {
		s, e := table.Encode(api.Command{Op: api.OpSubmit, Client: 1, Request: i + 1, Data: lines("a:/" + strings.Repeat(`send "sssssssssssssssssssss"/`, 60) + "exit 0")})
		want(t, "Encode", e, api.OK)
		x.Apply(s)
	}
	if len(x.Save()) < 3*api.MaxChunk {
		t.Fatalf("%d bytes", len(x.Save()))
	}
	return x
}

// P26.5: a snapshot comes in pieces, some of them twice or too early; then it stands in place of what was there.
func TestPieces(t *testing.T) {
	x := longTable(t)
	text, mark := x.Save(), api.Mark{Index: 40, Term: 2}
	for _, ahead := range []int{0, 5, 39, 60} {
		d := disk.New()
		n := open(t, 2, d)
		for n.View().Last < ahead {
			i := n.View().Last
			receive(t, n, api.Message{Kind: api.MsgAppend, From: 1, To: 2, Term: 1, Index: i, LogTerm: min(i, 1), Commit: min(i, 8), Entries: []api.Entry{{Term: 1}}})
		}
		was := n.Table().Save()
		for at := 0; at < len(text); at += api.MaxChunk {
			early := piece(text, mark, min(at+api.MaxChunk, len(text)))
			if early.At < len(text) {
				says(t, "a piece too early", receive(t, n, early), wants(early, at, false))
			}
			if n.Table().Save() != was || n.Done() > 8 {
				t.Error("installed too early")
			}
			m := piece(text, mark, at)
			end := at + len(m.Data)
			says(t, "a piece", receive(t, n, m), wants(m, end, end == len(text)))
		}
		if v := n.View(); v.Snap != mark || v.Last != 40 || v.Commit != 40 || n.Done() != 40 || n.Table().Save() != text {
			t.Errorf("installed: %+v", v)
		}
		last := piece(text, mark, 0)
		says(t, "what is installed", receive(t, n, last), wants(last, len(text), true))
		want(t, "Crash", d.Crash(nil, 0), api.OK)
		n = open(t, 2, d)
		if v := n.View(); v.Snap != mark || v.Last != 40 || n.Table().Save() != text || v.Ballot.Term != 3 {
			t.Errorf("opened: %+v", v)
		}
		receive(t, n, api.Message{Kind: api.MsgAppend, From: 1, To: 2, Term: 3, Index: 40, LogTerm: 2, Commit: 41, Entries: []api.Entry{{Term: 3}}})
		if n.Done() != 41 {
			t.Errorf("Done %d", n.Done())
		}
	}
}

// P26.5: the same mark and number of bytes come again from the beginning on, once they were installed; so does another one.
func TestInboxAnew(t *testing.T) {
	text := longTable(t).Save()
	n := open(t, 2, disk.New())
	for _, index := range []int{8, 16} {
		mark := api.Mark{Index: index, Term: 2}
		for at := 0; at < len(text); at += api.MaxChunk {
			m := piece(text, mark, at)
			end := at + len(m.Data)
			says(t, "a piece", receive(t, n, m), wants(m, end, end == len(text)))
		}
		if n.Done() != index {
			t.Errorf("Done %d", n.Done())
		}
	}
}

// P26.5: nothing is done or said of a snapshot that no node may have.
func TestPiecesRefused(t *testing.T) {
	good := table.New().Save()
	for name, m := range map[string]api.Message{
		"no table":       piece("text", api.Mark{Index: 8, Term: 1}, 0),
		"no bytes":       piece("", api.Mark{Index: 8, Term: 1}, 0),
		"no multiple":    piece(good, api.Mark{Index: 9, Term: 1}, 0),
		"nor this one":   piece(good, api.Mark{Index: 15, Term: 1}, 0),
		"of a past term": piece(good, api.Mark{Index: 24, Term: 1}, 0),
	} {
		d := disk.New()
		n := open(t, 2, d)
		if name == "of a past term" {
			first := piece(good, api.Mark{Index: 16, Term: 2}, 0)
			says(t, "a piece", receive(t, n, first), wants(first, len(good), true))
		}
		was := n.View()
		ops := d.Ops()
		says(t, name, receive(t, n, m))
		if d.Ops() > ops+2 || n.View().Snap != was.Snap {
			t.Errorf("%s: %d steps, %+v", name, d.Ops()-ops, n.View())
		}
	}
}

// P26.5: the power goes at each step of what comes in place of the log.
func TestPiecesBroken(t *testing.T) {
	text, mark := tableOf(t), api.Mark{Index: 16, Term: 1}
	for power := 0; ; power++ {
		d := stored{api.Ballot{Term: 3, For: -1}, api.Mark{}, "", 1, records(20, 2)}.disk(t)
		n := open(t, 2, d)
		want(t, "Power", d.Power(power), api.OK)
		l, e := n.Receive(bytesOf(t, piece(text, mark, 0)))
		if e == api.OK {
			if power != 2+2*3 {
				t.Errorf("%d steps", power)
			}
			return
		}
		want(t, "Receive", e, api.ErrOff)
		says(t, "Receive", l)
		want(t, "Crash", d.Crash([]int{9, 9, 9, 9, 9, 9, 9, 9}, 0), api.OK)
		v := open(t, 2, d).View()
		if v.Snap.Index == 0 && v.Last != 20 || v.Snap.Index != 0 && (v.Snap != mark || v.Last != 16) {
			t.Errorf("power %d: %+v", power, v)
		}
	}
}

// carry out: a leader tells its snapshot in pieces, as far as its disk has one.
func TestSnapSaid(t *testing.T) {
	text := longTable(t).Save()
	mark := api.Mark{Index: 8, Term: 1}
	d := stored{api.Ballot{Term: 1, For: -1}, mark, text, 9, records(1, 1)}.disk(t)
	n := open(t, 0, d)
	for n.View().Role != api.Candidate {
		tick(t, n)
	}
	receive(t, n, api.Message{Kind: api.MsgVoted, From: 1, Term: 2, Good: true})
	told := func(at, total int, data string) api.Message {
		return api.Message{Kind: api.MsgSnap, To: 1, Term: 2, Index: 8, LogTerm: 1, At: at, Total: total, Data: data, Stamp: n.View().Now}
	}
	answer := func(at, total int) api.Message {
		return api.Message{Kind: api.MsgSnapped, From: 1, Term: 2, Index: 8, At: at, Total: total, Stamp: n.View().Now}
	}
	says(t, "MsgAppended", receive(t, n, api.Message{Kind: api.MsgAppended, From: 1, Term: 2, Index: 3, Stamp: n.View().Now}), told(0, len(text), text[:2048]))
	for _, at := range []int{2048, 5, len(text) - 1, len(text), len(text) + 1, 1 << 50} {
		piece := text[min(at, len(text)):min(at+2048, len(text))]
		says(t, "MsgSnapped", receive(t, n, answer(at, 1<<50)), told(min(at, len(text)), len(text), piece))
	}
	want(t, "Power", d.Power(0), api.OK)
	says(t, "a disk that is off", receive(t, n, answer(7, 100)), told(7, 0, ""))
}

// P26.5: a call that waits is forgotten when a snapshot comes in place of its entry.
func TestPiecesCalls(t *testing.T) {
	n := ready(t, disk.New())
	for request := 1; request <= 9; request++ {
		receive(t, n, call(request, api.OpSubmit, 0, 0, "?"))
	}
	// Of the term 0, so that entries of the calls' term may stand behind it.
	m := piece(table.New().Save(), api.Mark{Index: 8}, 0)
	m.To = 0
	l := receive(t, n, m)
	if len(l) != 1 || !l[0].Good || n.Done() != 8 {
		t.Fatalf("MsgSnap: %+v", l)
	}
	// The entry 9 comes again as it was; a call waited for it.
	s, _ := table.Encode(api.Command{Op: api.OpSubmit, Client: 2, Request: 8, Data: "?"})
	again := api.Message{Kind: api.MsgAppend, From: 1, Term: 3, Index: 8, Commit: 9, Entries: []api.Entry{{Term: 1, Data: s}}}
	says(t, "MsgAppend", answers(receive(t, n, again)))
	if n.Done() != 9 {
		t.Errorf("Done %d", n.Done())
	}
}

// The newest ballot and what was voted is on the disk ahead of the vote.
func TestVote(t *testing.T) {
	d := disk.New()
	n := open(t, 2, d)
	for range 20 {
		tick(t, n)
	}
	m := api.Message{Kind: api.MsgVote, From: 1, To: 2, Term: 5}
	says(t, "MsgVote", receive(t, n, m), api.Message{Kind: api.MsgVoted, From: 2, To: 1, Term: 5, Good: true})
	box, e := vote.Open(d.Copy())
	if e != api.OK || box.Now() != (api.Ballot{Term: 5, For: 1}) {
		t.Errorf("the ballot %v, %d", box.Now(), e)
	}
	want(t, "Crash", d.Crash(nil, 0), api.OK)
	n = open(t, 2, d)
	for range 20 {
		tick(t, n)
	}
	m.From = 0
	says(t, "MsgVote of another one", receive(t, n, m), api.Message{Kind: api.MsgVoted, From: 2, Term: 5})
}
