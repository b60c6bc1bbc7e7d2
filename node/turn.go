package node

import (
	"dragoman/api"
	"dragoman/driver"
	"dragoman/snap"
	"dragoman/table"
)

// turn is one call of a node, and what it says in it. What it does answers the error by which the node is broken; nothing more is done then.
type turn struct {
	*Node
	said []api.Message
}

// say: messages go behind what is said.
func (x *turn) say(l ...api.Message) { x.said = append(x.said, l...) }

func (x *turn) tick() api.Errno {
	if e := x.carryOut(x.core.Tick()); e != api.OK {
		return e
	}
	if e := x.apply(); e != api.OK {
		return e
	}
	x.look()
	if x.driver == nil {
		return api.OK
	}
	return x.drive(x.driver.Tick(x.table))
}

func (x *turn) receive(m api.Message) api.Errno {
	switch m.Kind {
	case api.MsgVote, api.MsgVoted, api.MsgAppend, api.MsgAppended, api.MsgSnap, api.MsgSnapped:
		return x.step(m)
	case api.MsgAttached, api.MsgSent, api.MsgOutput:
		x.look()
		if x.driver != nil && m.From == api.GatewayAddress {
			return x.drive(x.driver.Hear(x.table, m))
		}
	case api.MsgCall:
		if m.Client < api.MaxClients && m.From == api.ClientAddress+m.Client && m.Request >= 1 {
			return x.call(m)
		}
	}
	return api.OK
}

// step: another node has said something.
func (x *turn) step(m api.Message) api.Errno {
	fx := x.core.Step(m)
	if e := x.carryOut(fx); e != api.OK {
		return e
	}
	if fx.Piece {
		if e := x.piece(m); e != api.OK {
			return e
		}
	}
	if e := x.apply(); e != api.OK {
		return e
	}
	x.look()
	return api.OK
}

// carryOut: what the core asks for is done, and only then said.
func (x *turn) carryOut(fx api.Effects) api.Errno {
	if e := x.keep(fx); e != api.OK {
		return e
	}
	for _, m := range fx.Send {
		if m.Kind == api.MsgSnap {
			x.load(&m)
		}
		x.say(m)
	}
	return api.OK
}

// keep: the ballot and the entries of effects are sure.
func (n *Node) keep(fx api.Effects) api.Errno {
	if fx.Save {
		if e := n.box.Write(fx.Ballot); e != api.OK {
			return e
		}
	}
	if fx.CutFrom > 0 {
		if e := n.log.Cut(fx.CutFrom); e != api.OK {
			return e
		}
	}
	for _, entry := range fx.Append {
		if e := n.log.Append(Record(entry)); e != api.OK {
			return e
		}
	}
	if len(fx.Append) == 0 {
		return api.OK
	}
	return n.log.Sync()
}

// load: a piece of its snapshot goes into a message.
func (n *Node) load(m *api.Message) {
	_, text, e := snap.Load(n.disk)
	if e != api.OK {
		return
	}
	m.Total = len(text)
	m.At = min(m.At, m.Total)
	m.Data, _ = snap.Piece(text, m.At)
}

// piece: a piece of a snapshot came.
func (x *turn) piece(m api.Message) api.Errno {
	want, text, whole := x.inbox.Put(m)
	if whole {
		mark := api.Mark{Index: m.Index, Term: m.LogTerm}
		t, e := table.Load(text)
		if e != api.OK || mark.Index%api.MaxSegment != 0 || x.core.Copy().Install(mark) != api.OK {
			return api.OK
		}
		if e := x.install(mark, t, text); e != api.OK {
			return e
		}
	}
	x.say(api.Message{Kind: api.MsgSnapped, From: x.self, To: m.From, Term: x.core.View().Ballot.Term, Good: whole, Index: m.Index, At: want, Total: m.Total, Stamp: m.Stamp})
	return api.OK
}

// install: a snapshot stands in place of what it had.
func (n *Node) install(mark api.Mark, t *table.Table, text string) api.Errno {
	// In this order: as long as the log is whole the snapshot may be lost, and behind it the log may be.
	if e := snap.Save(n.disk, mark, text); e != api.OK {
		return e
	}
	if e := n.log.Reset(mark.Index + 1); e != api.OK {
		return e
	}
	if e := n.core.Install(mark); e != api.OK {
		return e
	}
	n.table, n.done, n.calls, n.inbox = t, mark.Index, nil, snap.NewInbox()
	return api.OK
}

// apply: its table gets what is committed.
func (x *turn) apply() api.Errno {
	for x.done < x.core.View().Commit {
		entry, e := x.core.Entry(x.done + 1)
		if e != api.OK {
			return e
		}
		x.done++
		result, ok := x.table.Apply(entry.Data)
		for _, c := range x.waiting() {
			if ok && c.term == entry.Term {
				x.answer(c.asked, api.Message{Talk: result.Talk, At: result.At, Err: result.Err, Index: x.done})
			}
		}
		if e := x.compact(entry.Term); e != api.OK {
			return e
		}
	}
	return api.OK
}

// waiting: the calls that wait for the index done; they wait no more.
func (n *Node) waiting() []call {
	var now, later []call
	for _, c := range n.calls {
		if c.index == n.done {
			now = append(now, c)
		} else {
			later = append(later, c)
		}
	}
	n.calls = later
	return now
}

// compact: now and then its table, behind an entry of that term, is a snapshot in place of what came to it.
func (n *Node) compact(term int) api.Errno {
	if n.done%api.MaxSegment != 0 || n.done-n.core.View().Snap.Index < api.SnapEvery {
		return api.OK
	}
	if e := snap.Save(n.disk, api.Mark{Index: n.done, Term: term}, n.table.Save()); e != api.OK {
		return e
	}
	if e := n.log.Drop(n.done); e != api.OK {
		return e
	}
	return n.core.Compact(n.done)
}

// look: it has a driver of its term just if it leads.
func (n *Node) look() {
	v := n.core.View()
	if !v.Ready {
		n.driver = nil
		return
	}
	if n.driver == nil || n.leads != v.Ballot.Term {
		// Of its own number, and of a term in which it leads, there is one.
		n.driver, _ = driver.New(n.self, v.Ballot.Term)
		n.leads = v.Ballot.Term
	}
}

// drive: what its driver sends is said, what it proposes is proposed, up to the first command that is refused.
func (x *turn) drive(send []api.Message, propose []api.Command) api.Errno {
	x.say(send...)
	for _, c := range propose {
		form, e := table.Encode(c)
		if e != api.OK {
			continue
		}
		_, _, fx, e := x.core.Propose(form)
		if e != api.OK {
			return api.OK
		}
		if e := x.carryOut(fx); e != api.OK {
			return e
		}
	}
	return api.OK
}
