package node

import (
	"dragoman/api"
	"dragoman/lease"
	"dragoman/table"
)

// watched is how many happenings one answer has at most.
const watched = 8

// call: a client asks.
func (x *turn) call(m api.Message) api.Errno {
	switch m.Op {
	case api.OpSubmit, api.OpCancel:
		return x.ask(m)
	case api.OpStatus:
		x.status(m)
	case api.OpWatch:
		x.watch(m)
	}
	return api.OK
}

// answer: a call is answered so.
func (x *turn) answer(m, a api.Message) {
	a.Kind, a.From, a.To = api.MsgAnswer, x.self, m.From
	a.Client, a.Request, a.Op = m.Client, m.Request, m.Op
	// A node that is not known is -1, and so told by 0.
	a.Leader = x.core.View().Leader + 1
	x.say(a)
}

func (x *turn) refuse(m api.Message, e api.Errno) { x.answer(m, api.Message{Err: e}) }

// ask: what the log is to have.
func (x *turn) ask(m api.Message) api.Errno {
	if !x.isLeader() {
		x.refuse(m, api.ErrNotLeader)
		return api.OK
	}
	if len(m.Data) > api.MaxText {
		x.refuse(m, api.ErrLong)
		return api.OK
	}
	c := api.Command{Op: m.Op, Client: m.Client, Request: m.Request, Talk: m.Talk}
	if m.Op == api.OpSubmit {
		c.Data = m.Data
	}
	form, e := table.Encode(c)
	if e != api.OK {
		x.refuse(m, e)
		return api.OK
	}
	index, term, fx, e := x.core.Propose(form)
	if e != api.OK {
		x.refuse(m, api.ErrBusy)
		return api.OK
	}
	x.calls = append(x.calls, call{index: index, term: term, asked: api.Message{From: m.From, Client: m.Client, Request: m.Request, Op: m.Op}})
	if e := x.carryOut(fx); e != api.OK {
		return e
	}
	return x.apply()
}

// status: how a talk stands, told only by the one node that can know it.
func (x *turn) status(m api.Message) {
	if !x.isLeader() {
		x.refuse(m, api.ErrNotLeader)
		return
	}
	if !lease.Held(x.core.View(), x.self, x.rho) {
		x.refuse(m, api.ErrLease)
		return
	}
	s, e := x.table.Status(m.Talk)
	x.answer(m, api.Message{Talk: m.Talk, Err: e, Data: StatusText(s), Index: x.done})
}

// watch: what happened in a talk, as far as this node knows it.
func (x *turn) watch(m api.Message) {
	l, e := x.table.Watch(m.Talk, m.At, watched)
	x.answer(m, api.Message{Talk: m.Talk, At: m.At, Err: e, Data: HappenText(l), Index: x.done})
}

func (n *Node) isLeader() bool { return n.core.View().Role == api.Leader }
