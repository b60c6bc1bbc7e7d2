package cluster

import (
	"dragoman/api"
	"dragoman/message"
	"dragoman/ring"
)

// send: messages go on their way, as far as there is one.
func (w *World) send(l ...api.Message) {
	for _, m := range l {
		if b, e := message.Encode(m); e == api.OK {
			w.net.Send(m.From, m.To, b)
		}
	}
}

// hear: what a call of a node says is sent; with an error its machine is down.
func (w *World) hear(x *machine, call func() ([]api.Message, api.Errno)) {
	l, e := call()
	w.send(l...)
	if e != api.OK {
		x.fall()
	}
}

// deliver: a letter comes.
func (w *World) deliver(id int) api.Errno {
	l, e := w.net.Deliver(id)
	if e != api.OK {
		return e
	}
	switch {
	case isNode(l.To):
		if x := &w.machines[l.To]; x.node != nil {
			w.hear(x, func() ([]api.Message, api.Errno) { return x.node.Receive(l.Bytes) })
		}
	case l.To == api.GatewayAddress:
		w.ask(&w.machines[l.To], l.Bytes)
	case isClient(l.To - api.ClientAddress):
		w.answer(l.To-api.ClientAddress, l.Bytes)
	}
	return api.OK
}

// ask: the gateway is asked.
func (w *World) ask(x *machine, b string) {
	m, fault := message.Decode(b)
	if x.gate == nil || fault.Err != api.OK {
		return
	}
	a, e := x.gate.Do(m, w.output(m.Talk))
	switch e {
	case api.OK:
		w.send(a)
	case api.ErrArg:
		// It was no question.
	default:
		x.fall()
	}
}

// output: that of a talk's terminal; nil without one.
func (w *World) output(talk int) *ring.Ring {
	if x := w.terminals[talk]; x != nil {
		return x.out
	}
	return nil
}

// answer: a client's call ends with an answer, unless that only says to ask again, or is of another one.
func (w *World) answer(client int, b string) {
	m, fault := message.Decode(b)
	if fault.Err != api.OK || m.Kind != api.MsgAnswer {
		return
	}
	switch m.Err {
	case api.ErrNotLeader, api.ErrLease, api.ErrBusy, api.ErrOld:
		return
	}
	for i := range w.calls {
		x := &w.calls[i]
		if x.Call.Client == client && x.Call.Request == m.Request && x.Call.Op == m.Op && x.Ended == 0 {
			x.Ended, x.Answer = w.acts, m
		}
	}
}
