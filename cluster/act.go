package cluster

import (
	"dragoman/api"
	"dragoman/message"
	"dragoman/ring"
)

// mostTicks is how many ticks one act has at most.
const mostTicks = 1000

// Do: an act is done.
func (w *World) Do(a api.Act) api.Errno {
	if w == nil {
		return api.ErrNil
	}
	w.acts++
	switch a.Kind {
	case api.ActTick:
		return w.tick(a.N)
	case api.ActRate, api.ActDraw:
		if !isNode(a.Node) {
			return api.ErrArg
		}
		return w.tune(&w.machines[a.Node], a)
	case api.ActDeliver:
		return w.deliver(a.N)
	case api.ActDrop:
		return w.net.Drop(a.N)
	case api.ActTwice:
		_, e := w.net.Twice(a.N)
		return e
	case api.ActCut:
		return w.net.Cut(a.Node, a.N)
	case api.ActHeal:
		return w.net.Heal(a.Node, a.N)
	case api.ActPower, api.ActCrash, api.ActBoot:
		if !isMachine(a.Node) {
			return api.ErrArg
		}
		return w.machines[a.Node].power(a)
	case api.ActPeer:
		return w.peer(a)
	case api.ActCall:
		return w.call(a)
	case api.ActRetry:
		return w.retry(a)
	case api.ActRound:
		return w.round()
	}
	return api.ErrArg
}

// tick: so many real ticks go by.
func (w *World) tick(many int) api.Errno {
	if many < 0 || many > mostTicks {
		return api.ErrArg
	}
	for range many {
		for i := range api.Nodes {
			w.tickNode(&w.machines[i])
		}
	}
	return api.OK
}

// tickNode: a real tick goes by for a node, up or down.
func (w *World) tickNode(x *machine) {
	was := x.clock.Now()
	if x.clock.Tick(1) != api.OK {
		return
	}
	for range x.clock.Now() - was {
		if x.node != nil {
			w.hear(x, x.node.Tick)
		}
	}
}

// round: a tick, and all letters that are in flight then come.
func (w *World) round() api.Errno {
	e := w.tick(1)
	for id := range w.net.All() {
		w.deliver(id)
	}
	return e
}

// tune: a node's clock goes at another rate, or it draws.
func (w *World) tune(x *machine, a api.Act) api.Errno {
	if a.Kind == api.ActRate {
		return x.clock.Rate(a.N)
	}
	if !x.up() {
		return api.ErrOff
	}
	return x.node.Draw(a.N)
}

// power: a machine's power is short, goes, or comes again.
func (x *machine) power(a api.Act) api.Errno {
	switch a.Kind {
	case api.ActPower:
		// A disk has power for any number of steps, if that is below 0.
		return x.disk.Power(max(a.N, 0))
	case api.ActCrash:
		x.fall()
		return x.disk.Crash(a.Keep, a.N)
	}
	if x.up() {
		return api.ErrState
	}
	return x.open(a.Node)
}

// peer: a terminal says something.
func (w *World) peer(a api.Act) api.Errno {
	if a.N < 1 || a.N > api.MaxTalks {
		return api.ErrArg
	}
	if len(a.Text) > api.MaxRing {
		return api.ErrLong
	}
	x := w.terminals[a.N]
	if x == nil {
		x = &terminal{}
		// There is a ring of that limit.
		x.out, _ = ring.New(api.MaxRing)
		w.terminals[a.N] = x
	}
	x.out.Put(a.Text)
	x.said = append(x.said, a.Text...)
	return api.OK
}

// call: a client asks a node.
func (w *World) call(a api.Act) api.Errno {
	if !isClient(a.Node) || !isNode(a.To) || !isAsked(a.Op) {
		return api.ErrArg
	}
	m := api.Message{Kind: api.MsgCall, From: api.ClientAddress + a.Node, To: a.To, Client: a.Node, Request: 1, Op: a.Op, Talk: a.Talk, At: a.At, Data: a.Text}
	if last := w.newest(a.Node); last != nil {
		m.Request = last.Call.Request + 1
	}
	if message.Check(m) != api.OK {
		return api.ErrArg
	}
	w.calls = append(w.calls, api.Asked{Call: m, Begun: w.acts})
	w.send(m)
	return api.OK
}

// retry: a client asks once more what it asked last.
func (w *World) retry(a api.Act) api.Errno {
	if !isClient(a.Node) || !isNode(a.To) {
		return api.ErrArg
	}
	last := w.newest(a.Node)
	if last == nil || last.Ended != 0 {
		return api.ErrState
	}
	m := last.Call
	m.To = a.To
	w.send(m)
	return api.OK
}

// newest: the newest call of a client; nil without one.
func (w *World) newest(client int) *api.Asked {
	for i := len(w.calls) - 1; i >= 0; i-- {
		if w.calls[i].Call.Client == client {
			return &w.calls[i]
		}
	}
	return nil
}

// isAsked: whether clients ask that.
func isAsked(op uint8) bool {
	return op == api.OpSubmit || op == api.OpCancel || op == api.OpStatus || op == api.OpWatch
}
