package table

import (
	"dragoman/api"
	"dragoman/compile"
	"dragoman/run"
)

// Apply: a command is done; the result, if it is one that a client asked.
func (t *Table) Apply(data string) (api.Result, bool) {
	c, e := Decode(data)
	if t == nil || e != api.OK {
		return api.Result{}, false
	}
	switch c.Op {
	case api.OpSubmit:
		return t.once(c, t.submit), true
	case api.OpCancel:
		return t.once(c, t.cancel), true
	}
	if x, e := t.find(c.Talk); e == api.OK {
		x.do(c)
	}
	return api.Result{}, false
}

// once: what a client asks is done, unless it was done already, or the client has asked more since.
func (t *Table) once(c api.Command, do func(api.Command, *api.Result)) api.Result {
	last := &t.last[c.Client]
	r := api.Result{Client: c.Client, Request: c.Request, Op: c.Op}
	switch {
	case c.Request == last.Request:
		return *last
	case c.Request < last.Request:
		r.Err = api.ErrOld
		return r
	}
	do(c, &r)
	*last = r
	return r
}

// submit: one more dialogue.
func (t *Table) submit(c api.Command, r *api.Result) {
	a, fault := compile.Of(c.Data)
	if fault.Err != api.OK {
		r.Err, r.At = fault.Err, fault.At
		return
	}
	if len(t.talks) >= api.MaxTalks {
		r.Err = api.ErrFull
		return
	}
	r.Talk = len(t.talks) + 1
	x := talk{Talk: api.Talk{Id: r.Talk, Client: c.Client, Text: c.Data, State: api.TalkRuns}, auto: a}
	x.goOn(run.Begin(a))
	t.talks = append(t.talks, x)
}

// cancel: a dialogue goes on no more.
func (t *Table) cancel(c api.Command, r *api.Result) {
	x, e := t.find(c.Talk)
	if e != api.OK {
		r.Err = e
		return
	}
	r.Talk = c.Talk
	if x.State != api.TalkRuns {
		r.Err = api.ErrState
		return
	}
	x.State = api.TalkCancelled
}

// do: what a leader has learnt of the talk.
func (x *talk) do(c api.Command) {
	switch c.Op {
	case api.OpAck:
		if c.At <= len(x.Sends) {
			x.Acked = max(x.Acked, c.At)
		}
	case api.OpOutput:
		end := c.At + len(c.Data)
		if x.State == api.TalkRuns && end > x.Got {
			// What was there already comes again with what is new.
			fresh := c.Data[max(x.Got-c.At, 0):]
			x.Got = end
			x.goOn(run.Feed(x.auto, x.Config, fresh))
		}
	case api.OpTimeout:
		if x.State == api.TalkRuns && x.Config.Turn == c.At {
			x.goOn(run.Timeout(x.auto, x.Config))
		}
	}
}

// goOn: it stands so now, and that has happened; with an error nothing has.
func (x *talk) goOn(c api.Config, l []api.Happen, e api.Errno) {
	if e != api.OK {
		return
	}
	x.Config = c
	for _, h := range l {
		if len(x.History) >= api.MaxHistory {
			x.State = api.TalkStopped
			return
		}
		x.History = append(x.History, h)
		switch h.Kind {
		case api.HapSend:
			x.Sends = append(x.Sends, h.Text)
		case api.HapExit:
			x.State = api.TalkEnded
		}
	}
}
