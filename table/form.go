package table

import (
	"strings"

	"dragoman/api"
	"dragoman/compile"
	"dragoman/run"
	"dragoman/wire"
)

// The greatest number of a table, and of an Op.
const (
	mostKept = 1<<50 - 1
	mostOp   = 255
)

// Save: the form.
func (t *Table) Save() string {
	if t == nil {
		return ""
	}
	var b strings.Builder
	number := func(l ...int) {
		for _, n := range l {
			b.WriteString(wire.U64(uint64(n)))
		}
	}
	// No text of a table is longer than wire's may be.
	text := func(s string) {
		form, _ := wire.Text(s)
		b.WriteString(form)
	}
	b.WriteString(wire.U8(uint8(len(t.talks))))
	for _, x := range t.talks {
		c := x.Config
		number(x.Client, x.Acked, x.Got, c.Node, c.Sends, c.Turn, c.Code, len(c.Counts), len(x.History))
		b.WriteString(wire.U8(x.State) + wire.Bool(c.Ended))
		text(x.Text)
		text(c.Buffer)
		number(c.Counts...)
		for _, h := range x.History {
			number(h.Kind, h.N)
			text(h.Text)
		}
	}
	for _, r := range t.last {
		number(r.Request, int(r.Op), int(r.Err), r.Talk, r.At)
	}
	return b.String()
}

// Load: the table of a form.
func Load(s string) (*Table, api.Errno) {
	l := &loader{Reader: wire.New(s)}
	t := l.table()
	if l.wrong || l.End().Err != api.OK {
		return nil, api.ErrBytes
	}
	return t, api.OK
}

// loader reads a table's form.
type loader struct {
	*wire.Reader
	wrong bool // whether something was read that no table has
}

// must: what was read so far is of no table, unless it is so.
func (l *loader) must(so bool) { l.wrong = l.wrong || !so }

// number: the next number, from 0 to most; 0, if it is none of these.
func (l *loader) number(most int) int {
	n := l.U64()
	if n > uint64(most) {
		l.must(false)
		return 0
	}
	return int(n)
}

func (l *loader) table() *Table {
	t := New()
	talks := int(l.U8())
	l.must(talks <= api.MaxTalks)
	for id := 1; id <= talks && !l.over(); id++ {
		t.talks = append(t.talks, l.talk(id))
	}
	for client := range t.last {
		t.last[client] = l.result(client)
	}
	return t
}

// over: whether nothing of a table can come any more.
func (l *loader) over() bool { return l.wrong || l.Fault().Err != api.OK }

// talk: the next talk.
func (l *loader) talk(id int) talk {
	x := talk{Talk: api.Talk{Id: id, Client: l.number(api.MaxClients - 1), Acked: l.number(mostKept), Got: l.number(mostKept)}}
	c := &x.Config
	for _, n := range [...]*int{&c.Node, &c.Sends, &c.Turn, &c.Code} {
		*n = l.number(mostKept)
	}
	counters, happenings := l.number(api.MaxCounters), l.number(api.MaxHistory)
	x.State, c.Ended = l.U8(), l.Bool()
	l.must(x.State >= api.TalkRuns && x.State <= api.TalkStopped)
	x.Text, c.Buffer = l.Text(api.MaxText), l.Text(api.MaxBuffer)
	for range counters {
		c.Counts = append(c.Counts, l.number(mostKept))
	}
	for range happenings {
		h := api.Happen{Kind: l.number(mostKept), N: l.number(mostKept), Text: l.Text(api.MaxFrame)}
		x.History = append(x.History, h)
		if h.Kind == api.HapSend {
			x.Sends = append(x.Sends, h.Text)
		}
	}
	l.must(x.Acked <= len(x.Sends))
	if !l.over() {
		l.must(x.compiled())
	}
	return x
}

// compiled: whether its text has an automaton, which is its own then, and in which it may stand as it does.
func (x *talk) compiled() bool {
	a, fault := compile.Of(x.Text)
	x.auto = a
	return fault.Err == api.OK && (x.State == api.TalkStopped || run.Check(a, x.Config) == api.OK)
}

// result: the last result of a client.
func (l *loader) result(client int) api.Result {
	r := api.Result{Request: l.number(mostKept), Op: uint8(l.number(mostOp)), Err: api.Errno(l.number(mostKept)), Talk: l.number(mostKept), At: l.number(mostKept)}
	if r.Request > 0 {
		r.Client = client
	}
	return r
}
