package table_test

import (
	"reflect"
	"slices"
	"strings"
	"testing"

	"dragoman/api"
	"dragoman/compile"
	"dragoman/run"
	"dragoman/table"
)

// dice are numbers that look thrown, and are the same in each run.
type dice uint64

func (d *dice) below(n int) int {
	*d ^= *d << 13
	*d ^= *d >> 7
	*d ^= *d << 17
	return int(uint64(*d) >> 11 % uint64(n))
}

// told is a talk as the chapter says it: what came of it is reckoned from its beginning on, each time.
type told struct {
	client, acked, got int
	text               string
	events             []string // output, and where the time ran out no bytes
	cancelled          bool
}

// talk: what P24.10 says of it.
func (x told) talk(id int) api.Talk {
	a, _ := compile.Of(x.text)
	c, all, _ := run.Begin(a)
	for _, s := range x.events {
		var l []api.Happen
		if s == "" {
			c, l, _ = run.Timeout(a, c)
		} else {
			c, l, _ = run.Feed(a, c, s)
		}
		all = append(all, l...)
	}
	y := api.Talk{Id: id, Client: x.client, Text: x.text, State: api.TalkRuns, Config: c, Acked: x.acked, Got: x.got}
	switch {
	case len(all) > 64:
		all, y.State = all[:64], api.TalkStopped
	case c.Ended:
		y.State = api.TalkEnded
	case x.cancelled:
		y.State = api.TalkCancelled
	}
	y.History = all
	for _, h := range all {
		if h.Kind == api.HapSend {
			y.Sends = append(y.Sends, h.Text)
		}
	}
	return y
}

// world is a table as the chapter says it.
type world struct {
	talks []told
	last  [8]api.Result
}

func (w *world) apply(c api.Command) (api.Result, bool) {
	if c.Op == api.OpSubmit || c.Op == api.OpCancel {
		r := api.Result{Client: c.Client, Request: c.Request, Op: c.Op}
		if c.Request == w.last[c.Client].Request {
			return w.last[c.Client], true
		}
		if c.Request < w.last[c.Client].Request {
			r.Err = api.ErrOld
			return r, true
		}
		_, fault := compile.Of(c.Data)
		switch {
		case c.Op == api.OpCancel && (c.Talk < 1 || c.Talk > len(w.talks)):
			r.Err = api.ErrNone
		case c.Op == api.OpCancel:
			r.Talk = c.Talk
			if w.talks[c.Talk-1].talk(0).State != api.TalkRuns {
				r.Err = api.ErrState
			} else {
				w.talks[c.Talk-1].cancelled = true
			}
		case fault.Err != api.OK:
			r.Err, r.At = fault.Err, fault.At
		case len(w.talks) == 8:
			r.Err = api.ErrFull
		default:
			w.talks = append(w.talks, told{client: c.Client, text: c.Data})
			r.Talk = len(w.talks)
		}
		w.last[c.Client] = r
		return r, true
	}
	if c.Talk < 1 || c.Talk > len(w.talks) {
		return api.Result{}, false
	}
	x := &w.talks[c.Talk-1]
	y := x.talk(0)
	switch c.Op {
	case api.OpAck:
		if c.At <= len(y.Sends) && c.At > x.acked {
			x.acked = c.At
		}
	case api.OpOutput:
		if end := c.At + len(c.Data); y.State == api.TalkRuns && end > x.got {
			s := c.Data
			if c.At < x.got {
				s = s[x.got-c.At:]
			}
			x.got = end
			if s != "" {
				x.events = append(x.events, s)
			}
		}
	case api.OpTimeout:
		a, _ := compile.Of(x.text)
		if _, _, e := run.Timeout(a, y.Config); y.State == api.TalkRuns && y.Config.Turn == c.At && e == api.OK {
			x.events = append(x.events, "")
		}
	}
	return api.Result{}, false
}

// same: a table has what the chapter says, and nothing else.
func (w *world) same(t *testing.T, x *table.Table) {
	t.Helper()
	if x.Len() != len(w.talks) {
		t.Fatalf("%d talks, want %d", x.Len(), len(w.talks))
	}
	for i := range w.talks {
		want := w.talks[i].talk(i + 1)
		got := talkOf(t, x, i+1)
		if len(want.Config.Counts) == 0 && len(got.Config.Counts) == 0 {
			want.Config.Counts, got.Config.Counts = nil, nil
		}
		if !reflect.DeepEqual(got, want) {
			t.Fatalf("Talk(%d): %+v, want %+v", i+1, got, want)
		}
		stands(t, x, i+1, api.Status{State: want.State, Sends: len(want.Sends), Acked: want.Acked, Got: want.Got, Turn: want.Config.Turn, History: len(want.History), Code: want.Config.Code})
		watches(t, x, i+1, 0, 99, want.History...)
	}
	for client := range w.last {
		if got := x.Last(client); got != w.last[client] {
			t.Fatalf("Last(%d): %+v, want %+v", client, got, w.last[client])
		}
	}
}

// texts: dialogues that go on for long, and such that soon end; and two that are none.
func texts() []string {
	return []string{
		dialogue,
		lines(`a:/send "x"/inc n/expect {/"ab" goto a/re "c+" goto b/timeout 3 goto c/}/b:/if n < 4 goto a/exit 5/c:/send "late"/expect {/glob "a?a" goto a/}`),
		lines(`a:/send "1"/send "2"/send "3"/send "4"/expect {/"a" goto a/timeout 1 goto a/}`),
		lines(`a:/expect {/timeout 1 goto b/}/b:/send "x"/goto a`),
		lines("a:/" + strings.Repeat(`send "s"/`, 60) + `expect {/"a" goto b/}/b:/send "t"/exit 9`),
		lines("a:/goto b"), "?",
	}
}

// command: some command; mostly one that comes next.
func (d *dice) command(w *world) api.Command {
	talk := d.below(len(w.talks)+1) + d.below(2)
	var x told
	if talk >= 1 && talk <= len(w.talks) {
		x = w.talks[talk-1]
	}
	client := d.below(3)
	request := max(w.last[client].Request+1-d.below(3)*d.below(2), 1)
	switch d.below(12) {
	case 0, 1:
		l := texts()
		return submit(client, request, l[d.below(len(l))])
	case 2:
		if d.below(3) == 0 {
			return cancel(client, request, talk)
		}
		return ack(talk, d.below(70))
	case 3, 4:
		return ack(talk, x.acked+d.below(4))
	case 5, 6, 7:
		return timeout(talk, max(x.talk(0).Config.Turn-d.below(2)*d.below(2), 0))
	}
	s := ""
	for range d.below(7) {
		s += string("abcok"[d.below(5)])
	}
	return output(talk, max(x.got+2-d.below(6), 0), s)
}

// P24.6 to P24.11: many commands, held against the chapter's words; a table that was saved or copied on the way answers alike from then on.
func TestAsSaid(t *testing.T) {
	states := map[uint8]int{}
	for seed := range 60 {
		d := dice(seed + 1)
		w, x := &world{}, table.New()
		var twins []*table.Table
		for i := range 250 {
			c := d.command(w)
			data := form(t, c)
			want, wantOk := w.apply(c)
			for _, y := range append([]*table.Table{x}, twins...) {
				if got, ok := y.Apply(data); got != want || ok != wantOk {
					t.Fatalf("seed %d: Apply(%+v): %+v, %v; want %+v", seed, c, got, ok, want)
				}
			}
			if i%10 == 0 {
				w.same(t, x)
			}
			if i == 80 {
				y, e := table.Load(x.Save())
				if e != api.OK {
					t.Fatalf("seed %d: Load: %d", seed, e)
				}
				twins = append(twins, y, x.Copy())
			}
		}
		for _, y := range append(twins, x) {
			w.same(t, y)
			if y.Save() != x.Save() {
				t.Fatalf("seed %d: twins are not alike", seed)
			}
		}
		for id := 1; id <= x.Len(); id++ {
			states[talkOf(t, x, id).State]++
		}
	}
	for state := api.TalkRuns; state <= api.TalkStopped; state++ {
		if states[state] < 5 {
			t.Errorf("%d talks of the state %d", states[state], state)
		}
	}
}

// P24.9: commands of a client that come again, at whatever place, take effect once, and are answered as before.
func TestOnce(t *testing.T) {
	for seed := range 200 {
		d := dice(seed + 1)
		var l []api.Command
		for request := range 5 {
			for client := range 3 {
				c := submit(client, request+1, texts()[d.below(7)])
				if d.below(3) == 0 {
					c = cancel(client, request+1, d.below(4))
				}
				l = append(l, c)
			}
		}
		once, often := table.New(), table.New()
		for i, c := range l {
			want, _ := once.Apply(form(t, c))
			answers(t, often, c, want)
			for _, again := range []int{i, max(i-1, 0), max(i-2, 0), d.below(i + 1)} {
				c := l[again]
				last := often.Last(c.Client)
				if c.Request == last.Request {
					answers(t, often, c, last)
				} else {
					answers(t, often, c, api.Result{Client: c.Client, Request: c.Request, Op: c.Op, Err: api.ErrOld})
				}
			}
		}
		if once.Save() != often.Save() {
			t.Fatalf("seed %d: something took effect twice", seed)
		}
	}
}

// P24.10: behind a cancel nothing more is meant.
func TestCancelled(t *testing.T) {
	for _, text := range texts()[:5] {
		x := table.New()
		asks(t, x, submit(0, 1, text), api.Result{Talk: 1})
		asks(t, x, cancel(0, 2, 1), api.Result{Talk: 1})
		was := talkOf(t, x, 1)
		for at := range 20 {
			tells(t, x, output(1, 3*at, "abc"))
			tells(t, x, timeout(1, at))
			tells(t, x, ack(1, 1))
		}
		y := talkOf(t, x, 1)
		if !slices.Equal(y.Sends, was.Sends) || !sameList(y.History, was.History) || y.Got != was.Got || !reflect.DeepEqual(y.Config, was.Config) {
			t.Errorf("%+v, want %+v", y, was)
		}
	}
}
