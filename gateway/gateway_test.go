package gateway_test

import (
	"math"
	"reflect"
	"slices"
	"strings"
	"testing"

	"dragoman/api"
	"dragoman/disk"
	"dragoman/gateway"
	"dragoman/journal"
	"dragoman/message"
	"dragoman/ring"
)

func want(t *testing.T, what string, got, want api.Errno) {
	t.Helper()
	if got != want {
		t.Errorf("%s: the error %d, want %d", what, got, want)
	}
}

// done: calls that must answer OK.
func done(t *testing.T, l ...api.Errno) {
	t.Helper()
	for _, e := range l {
		want(t, "a call", e, api.OK)
	}
}

func open(t *testing.T, d *disk.Disk) *gateway.Gateway {
	t.Helper()
	g, e := gateway.Open(d)
	if g == nil || e != api.OK {
		t.Fatalf("Open: %v, %d", g, e)
	}
	return g
}

// said: the output of a terminal that said this.
func said(t *testing.T, limit int, s string) *ring.Ring {
	t.Helper()
	r, e := ring.New(limit)
	if e != api.OK {
		t.Fatalf("a ring of the limit %d: %d", limit, e)
	}
	r.Put(s)
	return r
}

func fence(term, epoch int) api.Fence { return api.Fence{Term: term, Epoch: epoch} }

func attach(talk int, f api.Fence) api.Message {
	return api.Message{Kind: api.MsgAttach, From: 1, To: 3, Talk: talk, Token: f}
}

func send(talk int, f api.Fence, seq int, text string) api.Message {
	return api.Message{Kind: api.MsgSend, From: 1, To: 3, Talk: talk, Token: f, Seq: seq, Data: text}
}

func pull(talk int, f api.Fence, at int) api.Message {
	return api.Message{Kind: api.MsgPull, From: 1, To: 3, Talk: talk, Token: f, At: at}
}

// answer: to a question of the node 1.
func answer(m api.Message, seq int) api.Message {
	return api.Message{Kind: m.Kind + 1, From: 3, To: m.From, Talk: m.Talk, Token: m.Token, Seq: seq}
}

func fails(m api.Message, e api.Errno) api.Message {
	m.Err = e
	return m
}

// does: a question is answered so.
func does(t *testing.T, what string, g *gateway.Gateway, m api.Message, out *ring.Ring, wanted api.Message) {
	t.Helper()
	if got, e := g.Do(m, out); !reflect.DeepEqual(got, wanted) || e != api.OK {
		t.Errorf("%s: %+v, %d; want %+v", what, got, e, wanted)
	}
}

// refuses: a question is not answered.
func refuses(t *testing.T, what string, g *gateway.Gateway, m api.Message, out *ring.Ring, e api.Errno) {
	t.Helper()
	if got, gotE := g.Do(m, out); !reflect.DeepEqual(got, api.Message{}) || gotE != e {
		t.Errorf("%s: %+v, %d; want the error %d", what, got, gotE, e)
	}
}

func right(t *testing.T, g *gateway.Gateway, talk int, f api.Fence, taken int) {
	t.Helper()
	if got, n := g.Right(talk); got != f || n != taken {
		t.Errorf("Right(%d): %v, %d; want %v, %d", talk, got, n, f, taken)
	}
}

func has(t *testing.T, g *gateway.Gateway, l ...api.Taken) {
	t.Helper()
	if got := slices.Collect(g.Taken()); !slices.Equal(got, l) {
		t.Errorf("Taken: %v, want %v", got, l)
	}
}

// The chapter's examples.
func TestExamples(t *testing.T) {
	d := disk.New()
	g := open(t, d)
	m := attach(1, fence(2, 1))
	m.From = 0
	does(t, "MsgAttach", g, m, nil, api.Message{Kind: api.MsgAttached, From: 3, Talk: 1, Token: fence(2, 1)})
	first := send(1, fence(2, 1), 1, "a")
	does(t, "the first send", g, first, nil, answer(first, 1))
	does(t, "the same again", g, first, nil, answer(first, 1))
	third := send(1, fence(2, 1), 3, "c")
	does(t, "the number 3", g, third, nil, fails(answer(third, 1), api.ErrSeq))
	low := send(1, fence(1, 5), 2, "b")
	refusal := fails(answer(low, 1), api.ErrFence)
	refusal.Token = fence(2, 1)
	does(t, "{1, 5}", g, low, nil, refusal)
	output := answer(pull(1, fence(2, 2), 1), 1)
	output.At, output.Data, output.Total = 1, "ello", 5
	does(t, "MsgPull", g, pull(1, fence(2, 2), 1), said(t, 1024, "hello"), output)
	right(t, g, 1, fence(2, 2), 1)
	done(t, d.Crash(nil, 0))
	g = open(t, d)
	right(t, g, 1, fence(2, 1), 1)
	refuses(t, "MsgVote", g, api.Message{Kind: api.MsgVote, Talk: 1, Token: fence(2, 1)}, nil, api.ErrArg)
}

// R4: of nil.
func TestNil(t *testing.T) {
	var g *gateway.Gateway
	right(t, g, 1, api.Fence{}, 0)
	refuses(t, "a question", g, attach(1, fence(1, 1)), nil, api.ErrNil)
	refuses(t, "none", g, api.Message{}, said(t, 9, "abc"), api.ErrNil)
	if g.Taken() == nil {
		t.Fatal("Taken of nil is nil")
	}
	has(t, g)
}

// P23.1: the errors of the journal, and what it has.
func TestOpen(t *testing.T) {
	if g, e := gateway.Open(nil); g != nil || e != api.ErrNil {
		t.Errorf("Open of no disk: %v, %d", g, e)
	}
	d := disk.New()
	done(t, d.Power(0))
	if g, e := gateway.Open(d); g != nil || e != api.ErrOff {
		t.Errorf("Open of a disk that is off: %v, %d", g, e)
	}
	d = disk.New()
	j, e := journal.Open(d)
	l := []api.Taken{{Talk: 1, Token: fence(2, 3), Seq: 1, Text: "a"}, {Talk: 5, Token: fence(1, 1), Seq: 1, Text: "b"}, {Talk: 1, Token: fence(4, 1), Seq: 2, Text: "c"}}
	done(t, e)
	for _, x := range l {
		done(t, j.Add(x))
	}
	g := open(t, d)
	has(t, g, l...)
	right(t, g, 1, fence(4, 1), 2)
	right(t, g, 5, fence(1, 1), 1)
	for _, talk := range []int{0, 2, -1, 1 << 20, math.MaxInt, math.MinInt} {
		right(t, g, talk, api.Fence{}, 0)
	}
	done(t, d.Append(0, "torn"), d.Power(1))
	if g, e := gateway.Open(d); g != nil || e != api.ErrOff {
		t.Errorf("Open with power for one step of two: %v, %d", g, e)
	}
}

// P23.3: what is no question: each number at its limits, and one past them.
func TestQuestions(t *testing.T) {
	d := disk.New()
	g := open(t, d)
	for kind := range 256 {
		m := attach(1, fence(1, 1))
		m.Kind = uint8(kind)
		if kind == 7 || kind == 9 || kind == 11 {
			continue
		}
		refuses(t, "a kind", g, m, said(t, 9, "abc"), api.ErrArg)
	}
	fields := []struct {
		field       func(*api.Message) *int
		least, most int
	}{
		{func(m *api.Message) *int { return &m.From }, 0, 15},
		{func(m *api.Message) *int { return &m.Talk }, 1, 1 << 20},
		{func(m *api.Message) *int { return &m.Token.Term }, 1, 1 << 40},
		{func(m *api.Message) *int { return &m.Token.Epoch }, 1, 1 << 20},
	}
	for _, x := range fields {
		for _, base := range []api.Message{attach(1, fence(1, 1)), send(1, fence(1, 1), 1, "a"), send(1, fence(1, 1), 1, strings.Repeat("x", 65)), pull(1, fence(1, 1), 0)} {
			for _, n := range []int{x.least - 1, -1, math.MinInt, x.most + 1, math.MaxInt} {
				m := base
				*x.field(&m) = n
				refuses(t, "past a limit", g, m, nil, api.ErrArg)
			}
		}
	}
	if d.Ops() != 0 {
		t.Errorf("%d steps", d.Ops())
	}
	right(t, g, 1, api.Fence{}, 0)
	for _, x := range fields {
		for _, n := range []int{x.least, x.most} {
			g := open(t, disk.New())
			m := send(1, fence(1, 1), 1, "a")
			*x.field(&m) = n
			does(t, "at a limit", g, m, nil, answer(m, 1))
			right(t, g, m.Talk, m.Token, 1)
		}
	}
	// All else of a message is not asked.
	m := api.Message{Kind: api.MsgAttach, From: 1, To: -7, Term: -1, Index: 9, LogTerm: 9, Commit: 9, Stamp: 9, Good: true, Entries: make([]api.Entry, 9), At: -9, Total: 9, Data: "data", Talk: 2, Token: fence(1, 1), Seq: -4, Client: 9, Request: 9, Op: 9, Err: 9, Leader: 9}
	does(t, "all else", g, m, nil, answer(m, 0))
}

// P23.3: a lower right is refused, with the highest one, and leaves no trace.
func TestFence(t *testing.T) {
	high := fence(5, 5)
	for _, how := range []api.Message{attach(1, high), send(1, high, 1, "a"), send(1, high, 9, "a"), send(1, high, 1, strings.Repeat("x", 65)), pull(1, high, 0), pull(1, high, 99)} {
		g := open(t, disk.New())
		before, e := g.Do(how, said(t, 9, "abc"))
		done(t, e)
		taken := 0
		if how.Kind == api.MsgSend && before.Err == api.OK {
			taken = 1
		}
		right(t, g, 1, high, taken)
		for _, low := range []api.Fence{fence(5, 4), fence(4, 9), fence(1, 1)} {
			for _, m := range []api.Message{attach(1, low), send(1, low, taken+1, "b"), send(1, low, taken, "b"), send(1, low, taken+1, strings.Repeat("x", 65)), pull(1, low, 0), pull(1, low, -1), pull(1, low, 99)} {
				refusal := fails(answer(m, taken), api.ErrFence)
				refusal.Token = high
				does(t, "a lower right", g, m, said(t, 9, "abc"), refusal)
			}
			right(t, g, 1, high, taken)
		}
		does(t, "another talk", g, attach(2, fence(1, 1)), nil, answer(attach(2, fence(1, 1)), 0))
		for _, same := range []api.Fence{high, fence(5, 6), fence(6, 1)} {
			does(t, "a right that is not lower", g, attach(1, same), nil, answer(attach(1, same), taken))
			right(t, g, 1, same, taken)
		}
	}
}

// P23.2: the higher one of what was seen and what the journal has; what was seen is gone when it is opened anew.
func TestRight(t *testing.T) {
	d := disk.New()
	g := open(t, d)
	done1 := func(m api.Message) {
		t.Helper()
		if a, e := g.Do(m, nil); e != api.OK || a.Err != api.OK {
			t.Errorf("%+v: %+v, %d", m, a, e)
		}
	}
	done1(send(1, fence(2, 1), 1, "a"))
	done1(attach(1, fence(3, 7)))
	right(t, g, 1, fence(3, 7), 1)
	g = open(t, d)
	right(t, g, 1, fence(2, 1), 1)
	done1(send(1, fence(2, 1), 2, "b"))
	done1(attach(1, fence(2, 1)))
	right(t, g, 1, fence(2, 1), 2)
}

// P23.3, MsgAttach: how much output there is, and how many sends were taken.
func TestAttach(t *testing.T) {
	g := open(t, disk.New())
	f := fence(1, 1)
	for seq := 1; seq < 4; seq++ {
		m := attach(1, f)
		a := answer(m, seq-1)
		does(t, "no output", g, m, nil, a)
		a.Total = 5
		does(t, "an output", g, m, said(t, 3, "hello"), a)
		if _, e := g.Do(send(1, f, seq, "x"), nil); e != api.OK {
			t.Errorf("a send: %d", e)
		}
	}
}

// P23.3, MsgSend: what comes next is taken; what was taken is answered once more; all else is refused.
func TestSend(t *testing.T) {
	d := disk.New()
	g := open(t, d)
	f := fence(1, 1)
	long := strings.Repeat("x", 65)
	out := said(t, 9, "hello")
	var l []api.Taken
	check := func(what string, seq int, text string, got int, e api.Errno) {
		t.Helper()
		m := send(1, f, seq, text)
		was := d.Ops()
		does(t, what, g, m, out, fails(answer(m, got), e))
		if d.Ops() != was {
			t.Errorf("%s: %d steps", what, d.Ops()-was)
		}
		has(t, g, l...)
	}
	for taken := range 4 {
		for _, seq := range []int{0, -1, math.MinInt, taken + 2, taken + 3, 1 << 20, math.MaxInt} {
			check("another number", seq, "no", taken, api.ErrSeq)
			check("another number, a long text", seq, long, taken, api.ErrLong)
		}
		for seq := 1; seq <= taken; seq++ {
			check("one that was taken", seq, "other", taken, api.OK)
			check("one that was taken, a long text", seq, long, taken, api.ErrLong)
		}
		check("a long text", taken+1, long, taken, api.ErrLong)
		text := []string{"a", "", long[1:], "d"}[taken]
		m := send(1, f, taken+1, text)
		was := d.Ops()
		does(t, "what comes next", g, m, out, answer(m, taken+1))
		if d.Ops() != was+2 || d.Loose(0) != 0 {
			t.Errorf("%d steps, %d loose", d.Ops()-was, d.Loose(0))
		}
		l = append(l, api.Taken{Talk: 1, Token: f, Seq: taken + 1, Text: text})
		has(t, g, l...)
		f.Epoch++
	}
	// A right that is higher is taken with the send.
	m := send(1, fence(9, 1), 5, "e")
	does(t, "a higher right", g, m, nil, answer(m, 5))
	right(t, g, 1, fence(9, 1), 5)
}

// P23.3, MsgPull: what the ring answers, 64 bytes at most.
func TestPull(t *testing.T) {
	g := open(t, disk.New())
	f := fence(1, 1)
	output := strings.Repeat("0123456789", 20)
	r := said(t, 100, output)
	for _, c := range []struct {
		at, from, to int
	}{
		{100, 100, 164}, {101, 101, 165}, {136, 136, 200}, {137, 137, 200}, {199, 199, 200}, {200, 200, 200}, {99, 100, 164}, {0, 100, 164}, {-5, 100, 164}, {math.MinInt, 100, 164},
	} {
		m := pull(1, f, c.at)
		a := answer(m, 0)
		a.At, a.Data, a.Total = c.from, output[c.from:c.to], 200
		does(t, "MsgPull", g, m, r, a)
	}
	for _, at := range []int{201, math.MaxInt} {
		a := fails(answer(pull(1, f, at), 0), api.ErrRange)
		a.Total = 200
		does(t, "behind the end", g, pull(1, f, at), r, a)
	}
	for _, at := range []int{0, 5, -1} {
		does(t, "no output", g, pull(1, f, at), nil, fails(answer(pull(1, f, at), 0), api.ErrNil))
	}
	does(t, "an output of no bytes", g, pull(1, f, 0), said(t, 9, ""), answer(pull(1, f, 0), 0))
	if r.First() != 100 || r.End() != 200 {
		t.Error("the output has changed")
	}
}

// P23.3: with an error of the disk there is no answer, then or later; what was seen last stays.
func TestOff(t *testing.T) {
	for n := range 2 {
		d := disk.New()
		g := open(t, d)
		first := send(1, fence(1, 1), 1, "a")
		does(t, "the first send", g, first, nil, answer(first, 1))
		does(t, "another talk", g, attach(2, fence(7, 7)), nil, answer(attach(2, fence(7, 7)), 0))
		done(t, d.Power(n))
		// What does nothing with the disk is answered, also by one whose disk is off.
		does(t, "MsgAttach", g, attach(1, fence(1, 2)), nil, answer(attach(1, fence(1, 2)), 1))
		again := send(1, fence(1, 2), 1, "a")
		does(t, "one that was taken", g, again, nil, answer(again, 1))
		refuses(t, "a send", g, send(1, fence(3, 1), 2, "b"), nil, api.ErrOff)
		right(t, g, 1, fence(1, 2), 1)
		has(t, g, api.Taken{Talk: 1, Token: fence(1, 1), Seq: 1, Text: "a"})
		done(t, d.Power(-1))
		was := d.Ops()
		for _, m := range []api.Message{send(1, fence(3, 1), 2, "b"), attach(1, fence(3, 1)), attach(5, fence(3, 1)), pull(1, fence(1, 1), 0), {}, {Kind: api.MsgVote}} {
			refuses(t, "behind an error", g, m, nil, api.ErrOff)
		}
		if d.Ops() != was {
			t.Errorf("%d steps behind an error", d.Ops()-was)
		}
		right(t, g, 1, fence(1, 2), 1)
		right(t, g, 2, fence(7, 7), 0)
		right(t, g, 5, api.Fence{}, 0)
	}
}

// P1 of the whole: the power goes between a send and its sync, and comes again without a crash: what the gateway has then it does not lose.
func TestAgain(t *testing.T) {
	d := disk.New()
	g := open(t, d)
	done(t, d.Power(1))
	refuses(t, "a send", g, send(1, fence(1, 1), 1, "a"), nil, api.ErrOff)
	done(t, d.Power(0))
	if g, e := gateway.Open(d); g != nil || e != api.ErrOff {
		t.Errorf("Open of a disk that is off: %v, %d", g, e)
	}
	done(t, d.Power(1))
	g = open(t, d)
	taken := api.Taken{Talk: 1, Token: fence(1, 1), Seq: 1, Text: "a"}
	has(t, g, taken)
	does(t, "the same again, by a disk that is off", g, send(1, fence(1, 1), 1, "a"), nil, answer(send(1, fence(1, 1), 1, "a"), 1))
	done(t, d.Crash(nil, 0))
	has(t, open(t, d), taken)
	was := d.Ops()
	open(t, d)
	if d.Ops() != was {
		t.Error("a step where nothing is loose")
	}
}

// P23.3, R2: an error of the disk's ahead of all, and what is no question ahead of its right.
func TestOrder(t *testing.T) {
	g := open(t, disk.New())
	does(t, "MsgAttach", g, attach(1, fence(5, 1)), nil, answer(attach(1, fence(5, 1)), 0))
	m := attach(1, fence(1, 1))
	m.From = 16
	refuses(t, "no question, and a lower right", g, m, nil, api.ErrArg)
	m = attach(1, fence(1, 1))
	m.Kind = api.MsgAttached
	refuses(t, "no question, and a lower right", g, m, nil, api.ErrArg)
}

// What is answered is a message that may be.
func TestAnswersMayBe(t *testing.T) {
	g := open(t, disk.New())
	out := said(t, 1024, strings.Repeat("x", 3000))
	for _, m := range []api.Message{attach(1<<20, fence(1<<40, 1<<20)), send(1<<20, fence(1<<40, 1<<20), 1, "a"), send(1<<20, fence(1<<40, 1<<20), math.MinInt, "a"), pull(1<<20, fence(1<<40, 1<<20), math.MinInt), pull(1<<20, fence(1<<40, 1<<20), math.MaxInt), attach(1<<20, fence(1, 1))} {
		a, e := g.Do(m, out)
		done(t, e, message.Check(a))
	}
}
