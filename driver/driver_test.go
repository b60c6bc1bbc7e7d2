package driver_test

import (
	"math"
	"reflect"
	"strings"
	"testing"

	"dragoman/api"
	"dragoman/driver"
	"dragoman/table"
)

// lines: a text of lines with / for the byte 10.
func lines(s string) string { return strings.ReplaceAll(s, "/", "\n") }

// dialogue is that of chapter 24.
var dialogue = lines(`a:/send "x"/expect {/"ok" goto b/timeout 5 goto b/}/b:/exit 7`)

func open(t *testing.T, self, term int) *driver.Driver {
	t.Helper()
	d, e := driver.New(self, term)
	if d == nil || e != api.OK {
		t.Fatalf("New(%d, %d): %v, %d", self, term, d, e)
	}
	return d
}

// apply: commands are done.
func apply(t *testing.T, x *table.Table, l ...api.Command) {
	t.Helper()
	for _, c := range l {
		s, e := table.Encode(c)
		if e != api.OK {
			t.Fatalf("Encode(%+v): %d", c, e)
		}
		x.Apply(s)
	}
}

// with: a table of these dialogues.
func with(t *testing.T, texts ...string) *table.Table {
	t.Helper()
	x := table.New()
	for i, s := range texts {
		apply(t, x, api.Command{Op: api.OpSubmit, Client: 1, Request: i + 1, Data: s})
		if x.Len() != i+1 {
			t.Fatalf("%q is refused", s)
		}
	}
	return x
}

func fence(term, epoch int) api.Fence { return api.Fence{Term: term, Epoch: epoch} }

// What a driver of the node 0 asks about a talk.
func attach(talk int, f api.Fence) api.Message {
	return api.Message{Kind: api.MsgAttach, To: 3, Talk: talk, Token: f}
}

func send(talk int, f api.Fence, seq int, s string) api.Message {
	return api.Message{Kind: api.MsgSend, To: 3, Talk: talk, Token: f, Seq: seq, Data: s}
}

func pull(talk int, f api.Fence, at int) api.Message {
	return api.Message{Kind: api.MsgPull, To: 3, Talk: talk, Token: f, At: at}
}

// What the gateway answers.
func attached(talk int, f api.Fence, seq int) api.Message {
	return api.Message{Kind: api.MsgAttached, From: 3, Talk: talk, Token: f, Seq: seq}
}

func taken(talk int, f api.Fence, seq int) api.Message {
	return api.Message{Kind: api.MsgSent, From: 3, Talk: talk, Token: f, Seq: seq}
}

func output(talk int, f api.Fence, at int, s string) api.Message {
	return api.Message{Kind: api.MsgOutput, From: 3, Talk: talk, Token: f, At: at, Data: s}
}

func fails(m api.Message, e api.Errno) api.Message {
	m.Err = e
	return m
}

func ackOf(talk, at int) api.Command { return api.Command{Op: api.OpAck, Talk: talk, At: at} }
func outputOf(talk, at int, s string) api.Command {
	return api.Command{Op: api.OpOutput, Talk: talk, At: at, Data: s}
}
func timeoutOf(talk, turn int) api.Command {
	return api.Command{Op: api.OpTimeout, Talk: talk, At: turn}
}

// said holds what a driver answered against what it must.
type said struct {
	send    []api.Message
	propose []api.Command
}

func sends(l ...api.Message) said { return said{send: l} }

func (s said) and(l ...api.Command) said {
	s.propose = l
	return s
}

func (s said) must(t *testing.T, what string, send []api.Message, propose []api.Command) {
	t.Helper()
	if len(send) != len(s.send) || len(send) > 0 && !reflect.DeepEqual(send, s.send) || len(propose) != len(s.propose) || len(propose) > 0 && !reflect.DeepEqual(propose, s.propose) {
		t.Errorf("%s: sent %+v, proposed %+v; want %+v, %+v", what, send, propose, s.send, s.propose)
	}
}

// ticks: each one answers the next of these.
func ticks(t *testing.T, d *driver.Driver, x *table.Table, l ...said) {
	t.Helper()
	for i, want := range l {
		was := x.Save()
		send, propose := d.Tick(x)
		want.must(t, "the tick "+string(rune('0'+i)), send, propose)
		if x.Save() != was {
			t.Error("a tick changes the table")
		}
	}
}

func hears(t *testing.T, d *driver.Driver, x *table.Table, m api.Message, want said) {
	t.Helper()
	was := x.Save()
	send, propose := d.Hear(x, m)
	want.must(t, "Hear", send, propose)
	if x.Save() != was {
		t.Error("what is heard changes the table")
	}
}

var nothing said

// The chapter's examples.
func TestExamples(t *testing.T) {
	d, x := open(t, 0, 2), with(t, dialogue)
	f := fence(2, 1)
	ticks(t, d, x, sends(attach(1, f)))
	hears(t, d, x, attached(1, f, 0), sends(send(1, f, 1, "x")))
	hears(t, d, x, taken(1, f, 1), sends(pull(1, f, 0)).and(ackOf(1, 1)))
	hears(t, d, x, output(1, f, 0, "no"), nothing.and(outputOf(1, 0, "no")))
	hears(t, d, x, output(1, fence(1, 1), 0, "nook"), nothing)
	ticks(t, d, x, nothing, sends(pull(1, f, 2)), nothing, sends(pull(1, f, 2)), nothing)
	hears(t, d, x, fails(taken(1, fence(3, 1), 1), api.ErrFence), nothing)
	ticks(t, d, x, nothing, nothing, sends(attach(1, fence(2, 2))), nothing)
}

// R4, and of no table.
func TestNil(t *testing.T) {
	var d *driver.Driver
	x := with(t, dialogue)
	ticks(t, d, x, nothing)
	hears(t, d, x, attached(1, fence(1, 1), 0), nothing)
	ticks(t, d, nil, nothing)
	d = open(t, 0, 1)
	ticks(t, d, nil, nothing)
	hears(t, d, nil, attached(1, fence(1, 1), 0), nothing)
	ticks(t, d, x, sends(attach(1, fence(1, 1))))
	hears(t, d, nil, attached(1, fence(1, 1), 0), nothing)
	ticks(t, d, nil, nothing)
	hears(t, d, x, attached(1, fence(1, 1), 0), sends(send(1, fence(1, 1), 1, "x")))
}

// P25.1: each number at its limits, and one past them.
func TestNew(t *testing.T) {
	for _, c := range [][2]int{{-1, 1}, {3, 1}, {0, 0}, {0, -1}, {2, 1<<40 + 1}, {math.MaxInt, 1}, {0, math.MinInt}} {
		if d, e := driver.New(c[0], c[1]); d != nil || e != api.ErrArg {
			t.Errorf("New(%d, %d): %v, %d", c[0], c[1], d, e)
		}
	}
	for self := range 3 {
		for _, term := range []int{1, 2, 1 << 40} {
			d := open(t, self, term)
			m := attach(1, fence(term, 1))
			m.From = self
			ticks(t, d, with(t, dialogue), sends(m))
		}
	}
}

// P25.2: talk by talk, those alone that are driven.
func TestDriven(t *testing.T) {
	ended := lines(`a:/send "y"/exit 0`)
	x := with(t, dialogue, ended, dialogue, ended, lines("a:/"+strings.Repeat(`send "s"/`, 65)+"exit 0"), lines("a:/exit 0"), dialogue)
	apply(t, x, api.Command{Op: api.OpCancel, Client: 2, Request: 1, Talk: 3}, ackOf(4, 1))
	d := open(t, 0, 1)
	// Of a talk that is not driven no fence is issued either.
	ticks(t, d, x, sends(attach(1, fence(1, 1)), attach(2, fence(1, 2)), attach(7, fence(1, 3))), nothing, nothing, nothing,
		sends(attach(1, fence(1, 4)), attach(2, fence(1, 5)), attach(7, fence(1, 6))))
	// One that has ended is sent what it meant, and asked for no output.
	f := fence(1, 5)
	hears(t, d, x, attached(2, f, 0), sends(send(2, f, 1, "y")))
	ticks(t, d, x, nothing, nothing, nothing)
	ticks(t, d, x, sends(attach(1, fence(1, 7)), send(2, f, 1, "y"), attach(7, fence(1, 8))))
	hears(t, d, x, taken(2, f, 1), nothing.and(ackOf(2, 1)))
	apply(t, x, ackOf(2, 1))
	ticks(t, d, x, nothing, nothing, nothing, sends(attach(1, fence(1, 9)), attach(7, fence(1, 10))))
}

// P25.2: no tick goes by for a line whose talk is not driven.
func TestIdleUndriven(t *testing.T) {
	x := with(t, dialogue)
	d := open(t, 0, 1)
	ticks(t, d, x, sends(attach(1, fence(1, 1))), nothing)
	stopped := x.Copy()
	apply(t, stopped, api.Command{Op: api.OpCancel, Client: 2, Request: 1, Talk: 1})
	ticks(t, d, stopped, nothing, nothing, nothing, nothing, nothing)
	ticks(t, d, x, nothing, nothing, sends(attach(1, fence(1, 2))))
}

// P25.2: what is asked again, and when.
func TestRetry(t *testing.T) {
	d, x := open(t, 0, 1), with(t, dialogue)
	f := fence(1, 2)
	ticks(t, d, x, sends(attach(1, fence(1, 1))), nothing, nothing, nothing, sends(attach(1, f)), nothing)
	hears(t, d, x, attached(1, fence(1, 1), 0), nothing) // not its fence any more
	hears(t, d, x, attached(1, f, 0), sends(send(1, f, 1, "x")))
	again := sends(send(1, f, 1, "x"))
	ticks(t, d, x, nothing, nothing, nothing, again, nothing, nothing, nothing, again)
	hears(t, d, x, attached(1, f, 0), again) // idle begins anew
	ticks(t, d, x, nothing, nothing, nothing, again)
	hears(t, d, x, taken(1, f, 1), sends(pull(1, f, 0)).and(ackOf(1, 1)))
	p := sends(pull(1, f, 0))
	ticks(t, d, x, nothing, p, nothing, p, nothing.and(timeoutOf(1, 0)), p)
}

// P25.2: a turn is over when it was seen for as many ticks as its expect waits; just once a turn, and each turn anew.
func TestLate(t *testing.T) {
	text := lines(`a:/expect {/"ok" goto a/"no" goto b/timeout 3 goto a/}/b:/expect {/"ok" goto a/}`)
	d, x := open(t, 0, 1), with(t, text)
	f := fence(1, 1)
	ticks(t, d, x, sends(attach(1, f)), nothing, nothing) // no turn is seen that is not attached
	hears(t, d, x, attached(1, f, 0), sends(pull(1, f, 0)))
	p := sends(pull(1, f, 0))
	late := func(turn int) said { return nothing.and(timeoutOf(1, turn)) }
	ticks(t, d, x, nothing, p, late(0), p, nothing, p)
	apply(t, x, timeoutOf(1, 0))
	ticks(t, d, x, nothing, p, late(1), p)
	apply(t, x, timeoutOf(1, 1))
	ticks(t, d, x, nothing, p)
	// Output that is not in the table yet goes ahead of the time; the ticks go on.
	hears(t, d, x, output(1, f, 0, "o"), nothing.and(outputOf(1, 0, "o")))
	p = sends(pull(1, f, 1))
	ticks(t, d, x, nothing, p, nothing, p)
	apply(t, x, outputOf(1, 0, "o"))
	ticks(t, d, x, late(2), p)
	// Another turn begins while the timeout is on its way.
	hears(t, d, x, output(1, f, 1, "k"), nothing.and(outputOf(1, 1, "k")))
	apply(t, x, outputOf(1, 1, "k"))
	p = sends(pull(1, f, 2))
	ticks(t, d, x, nothing, p, late(3))
	// An expect without a timeout waits for ever.
	apply(t, x, outputOf(1, 2, "no"))
	p = sends(pull(1, f, 4))
	for range 10 {
		ticks(t, d, x, p, nothing)
	}
}

// P25.2: no turn is seen while something is to be sent, or who is asked is not attached; what was seen of it stays.
func TestWaitsStay(t *testing.T) {
	d, x := open(t, 0, 1), with(t, dialogue)
	f := fence(1, 1)
	p := sends(pull(1, f, 0))
	ticks(t, d, x, sends(attach(1, f)))
	hears(t, d, x, attached(1, f, 0), sends(send(1, f, 1, "x")))
	ticks(t, d, x, nothing, nothing, nothing, sends(send(1, f, 1, "x")), nothing, nothing)
	hears(t, d, x, taken(1, f, 1), p.and(ackOf(1, 1)))
	ticks(t, d, x, nothing, p, nothing, p)
	hears(t, d, x, fails(attached(1, fence(1, 2), 9), api.ErrFence), nothing)
	f = fence(1, 2)
	ticks(t, d, x, nothing, nothing, nothing, sends(attach(1, f)), nothing)
	p = sends(pull(1, f, 0))
	hears(t, d, x, attached(1, f, 1), p) // its ack was proposed already
	ticks(t, d, x, nothing.and(timeoutOf(1, 0)), p)
}

// P25.3: what is not of the line's fence, or not of a talk that there is.
func TestHearOthers(t *testing.T) {
	d, x := open(t, 0, 2), with(t, dialogue)
	hears(t, d, x, attached(1, api.Fence{}, 0), nothing) // the first fence of a line is of no term
	hears(t, d, x, taken(1, api.Fence{}, 1), nothing)
	hears(t, d, x, output(1, api.Fence{}, 0, "ok"), nothing)
	f := fence(2, 1)
	ticks(t, d, x, sends(attach(1, f)))
	for _, other := range []api.Fence{{}, fence(2, 2), fence(1, 1), fence(2, 0), fence(3, 1)} {
		hears(t, d, x, attached(1, other, 1), nothing)
		hears(t, d, x, taken(1, other, 1), nothing)
		hears(t, d, x, output(1, other, 0, "ok"), nothing)
	}
	for _, talk := range []int{0, 2, -1, math.MaxInt, math.MinInt} {
		hears(t, d, x, attached(talk, f, 0), nothing)
	}
	for kind := range 256 {
		m := attached(1, f, 0)
		m.Kind = uint8(kind)
		if kind != 8 && kind != 10 && kind != 12 {
			hears(t, d, x, m, nothing)
		}
	}
	ticks(t, d, x, nothing, nothing, nothing, sends(attach(1, fence(2, 2))))
}

// P25.3: only a fence that is above its own takes the line away.
func TestFenced(t *testing.T) {
	for _, c := range []struct {
		token api.Fence
		lost  bool
	}{{fence(2, 1), false}, {fence(2, 2), true}, {fence(1, 9), false}, {fence(3, 0), true}, {fence(2, 0), false}, {api.Fence{}, false}} {
		for _, kind := range []uint8{api.MsgAttached, api.MsgSent, api.MsgOutput, api.MsgVote} {
			d, x := open(t, 0, 2), with(t, dialogue)
			f := fence(2, 1)
			ticks(t, d, x, sends(attach(1, f)))
			hears(t, d, x, attached(1, f, 0), sends(send(1, f, 1, "x")))
			// Whatever else it tells is not taken.
			m := fails(taken(1, c.token, 1), api.ErrFence)
			m.Kind = kind
			hears(t, d, x, m, nothing)
			next := send(1, f, 1, "x")
			if c.lost {
				next = attach(1, fence(2, 2))
			}
			ticks(t, d, x, nothing, nothing, nothing, sends(next))
		}
	}
}

// P25.3: how many were taken is proposed once, when it is more than the table and what was proposed, and not more than was meant.
func TestAcks(t *testing.T) {
	text := lines(`a:/send "1"/send "2"/send "3"/send "4"/expect {/"ok" goto a/}`)
	d, x := open(t, 0, 1), with(t, text)
	f := fence(1, 1)
	ticks(t, d, x, sends(attach(1, f)))
	hears(t, d, x, attached(1, f, 0), sends(send(1, f, 1, "1")))
	hears(t, d, x, taken(1, f, -5), sends(send(1, f, 1, "1")))
	hears(t, d, x, taken(1, f, 2), sends(send(1, f, 3, "3")).and(ackOf(1, 2)))
	hears(t, d, x, taken(1, f, 2), sends(send(1, f, 3, "3")))
	hears(t, d, x, attached(1, f, 1), sends(send(1, f, 3, "3"))) // what comes late is no less
	apply(t, x, ackOf(1, 3))
	hears(t, d, x, taken(1, f, 3), sends(send(1, f, 4, "4"))) // the table has it already
	hears(t, d, x, fails(taken(1, f, 3), api.ErrSeq), sends(send(1, f, 4, "4")))
	hears(t, d, x, fails(taken(1, f, 4), api.ErrLong), sends(pull(1, f, 0)).and(ackOf(1, 4)))
	hears(t, d, x, taken(1, f, 5), sends(pull(1, f, 0))) // more than was meant
	hears(t, d, x, taken(1, f, math.MaxInt), sends(pull(1, f, 0)))
}

// P25.3: of a talk that isn't driven it asks next, too.
func TestHearUndriven(t *testing.T) {
	d, x := open(t, 0, 1), with(t, lines(`a:/send "1"/send "2"/expect {/"ok" goto a/}`))
	f := fence(1, 1)
	ticks(t, d, x, sends(attach(1, f)))
	apply(t, x, api.Command{Op: api.OpCancel, Client: 2, Request: 1, Talk: 1})
	hears(t, d, x, attached(1, f, 0), sends(send(1, f, 1, "1")))
	hears(t, d, x, taken(1, f, 1), sends(send(1, f, 2, "2")).and(ackOf(1, 1)))
	ticks(t, d, x, nothing, nothing, nothing, nothing, nothing)
	hears(t, d, x, taken(1, f, 2), nothing.and(ackOf(1, 2)))
	hears(t, d, x, output(1, f, 0, "ok"), nothing)
}

// P25.3: output is proposed as far as it is new.
func TestOutput(t *testing.T) {
	d, x := open(t, 0, 1), with(t, lines(`a:/expect {/"ok" goto a/}`))
	f := fence(1, 1)
	ticks(t, d, x, sends(attach(1, f)))
	// Even ahead of an answer that it is attached.
	hears(t, d, x, output(1, f, 0, "ab"), nothing.and(outputOf(1, 0, "ab")))
	for _, m := range []api.Message{
		output(1, f, 0, "ab"), output(1, f, 0, ""), output(1, f, 2, ""), output(1, f, 1, "b"), output(1, f, -3, "xyz"), output(1, f, math.MinInt, "abc"),
		fails(output(1, f, 0, "abc"), api.ErrRange), fails(output(1, f, 2, "c"), api.ErrNil), fails(output(1, f, 0, "abc"), api.ErrFence),
		output(1, f, 0, strings.Repeat("x", 65)), output(1, f, 2, strings.Repeat("x", 65)),
	} {
		hears(t, d, x, m, nothing)
	}
	hears(t, d, x, attached(1, f, 0), sends(pull(1, f, 2)))
	hears(t, d, x, output(1, f, 1, "bc"), nothing.and(outputOf(1, 1, "bc")))
	long := strings.Repeat("x", 64)
	hears(t, d, x, output(1, f, 9, long), nothing.and(outputOf(1, 9, long)))
	hears(t, d, x, attached(1, f, 0), sends(pull(1, f, 73)))
	apply(t, x, outputOf(1, 70, "and more"))
	hears(t, d, x, output(1, f, 73, "ab"), nothing)
	hears(t, d, x, output(1, f, 77, "!"), nothing)
	hears(t, d, x, attached(1, f, 0), sends(pull(1, f, 78)))
	hears(t, d, x, output(1, f, 77, "!?"), nothing.and(outputOf(1, 77, "!?")))
}

// P25.2: when no fence of the term is left, nothing is asked by another one; what is attached goes on.
func TestNoFence(t *testing.T) {
	one := lines(`a:/expect {/"ok" goto a/}`)
	d, x := open(t, 0, 1), with(t, one, one, one, one, one, one, one, one)
	many := 0
	for many < api.MaxIndex {
		l, _ := d.Tick(x)
		many += len(l)
	}
	ticks(t, d, x, nothing, nothing, nothing, nothing, nothing)
	last := fence(1, api.MaxIndex)
	hears(t, d, x, attached(7, last, 0), nothing)
	hears(t, d, x, attached(8, last, 0), sends(pull(8, last, 0)))
	hears(t, d, x, fails(attached(8, fence(2, 1), 0), api.ErrFence), nothing)
	ticks(t, d, x, nothing, nothing, nothing, nothing, nothing)
}
