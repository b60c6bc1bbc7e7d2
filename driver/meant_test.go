package driver_test

import (
	"slices"
	"strings"
	"testing"

	"dragoman/api"
	"dragoman/disk"
	"dragoman/driver"
	"dragoman/gateway"
	"dragoman/ring"
	"dragoman/table"
)

// dice are numbers that look thrown, and are the same in each run.
type dice uint64

func (d *dice) below(n int) int {
	*d ^= *d << 13
	*d ^= *d >> 7
	*d ^= *d << 17
	return int(uint64(*d) >> 11 % uint64(n))
}

// leader is a driver and the table that it knows; one that has fallen knows no more than it did.
type leader struct {
	*driver.Driver
	table *table.Table
	done  int // how many commands of the log are in its table
}

// world is leaders of rising terms, a gateway, terminals, and messages that are lost, late, doubled.
type world struct {
	t       *testing.T
	dice    dice
	log     []api.Command
	term    int
	leaders []*leader
	gate    *gateway.Gateway
	outs    map[int]*ring.Ring
	flight  []api.Message
	whole   bool // nothing is lost
}

func newWorld(t *testing.T, seed int, log ...api.Command) *world {
	g, e := gateway.Open(disk.New())
	if e != api.OK {
		t.Fatalf("a gateway: %d", e)
	}
	w := &world{t: t, dice: dice(seed + 1), log: log, gate: g, outs: map[int]*ring.Ring{}}
	w.elect()
	return w
}

// elect: another leader, of the next term, with all that was committed.
func (w *world) elect() {
	w.term++
	l := &leader{Driver: open(w.t, w.term%3, w.term), table: table.New()}
	w.leaders = append(w.leaders, l)
	w.learn(l, len(w.log))
}

func (w *world) now() *leader { return w.leaders[len(w.leaders)-1] }

// learn: a leader's table gets so many commands more.
func (w *world) learn(l *leader, many int) {
	for ; many > 0 && l.done < len(w.log); many-- {
		apply(w.t, l.table, w.log[l.done])
		l.done++
	}
}

// does: what a leader says goes on its way; what it proposes is committed, if it is the newest one, and nothing is lost.
func (w *world) does(l *leader, send []api.Message, propose []api.Command) {
	w.flight = append(w.flight, send...)
	if l == w.now() && (w.whole || w.dice.below(4) > 0) {
		w.log = append(w.log, propose...)
	}
}

// arrives: a message comes to the gateway, or to the leader of its term.
func (w *world) arrives(m api.Message) {
	if m.To == api.GatewayAddress {
		a, e := w.gate.Do(m, w.outs[m.Talk])
		if e != api.OK {
			w.t.Fatalf("%+v: %d", m, e)
		}
		w.flight = append(w.flight, a)
		return
	}
	// A refusal has another one's fence: so whoever has that number hears it.
	for _, l := range slices.Backward(w.leaders) {
		if l.Driver != nil && w.selfOf(l) == m.To {
			send, propose := l.Hear(l.table, m)
			w.does(l, send, propose)
			return
		}
	}
}

func (w *world) selfOf(l *leader) int { return (slices.Index(w.leaders, l) + 1) % 3 }

// meant: P25.4 as far as it can be seen now.
func (w *world) meant() {
	w.t.Helper()
	x := table.New()
	apply(w.t, x, w.log...)
	next := map[int]int{}
	for y := range w.gate.Taken() {
		talk := talkOf(w.t, x, y.Talk)
		if n := next[y.Talk]; n >= len(talk.Sends) || talk.Sends[n] != y.Text || y.Seq != n+1 {
			w.t.Fatalf("the send %d of the talk %d is %q, and meant was %q", y.Seq, y.Talk, y.Text, talk.Sends)
		}
		next[y.Talk]++
	}
}

func talkOf(t *testing.T, x *table.Table, id int) api.Talk {
	t.Helper()
	y, e := x.Talk(id)
	if e != api.OK {
		t.Fatalf("Talk(%d): %d", id, e)
	}
	return y
}

func (w *world) says(talk int, s string) {
	if w.outs[talk] == nil {
		w.outs[talk], _ = ring.New(api.MaxRing)
	}
	w.outs[talk].Put(s)
}

// step: something goes on, somewhere.
func (w *world) step() {
	d := &w.dice
	switch n := d.below(40); {
	case n < 8:
		l := w.leaders[max(len(w.leaders)-1-d.below(3)*d.below(2), 0)]
		send, propose := l.Tick(l.table)
		w.does(l, send, propose)
	case n < 12:
		w.learn(w.now(), 1+d.below(4))
	case n < 14:
		w.says(1+d.below(3), []string{"a", "b", "ok", "xx"}[d.below(4)])
	case n == 14 && d.below(6) == 0:
		w.elect()
	case len(w.flight) > 0:
		i := d.below(len(w.flight))
		m := w.flight[i]
		if d.below(6) > 0 { // else it is doubled
			w.flight = slices.Delete(w.flight, i, i+1)
		}
		if d.below(6) > 0 { // else it is lost
			w.arrives(m)
		}
	}
}

func submit(request int, s string) api.Command {
	return api.Command{Op: api.OpSubmit, Client: 1, Request: request, Data: s}
}

// P25.4: whatever is lost, late, doubled, between drivers of rising terms.
func TestMeant(t *testing.T) {
	many, terms := 0, 0
	for seed := range 150 {
		w := newWorld(t, seed,
			submit(1, lines(`a:/send "1"/send "2"/inc n/expect {/"ok" goto b/"a" goto a/timeout 2 goto a/}/b:/send "end"/exit 0`)),
			submit(2, lines(`a:/send "x"/expect {/"a" goto b/"b" goto c/timeout 1 goto b/}/b:/send "y"/goto a/c:/send "z"/goto a`)),
			submit(3, lines(`a:/expect {/"b" goto b/}/b:/send "b1"/send "b2"/send "b3"/goto a`)))
		for i := range 1500 {
			w.step()
			if i%50 == 0 {
				w.meant()
			}
		}
		w.meant()
		many += len(slices.Collect(w.gate.Taken()))
		terms += w.term
	}
	if many < 1500 || terms < 500 {
		t.Errorf("too little happens: %d sends, %d terms", many, terms)
	}
}

// P25.5: where nothing is lost a talk comes to its end, within a bound that its sends, expects and times say.
func TestEnds(t *testing.T) {
	for _, text := range []string{
		dialogue,
		lines(`a:/expect {/timeout 7 goto b/}/b:/send "x"/send "y"/send "z"/expect {/"never" goto a/timeout 3 goto c/}/c:/send "w"/exit 3`),
		lines(`a:/inc n/send "n"/expect {/"n?" goto b/}/b:/if n < 9 goto a/send "bye"/exit 0`),
		lines("a:/" + strings.Repeat(`send "s"/`, 40) + "exit 9"),
		lines("a:/exit 1"),
	} {
		for _, quiet := range []bool{true, false} {
			if quiet && strings.Contains(text, "n?") {
				continue
			}
			w := newWorld(t, 1, submit(1, text))
			w.whole = true
			ticks := 0
			for ; ticks < 150; ticks++ {
				if y := talkOf(t, w.now().table, 1); y.State == api.TalkEnded && y.Acked == len(y.Sends) {
					break
				}
				l := w.now()
				send, propose := l.Tick(l.table)
				w.does(l, send, propose)
				for _, m := range w.takeFlight() {
					if m.Kind == api.MsgSend && !quiet {
						w.says(1, "ok n?")
					}
					w.arrives(m)
				}
				w.learn(l, len(w.log))
			}
			w.meant()
			y := talkOf(t, w.now().table, 1)
			if y.State != api.TalkEnded || len(slices.Collect(w.gate.Taken())) != len(y.Sends) || y.Acked != len(y.Sends) {
				t.Errorf("%q, quiet %v: %+v behind %d ticks", text, quiet, y, ticks)
			}
		}
	}
}

func (w *world) takeFlight() []api.Message {
	l := w.flight
	w.flight = nil
	return l
}
