package lease_test

import (
	"testing"

	"dragoman/api"
	"dragoman/clock"
	"dragoman/lease"
	"dragoman/raft"
)

func newClock(t *testing.T, rate int) *clock.Clock {
	t.Helper()
	c, e := clock.New(rate)
	if e != api.OK {
		t.Fatalf("a clock of the rate %d: %d", rate, e)
	}
	return c
}

// apart: two clocks, begun anywhere in their ticks, whose rates are told anew ahead of each real tick; the second one begins so many real ticks later.
func apart(t *testing.T, rho, first, second, later int, rates func() (int, int)) {
	t.Helper()
	a, b := newClock(t, 1000), newClock(t, 1000)
	set := func(c *clock.Clock, rate, ticks int) {
		if c.Rate(rate) != api.OK || c.Tick(ticks) != api.OK {
			t.Fatalf("the rate %d", rate)
		}
	}
	// One real tick at such a rate leaves each of them anywhere between two ticks of its own.
	set(a, 500+first, 1)
	set(b, 500+second, 1)
	n := span(t, rho)
	fromA, fromB := a.Now(), b.Now()
	for real := 0; a.Now()-fromA < n; real++ {
		if real <= later {
			fromB = b.Now()
		}
		if b.Now()-fromB >= 20 {
			t.Fatalf("rho %d: one clock shows %d more, the other one %d", rho, a.Now()-fromA, b.Now()-fromB)
		}
		slow, fast := rates()
		set(a, slow, 1)
		set(b, fast, 1)
	}
}

// P20.4: for each drift, at the farthest rates, wherever the clocks begin.
func TestApartFarthest(t *testing.T) {
	for rho := range 501 {
		for _, first := range []int{499, 500, 501, 750, 999} {
			for _, second := range []int{499, 500, 750, 999} {
				apart(t, rho, first, second, rho%3, func() (int, int) { return 1000 - rho, 1000 + rho })
			}
		}
	}
}

// P20.4: at whatever rates within the drift, which change.
func TestApart(t *testing.T) {
	d := dice(4)
	for range 3000 {
		rho := d.below(501)
		rate := func() int {
			if d.below(3) == 0 {
				return 1000 - rho + 2*rho*d.below(2)
			}
			return 1000 - rho + d.below(2*rho+1)
		}
		apart(t, rho, d.below(1000), d.below(1000), d.below(5), func() (int, int) { return rate(), rate() })
	}
}

// timed is a node with a clock of its own, and what it has saved.
type timed struct {
	core  *raft.Core
	clock *clock.Clock
	saved api.Ballot
	log   []api.Entry
}

func (x *timed) boot(t *testing.T, n int) {
	t.Helper()
	c, e := raft.New(n, x.saved, api.Mark{}, x.log)
	if e != api.OK {
		t.Fatalf("New: %d", e)
	}
	x.core = c
}

// carry: the effects are carried out; what it says.
func (x *timed) carry(fx api.Effects) []api.Message {
	if fx.Save {
		x.saved = fx.Ballot
	}
	if fx.CutFrom > 0 {
		x.log = x.log[:fx.CutFrom-1]
	}
	x.log = append(x.log[:len(x.log):len(x.log)], fx.Append...)
	return fx.Send
}

// alone: as long as a node holds, no other one holds, and none leads a higher term.
func alone(t *testing.T, nodes [3]*timed, rho int) int {
	t.Helper()
	holders := 0
	for n, x := range nodes {
		v := x.core.View()
		if !lease.Held(v, n, rho) {
			continue
		}
		holders++
		for m, y := range nodes {
			if w := y.core.View(); m != n && (lease.Held(w, m, rho) || w.Role == api.Leader && w.Ballot.Term > v.Ballot.Term) {
				t.Fatalf("rho %d: the node %d holds %+v, and the node %d %+v", rho, n, v, m, w)
			}
		}
	}
	return holders
}

// P20.4, and what P5 of the whole says: whatever is lost, late, doubled, whoever starts again, while clocks stay within the drift: who may answer by itself is the only one that can.
func TestHeldAlone(t *testing.T) {
	holders, starts := 0, 0
	for seed := range 60 {
		d := dice(seed + 77)
		rho := d.below(501)
		var nodes [3]*timed
		for n := range nodes {
			nodes[n] = &timed{clock: newClock(t, 1000-rho+2*rho*d.below(2)), saved: api.Ballot{For: -1}}
			nodes[n].boot(t, n)
		}
		var flight []api.Message
		cut := -1 // who is cut off
		for range 1500 {
			if d.below(40) == 0 {
				cut = d.below(6) - 1
			}
			n := d.below(3)
			if d.below(200) == 0 {
				nodes[n].boot(t, n)
				starts++
			}
			for _, x := range nodes {
				was := x.clock.Now()
				// A rate stays for a while: so one clock may fall far behind another one.
				if d.below(60) == 0 && x.clock.Rate(1000-rho+2*rho*d.below(2)) != api.OK || x.clock.Tick(1) != api.OK {
					t.Fatal("a clock does not go")
				}
				for range x.clock.Now() - was {
					if d.below(30) == 0 {
						x.core.Draw(d.below(20) * d.below(2))
					}
					flight = append(flight, x.carry(x.core.Tick())...)
					alone(t, nodes, rho)
				}
			}
			for range d.below(12) {
				if len(flight) == 0 {
					break
				}
				i := d.below(min(len(flight), 8))
				m := flight[i]
				if d.below(8) > 0 {
					flight = append(flight[:i:i], flight[i+1:]...)
				}
				if m.From != cut && m.To != cut {
					flight = append(flight, nodes[m.To].carry(nodes[m.To].core.Step(m))...)
				}
				holders += alone(t, nodes, rho)
			}
			flight = flight[max(0, len(flight)-40):]
		}
	}
	if holders < 20000 || starts < 300 {
		t.Errorf("too little happens: %d times somebody held, %d started again", holders, starts)
	}
}
