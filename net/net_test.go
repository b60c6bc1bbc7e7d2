package net_test

import (
	"math"
	"slices"
	"strings"
	"testing"

	"dragoman/api"
	"dragoman/net"
)

func want(t *testing.T, what string, got, want api.Errno) {
	t.Helper()
	if got != want {
		t.Errorf("%s: the error %d, want %d", what, got, want)
	}
}

// sends: a call of Send answers this.
func sends(t *testing.T, n *net.Net, from, to int, b string, id int, err api.Errno) {
	t.Helper()
	if got, e := n.Send(from, to, b); got != id || e != err {
		t.Errorf("Send(%d, %d, %d bytes): %d, %d; want %d, %d", from, to, len(b), got, e, id, err)
	}
}

func doubles(t *testing.T, n *net.Net, id, next int, err api.Errno) {
	t.Helper()
	if got, e := n.Twice(id); got != next || e != err {
		t.Errorf("Twice(%d): %d, %d; want %d, %d", id, got, e, next, err)
	}
}

func delivers(t *testing.T, n *net.Net, id int, l api.Letter, err api.Errno) {
	t.Helper()
	if got, e := n.Deliver(id); got != l || e != err {
		t.Errorf("Deliver(%d): %v, %d; want %v, %d", id, got, e, l, err)
	}
}

// flies: just these letters are in flight, as Flight and All tell it.
func flies(t *testing.T, n *net.Net, want ...api.Letter) {
	t.Helper()
	if got := n.Flight(); !slices.Equal(got, want) {
		t.Errorf("Flight: %v, want %v", got, want)
	}
	var got []api.Letter
	for id, l := range n.All() {
		if id != l.Id {
			t.Errorf("All tells %d with the letter %v", id, l)
		}
		got = append(got, l)
	}
	if !slices.Equal(got, want) {
		t.Errorf("All: %v, want %v", got, want)
	}
}

func letter(id, from, to int, b string) api.Letter {
	return api.Letter{Id: id, From: from, To: to, Bytes: b}
}

// noAddresses are numbers that are none.
func noAddresses() []int {
	return []int{-1, math.MinInt, api.MaxAddress, api.MaxAddress + 1, math.MaxInt}
}

var none api.Letter

// most are as many bytes as a letter may have.
func most() string { return strings.Repeat("\x00b", 4108/2) }

// The chapter's examples.
func TestExamples(t *testing.T) {
	n := net.New()
	sends(t, n, 1, 2, "x", 1, api.OK)
	sends(t, n, 2, 2, "y", 2, api.OK)
	flies(t, n, letter(1, 1, 2, "x"), letter(2, 2, 2, "y"))
	doubles(t, n, 1, 3, api.OK)
	delivers(t, n, 3, letter(3, 1, 2, "x"), api.OK)
	delivers(t, n, 3, none, api.ErrNone)
	want(t, "Cut(2, 1)", n.Cut(2, 1), api.OK)
	sends(t, n, 1, 2, "z", 0, api.ErrCut)
	sends(t, n, 2, 2, "z", 4, api.OK)
	delivers(t, n, 1, letter(1, 1, 2, "x"), api.OK)
	want(t, "Cut(1, 1)", n.Cut(1, 1), api.ErrArg)
	want(t, "Heal(0, 16)", n.Heal(0, 16), api.ErrArg)
	sends(t, n, 0, 16, most()+"m", 0, api.ErrArg)
	want(t, "Heal(1, 2)", n.Heal(1, 2), api.OK)
	sends(t, n, 2, 1, most()+"m", 0, api.ErrLong)
	want(t, "Drop(2)", n.Drop(2), api.OK)
	want(t, "Drop(2) again", n.Drop(2), api.ErrNone)
}

// P5.1: between all addresses, with whatever bytes, numbers 1, 2, 3 and so on.
func TestSend(t *testing.T) {
	n := net.New()
	flies(t, n)
	var all []api.Letter
	for from := range api.MaxAddress {
		for to := range api.MaxAddress {
			b := strings.Repeat("\xff\x00", from*to)
			sends(t, n, from, to, b, len(all)+1, api.OK)
			all = append(all, letter(len(all)+1, from, to, b))
		}
	}
	flies(t, n, all...)
}

// P5.1: what is refused gives no number, and nothing is in flight by it.
func TestSendRefused(t *testing.T) {
	n := net.New()
	want(t, "Cut", n.Cut(3, 4), api.OK)
	for i, a := range noAddresses() {
		sends(t, n, a, 3, "x", 0, api.ErrArg)
		sends(t, n, 3, a, "x", 0, api.ErrArg)
		sends(t, n, a, a, most()+"m", 0, api.ErrArg)
		sends(t, n, 5, 5, most()+"m", 0, api.ErrLong)
		sends(t, n, 4, 3, most()+"m", 0, api.ErrLong)
		sends(t, n, 4, 3, "x", 0, api.ErrCut)
		sends(t, n, 3, 4, most(), 0, api.ErrCut)
		sends(t, n, 0, 15, most(), i+1, api.OK)
	}
	if got := n.Flight(); len(got) != 5 || got[4] != letter(5, 0, 15, most()) {
		t.Errorf("%d letters in flight", len(got))
	}
}

// full: a network with the letters 1 to MaxFlight in flight, and its link from 3 to 4 cut.
func full(t *testing.T) *net.Net {
	n := net.New()
	for i := range api.MaxFlight {
		sends(t, n, 1, 2, "x", i+1, api.OK)
	}
	want(t, "Cut", n.Cut(3, 4), api.OK)
	return n
}

// P5.1, P5.2: MaxFlight letters are the most; one that has arrived or is lost makes room.
func TestFull(t *testing.T) {
	n := full(t)
	sends(t, n, 1, 2, "x", 0, api.ErrFull)
	sends(t, n, 2, 2, "", 0, api.ErrFull)
	sends(t, n, 3, 4, "x", 0, api.ErrCut)
	sends(t, n, 3, 4, most()+"m", 0, api.ErrLong)
	sends(t, n, 3, -1, "x", 0, api.ErrArg)
	doubles(t, n, 7, 0, api.ErrFull)
	doubles(t, n, 300, 0, api.ErrNone)
	if len(n.Flight()) != api.MaxFlight {
		t.Errorf("%d letters in flight", len(n.Flight()))
	}
	want(t, "Drop", n.Drop(9), api.OK)
	doubles(t, n, 9, 0, api.ErrNone)
	doubles(t, n, 256, 257, api.OK)
	doubles(t, n, 257, 0, api.ErrFull)
	delivers(t, n, 1, letter(1, 1, 2, "x"), api.OK)
	sends(t, n, 5, 6, "y", 258, api.OK)
	sends(t, n, 5, 6, "y", 0, api.ErrFull)
	delivers(t, n, 258, letter(258, 5, 6, "y"), api.OK)
	delivers(t, n, 257, letter(257, 1, 2, "x"), api.OK)
	if len(n.Flight()) != api.MaxFlight-2 {
		t.Errorf("%d letters in flight", len(n.Flight()))
	}
}

// P5.2: letters arrive in whatever order, each once; what is lost does not.
func TestDeliver(t *testing.T) {
	n := net.New()
	for i := range 6 {
		sends(t, n, i, 15-i, string([]byte{byte('a' + i)}), i+1, api.OK)
	}
	delivers(t, n, 4, letter(4, 3, 12, "d"), api.OK)
	want(t, "Drop", n.Drop(1), api.OK)
	delivers(t, n, 6, letter(6, 5, 10, "f"), api.OK)
	flies(t, n, letter(2, 1, 14, "b"), letter(3, 2, 13, "c"), letter(5, 4, 11, "e"))
	for _, id := range []int{4, 1, 6, 0, 7, -1, math.MinInt, math.MaxInt} {
		delivers(t, n, id, none, api.ErrNone)
		want(t, "Drop", n.Drop(id), api.ErrNone)
		doubles(t, n, id, 0, api.ErrNone)
	}
	delivers(t, n, 5, letter(5, 4, 11, "e"), api.OK)
	delivers(t, n, 2, letter(2, 1, 14, "b"), api.OK)
	want(t, "Drop", n.Drop(3), api.OK)
	flies(t, n)
	sends(t, n, 0, 0, "", 7, api.OK)
	flies(t, n, letter(7, 0, 0, ""))
}

// P5.2: a letter more, of the next number, with all that the first one has; both go on by themselves.
func TestTwice(t *testing.T) {
	n := net.New()
	sends(t, n, 9, 8, "first", 1, api.OK)
	sends(t, n, 8, 9, "second", 2, api.OK)
	doubles(t, n, 1, 3, api.OK)
	doubles(t, n, 3, 4, api.OK)
	doubles(t, n, 1, 5, api.OK)
	flies(t, n, letter(1, 9, 8, "first"), letter(2, 8, 9, "second"), letter(3, 9, 8, "first"), letter(4, 9, 8, "first"), letter(5, 9, 8, "first"))
	want(t, "Drop", n.Drop(1), api.OK)
	doubles(t, n, 1, 0, api.ErrNone)
	delivers(t, n, 4, letter(4, 9, 8, "first"), api.OK)
	sends(t, n, 1, 1, "third", 6, api.OK)
	flies(t, n, letter(2, 8, 9, "second"), letter(3, 9, 8, "first"), letter(5, 9, 8, "first"), letter(6, 1, 1, "third"))
}

// P5.2, P5.3: what is in flight stays so where the link is cut, and arrives, is lost and doubled.
func TestFlightOverCut(t *testing.T) {
	n := net.New()
	for i := range 3 {
		sends(t, n, 1, 2, "x", i+1, api.OK)
	}
	want(t, "Cut", n.Cut(1, 2), api.OK)
	flies(t, n, letter(1, 1, 2, "x"), letter(2, 1, 2, "x"), letter(3, 1, 2, "x"))
	doubles(t, n, 1, 4, api.OK)
	want(t, "Drop", n.Drop(2), api.OK)
	delivers(t, n, 4, letter(4, 1, 2, "x"), api.OK)
	delivers(t, n, 1, letter(1, 1, 2, "x"), api.OK)
	want(t, "Heal", n.Heal(1, 2), api.OK)
	flies(t, n, letter(3, 1, 2, "x"))
}

// P5.3: each link is cut and healed by itself, in both directions.
func TestLinks(t *testing.T) {
	for a := range api.MaxAddress {
		for b := range api.MaxAddress {
			if a == b {
				continue
			}
			n := net.New()
			want(t, "Cut", n.Cut(a, b), api.OK)
			next := 1
			for from := range api.MaxAddress {
				for to := range api.MaxAddress {
					if min(from, to) == min(a, b) && max(from, to) == max(a, b) {
						sends(t, n, from, to, "", 0, api.ErrCut)
						continue
					}
					sends(t, n, from, to, "", next, api.OK)
					next++
				}
			}
			want(t, "Drop", n.Drop(1), api.OK)
			want(t, "Heal", n.Heal(b, a), api.OK)
			sends(t, n, a, b, "", next, api.OK)
			want(t, "Drop", n.Drop(2), api.OK)
			sends(t, n, b, a, "", next+1, api.OK)
		}
	}
}

// P5.3: a link may have been cut, or whole, already.
func TestLinksAgain(t *testing.T) {
	n := net.New()
	want(t, "Heal", n.Heal(3, 5), api.OK)
	sends(t, n, 3, 5, "", 1, api.OK)
	for range 3 {
		want(t, "Cut", n.Cut(3, 5), api.OK)
		want(t, "Cut", n.Cut(5, 3), api.OK)
	}
	want(t, "Cut", n.Cut(3, 6), api.OK)
	sends(t, n, 5, 3, "", 0, api.ErrCut)
	for range 3 {
		want(t, "Heal", n.Heal(3, 5), api.OK)
		sends(t, n, 6, 3, "", 0, api.ErrCut)
	}
	sends(t, n, 5, 3, "", 2, api.OK)
}

// P5.3: links are between two unlike addresses.
func TestLinksRefused(t *testing.T) {
	n := net.New()
	for _, a := range noAddresses() {
		for _, b := range []int{0, 15, a, math.MinInt, 99} {
			want(t, "Cut", n.Cut(a, b), api.ErrArg)
			want(t, "Cut", n.Cut(b, a), api.ErrArg)
			want(t, "Heal", n.Heal(a, b), api.ErrArg)
			want(t, "Heal", n.Heal(b, a), api.ErrArg)
		}
	}
	for a := range api.MaxAddress {
		want(t, "Cut", n.Cut(a, a), api.ErrArg)
		want(t, "Heal", n.Heal(a, a), api.ErrArg)
		sends(t, n, a, a, "", a+1, api.OK)
	}
}

// P5.4, R6: All may be left early and gone over again, and goes over what is in flight when that begins.
func TestAll(t *testing.T) {
	n := net.New()
	all := n.All()
	for i := range 4 {
		sends(t, n, i, 0, "x", i+1, api.OK)
	}
	ids := func(leave int) (got []int) {
		for id, l := range all {
			if l != letter(id, id-1, 0, "x") {
				t.Errorf("All tells %d with %v", id, l)
			}
			got = append(got, id)
			if len(got) == leave {
				break
			}
		}
		return got
	}
	for leave := 1; leave < 5; leave++ {
		if got := ids(leave); !slices.Equal(got, []int{1, 2, 3, 4}[:leave]) {
			t.Errorf("left behind %d: %v", leave, got)
		}
	}
	var got []int
	for id := range all {
		got = append(got, id)
		want(t, "Drop", n.Drop(5-id), api.OK)
		sends(t, n, 3+id, 0, "x", 4+id, api.OK)
	}
	if !slices.Equal(got, []int{1, 2, 3, 4}) {
		t.Errorf("gone over while letters come and go: %v", got)
	}
	if got := ids(0); !slices.Equal(got, []int{5, 6, 7, 8}) {
		t.Errorf("gone over again: %v", got)
	}
}

// R3: what Flight answers is new memory.
func TestFlightNewMemory(t *testing.T) {
	n := net.New()
	sends(t, n, 1, 2, "x", 1, api.OK)
	sends(t, n, 3, 4, "y", 2, api.OK)
	l := n.Flight()
	l[0].Bytes = "changed"
	_ = append(l[:1], letter(9, 9, 9, "other"))
	_ = append(l, letter(9, 9, 9, "other"))
	sends(t, n, 5, 6, "z", 3, api.OK)
	flies(t, n, letter(1, 1, 2, "x"), letter(2, 3, 4, "y"), letter(3, 5, 6, "z"))
	l = n.Flight()
	want(t, "Drop", n.Drop(1), api.OK)
	if l[0] != letter(1, 1, 2, "x") || l[2] != letter(3, 5, 6, "z") {
		t.Errorf("what Flight answered was changed: %v", l)
	}
}

// P5.4: a copy stands so, and both go on by themselves.
func TestCopy(t *testing.T) {
	n := net.New()
	sends(t, n, 1, 2, "x", 1, api.OK)
	sends(t, n, 3, 4, "y", 2, api.OK)
	want(t, "Drop", n.Drop(1), api.OK)
	want(t, "Cut", n.Cut(1, 2), api.OK)
	c := n.Copy()
	flies(t, c, letter(2, 3, 4, "y"))
	sends(t, c, 1, 2, "", 0, api.ErrCut)
	sends(t, c, 1, 3, "c", 3, api.OK)
	want(t, "Heal", c.Heal(1, 2), api.OK)
	want(t, "Cut", c.Cut(3, 4), api.OK)
	want(t, "Drop", c.Drop(2), api.OK)
	sends(t, n, 2, 1, "", 0, api.ErrCut)
	sends(t, n, 3, 4, "n", 3, api.OK)
	doubles(t, n, 3, 4, api.OK)
	flies(t, n, letter(2, 3, 4, "y"), letter(3, 3, 4, "n"), letter(4, 3, 4, "n"))
	flies(t, c, letter(3, 1, 3, "c"))
	sends(t, c, 2, 1, "", 4, api.OK)
}

// R4: a network that is none.
func TestNilNet(t *testing.T) {
	var n *net.Net
	for _, a := range append(noAddresses(), 0, 1) {
		sends(t, n, a, 1, most()+"m", 0, api.ErrNil)
		delivers(t, n, a, none, api.ErrNil)
		want(t, "Drop", n.Drop(a), api.ErrNil)
		doubles(t, n, a, 0, api.ErrNil)
		want(t, "Cut", n.Cut(a, 1), api.ErrNil)
		want(t, "Heal", n.Heal(a, 1), api.ErrNil)
	}
	if n.All() == nil || n.Copy() != nil {
		t.Error("All of nil is nil, or Copy is not")
	}
	flies(t, n)
}

// dice are numbers that look thrown, and are the same in each run.
type dice uint64

func (d *dice) below(n int) int {
	*d ^= *d << 13
	*d ^= *d >> 7
	*d ^= *d << 17
	return int(uint64(*d) >> 11 % uint64(n))
}

// post is what a test knows of a network: each letter by its number, and which are in flight yet.
type post struct {
	sent  []api.Letter
	there map[int]int
	cut   map[[2]int]int
}

// tries: the answer of a call by which a letter more sets out, or is refused.
func (p *post) tries(from, to int, b string, cut bool) (int, api.Errno) {
	if cut && p.cut[[2]int{min(from, to), max(from, to)}] > 0 {
		return 0, api.ErrCut
	}
	if len(p.there) == api.MaxFlight {
		return 0, api.ErrFull
	}
	id := len(p.sent) + 1
	p.sent = append(p.sent, letter(id, from, to, b))
	p.there[id]++
	return id, api.OK
}

// P5.5: whatever is done, what arrives was sent or doubled under its number, and arrives once; nothing is sent over a cut link.
func TestAsSaid(t *testing.T) {
	x := dice(55)
	n := net.New()
	p := post{there: map[int]int{}, cut: map[[2]int]int{}}
	for range 20000 {
		a, b := x.below(api.MaxAddress), x.below(api.MaxAddress)
		id := max(0, len(p.sent)-x.below(400))
		_, there := p.there[id]
		switch x.below(8) {
		case 0, 1, 2:
			s := strings.Repeat("s", x.below(5))
			next, e := p.tries(a, b, s, true)
			sends(t, n, a, b, s, next, e)
		case 3, 4:
			if there {
				next, e := p.tries(p.sent[id-1].From, p.sent[id-1].To, p.sent[id-1].Bytes, false)
				doubles(t, n, id, next, e)
			} else {
				doubles(t, n, id, 0, api.ErrNone)
			}
		case 5:
			if there {
				delete(p.there, id)
				delivers(t, n, id, p.sent[id-1], api.OK)
			}
			delivers(t, n, id, none, api.ErrNone)
		case 6:
			if there && x.below(2) == 0 {
				delete(p.there, id)
				want(t, "Drop", n.Drop(id), api.OK)
				delivers(t, n, id, none, api.ErrNone)
			}
		case 7:
			if k := [2]int{min(a, b), max(a, b)}; a == b {
				want(t, "Cut", n.Cut(a, b), api.ErrArg)
			} else if x.below(2) == 0 {
				p.cut[k] = 1
				want(t, "Cut", n.Cut(a, b), api.OK)
			} else {
				p.cut[k] = 0
				want(t, "Heal", n.Heal(a, b), api.OK)
			}
		}
		if len(n.Flight()) != len(p.there) {
			t.Fatalf("%d letters in flight, want %d", len(n.Flight()), len(p.there))
		}
	}
	for _, l := range n.Flight() {
		delete(p.there, l.Id)
		delivers(t, n, l.Id, p.sent[l.Id-1], api.OK)
	}
	flies(t, n)
	if len(p.there) > 0 {
		t.Errorf("%d letters were lost", len(p.there))
	}
}
