package lease_test

import (
	"math"
	"testing"

	"dragoman/api"
	"dragoman/lease"
	"dragoman/message"
)

// dice are numbers that look thrown, and are the same in each run.
type dice uint64

func (d *dice) below(n int) int {
	*d ^= *d << 13
	*d ^= *d >> 7
	*d ^= *d << 17
	return int(uint64(*d) >> 11 % uint64(n))
}

func span(t *testing.T, rho int) int {
	t.Helper()
	n, e := lease.Span(rho)
	if e != api.OK {
		t.Fatalf("Span(%d): %d", rho, e)
	}
	return n
}

func issues(t *testing.T, x *lease.Issuer, term int, f api.Fence, e api.Errno) {
	t.Helper()
	if got, gotE := x.Next(term); got != f || gotE != e {
		t.Errorf("Next(%d): %v, %d; want %v, %d", term, got, gotE, f, e)
	}
}

func fence(term, epoch int) api.Fence { return api.Fence{Term: term, Epoch: epoch} }

// The chapter's examples.
func TestExamples(t *testing.T) {
	for rho, n := range map[int]int{0: 18, 100: 14, 500: 5} {
		if got := span(t, rho); got != n {
			t.Errorf("Span(%d): %d, want %d", rho, got, n)
		}
	}
	if n, e := lease.Span(501); n != 0 || e != api.ErrArg {
		t.Errorf("Span(501): %d, %d", n, e)
	}
	v := api.View{Role: api.Leader, Ready: true, Now: 30, Heard: [3]int{0, 17, 30}}
	if !lease.Held(v, 0, 100) || !lease.Held(v, 2, 100) || lease.Held(v, 2, 500) {
		t.Error("Held is not as in the examples")
	}
	x := lease.New()
	issues(t, x, 3, fence(3, 1), api.OK)
	issues(t, x, 3, fence(3, 2), api.OK)
	issues(t, x, 2, fence(0, 0), api.ErrRange)
	issues(t, x, 5, fence(5, 1), api.OK)
}

// P20.1: for each drift: one more than the span, times 1000 + rho, is not above 19 times 1000 - rho; two more are.
func TestSpan(t *testing.T) {
	for rho := 0; rho <= 500; rho++ {
		n := span(t, rho)
		if n < 0 || (n+1)*(1000+rho) > 19*(1000-rho) || (n+2)*(1000+rho) <= 19*(1000-rho) {
			t.Errorf("Span(%d): %d", rho, n)
		}
	}
	for _, rho := range []int{-1, 501, 1000, -1000, math.MinInt, math.MaxInt} {
		if n, e := lease.Span(rho); n != 0 || e != api.ErrArg {
			t.Errorf("Span(%d): %d, %d", rho, n, e)
		}
	}
}

// held: a leader's view by which each node holds, with two nodes heard at these stamps beside it.
func held(self, now, one, other int) api.View {
	v := api.View{Role: api.Leader, Ready: true, Now: now, Leader: self}
	v.Heard[(self+1)%3], v.Heard[(self+2)%3] = one, other
	return v
}

// P20.2: one other node that was heard within the span is enough; its own stamp is none.
func TestHeld(t *testing.T) {
	for _, rho := range []int{0, 1, 100, 499, 500} {
		n := span(t, rho)
		for self := range 3 {
			for _, c := range []struct {
				one, other int
				held       bool
			}{
				{100, 100, true},
				{100 - n + 1, 0, true},
				{0, 100 - n + 1, true},
				{100 - n + 1, 101, true},
				{100 - n, 100 - n, false},
				{100 - n, 101, false},
				{101, 101, false},
				{101, 0, false},
				{0, 0, false},
				{math.MaxInt, math.MinInt, false},
				{math.MinInt, math.MinInt, false},
				{math.MinInt, 100, true},
			} {
				v := held(self, 100, c.one, c.other)
				for _, own := range []int{0, 100, 101, 100 - n} {
					v.Heard[self] = own
					if lease.Held(v, self, rho) != c.held {
						t.Errorf("rho %d, self %d, heard %v: %v", rho, self, v.Heard, !c.held)
					}
				}
			}
		}
	}
}

// P20.2: of what is no leader that is ready, of no node, of no drift.
func TestNotHeld(t *testing.T) {
	for _, role := range []uint8{0, api.Follower, api.Candidate, 4, 255} {
		v := held(0, 30, 30, 30)
		v.Role = role
		if lease.Held(v, 0, 100) {
			t.Errorf("the role %d", role)
		}
	}
	v := held(0, 30, 30, 30)
	v.Ready = false
	if lease.Held(v, 0, 100) {
		t.Error("one that is not ready")
	}
	v.Ready = true
	for _, n := range []int{-1, 3, math.MinInt, math.MaxInt} {
		if lease.Held(v, n, 100) {
			t.Errorf("self %d", n)
		}
	}
	for _, rho := range []int{-1, 501, math.MinInt, math.MaxInt} {
		if lease.Held(v, 0, rho) {
			t.Errorf("rho %d", rho)
		}
	}
	if !lease.Held(v, 0, 0) || !lease.Held(v, 0, 500) || !lease.Held(v, 2, 0) || lease.Held(api.View{}, 0, 0) {
		t.Error("at the limits")
	}
}

// P20.2, R1: numbers that lie far apart, and below 0.
func TestHeldFarApart(t *testing.T) {
	for _, c := range []struct {
		now, heard int
		held       bool
	}{
		{math.MaxInt, math.MinInt, false},
		{math.MaxInt, math.MinInt + 1, false},
		{math.MaxInt, math.MaxInt, true},
		{math.MaxInt, math.MaxInt - 13, true},
		{math.MaxInt, math.MaxInt - 14, false},
		{math.MaxInt, -1, false},
		{math.MinInt, math.MinInt, true},
		{math.MinInt, math.MinInt + 1, false},
		{math.MinInt, math.MaxInt, false},
		{math.MinInt + 13, math.MinInt, true},
		{math.MinInt + 14, math.MinInt, false},
		{0, math.MinInt, false},
		{5, -8, true},
		{5, -9, false},
	} {
		if lease.Held(held(1, c.now, c.heard, c.heard), 1, 100) != c.held {
			t.Errorf("now %d, heard %d: %v", c.now, c.heard, !c.held)
		}
	}
}

// P20.3: terms at their limits, and one past them; what is refused changes nothing.
func TestNext(t *testing.T) {
	var none *lease.Issuer
	issues(t, none, 1, fence(0, 0), api.ErrNil)
	issues(t, none, 0, fence(0, 0), api.ErrNil)
	x := lease.New()
	bad := func() {
		t.Helper()
		for _, term := range []int{0, -1, math.MinInt, 1<<40 + 1, math.MaxInt} {
			issues(t, x, term, fence(0, 0), api.ErrArg)
		}
	}
	bad()
	issues(t, x, 1, fence(1, 1), api.OK)
	bad()
	issues(t, x, 1, fence(1, 2), api.OK)
	issues(t, x, 4, fence(4, 1), api.OK)
	for term := 1; term < 4; term++ {
		issues(t, x, term, fence(0, 0), api.ErrRange)
	}
	issues(t, x, 4, fence(4, 2), api.OK)
	issues(t, x, 1<<40, fence(1<<40, 1), api.OK)
	bad()
	issues(t, x, 1<<40-1, fence(0, 0), api.ErrRange)
	issues(t, x, 1<<40, fence(1<<40, 2), api.OK)
	issues(t, lease.New(), 1<<40, fence(1<<40, 1), api.OK)
}

// P20.3: the greatest Epoch of a term is MaxIndex; behind it comes the next term.
func TestNextEpochs(t *testing.T) {
	x := lease.New()
	for epoch := 1; epoch <= 1<<20; epoch++ {
		if f, e := x.Next(7); f != fence(7, epoch) || e != api.OK {
			t.Fatalf("the fence %d: %v, %d", epoch, f, e)
		}
	}
	issues(t, x, 7, fence(0, 0), api.ErrRange)
	issues(t, x, 7, fence(0, 0), api.ErrRange)
	issues(t, x, 6, fence(0, 0), api.ErrRange)
	issues(t, x, 0, fence(0, 0), api.ErrArg)
	issues(t, x, 8, fence(8, 1), api.OK)
	issues(t, x, 8, fence(8, 2), api.OK)
	issues(t, x, 7, fence(0, 0), api.ErrRange)
}

// P20.5: whatever is asked, each fence is above those ahead of it.
func TestRising(t *testing.T) {
	d := dice(20)
	for range 50 {
		x, y := lease.New(), lease.New()
		last := api.Fence{}
		for range 200 {
			term := last.Term + d.below(6) - 3
			f, e := x.Next(term)
			if e != api.OK {
				if f != (api.Fence{}) || term >= last.Term && term >= 1 {
					t.Fatalf("Next(%d) behind %v: %v, %d", term, last, f, e)
				}
				continue
			}
			if !message.Above(f, last) || f.Term != term {
				t.Fatalf("Next(%d) behind %v: %v", term, last, f)
			}
			last = f
		}
		issues(t, y, 1, fence(1, 1), api.OK)
	}
}
