package clock_test

import (
	"math"
	"math/big"
	"testing"

	"dragoman/api"
	"dragoman/clock"
)

const (
	most  = 1 << 40 // real ticks that go by at once
	shown = 1 << 50
)

func want(t *testing.T, what string, got, want api.Errno) {
	t.Helper()
	if got != want {
		t.Errorf("%s: the error %d, want %d", what, got, want)
	}
}

func shows(t *testing.T, what string, c *clock.Clock, n int) {
	t.Helper()
	if got := c.Now(); got != n {
		t.Errorf("%s: it shows %d, want %d", what, got, n)
	}
}

func begin(t *testing.T, rate int) *clock.Clock {
	t.Helper()
	c, e := clock.New(rate)
	if c == nil || e != api.OK {
		t.Fatalf("New(%d): %v, %d", rate, c, e)
	}
	return c
}

func tick(t *testing.T, c *clock.Clock, n int) {
	t.Helper()
	want(t, "Tick", c.Tick(n), api.OK)
}

func rate(t *testing.T, c *clock.Clock, r int) {
	t.Helper()
	want(t, "Rate", c.Rate(r), api.OK)
}

func noRates() []int {
	return []int{499, 2001, 0, -1, -500, -1000, math.MinInt, math.MaxInt}
}

func noTicks() []int {
	return []int{-1, -2, math.MinInt, most + 1, 1 << 41, 1 << 62, math.MaxInt}
}

// dice are numbers that look thrown, and are the same in each run.
type dice uint64

func (d *dice) below(n int) int {
	*d ^= *d << 13
	*d ^= *d >> 7
	*d ^= *d << 17
	return int(uint64(*d) >> 11 % uint64(n))
}

// The chapter's examples.
func TestExamples(t *testing.T) {
	for _, r := range []int{499, 2001} {
		if c, e := clock.New(r); c != nil || e != api.ErrRange {
			t.Errorf("New(%d): %v, %d", r, c, e)
		}
	}
	c := begin(t, 1500)
	tick(t, c, 3)
	shows(t, "three ticks at 1500", c, 4)
	rate(t, c, 500)
	tick(t, c, 1)
	shows(t, "one more at 500", c, 5)
	want(t, "Tick(-1)", c.Tick(-1), api.ErrRange)
	is := func(what string, got int, e api.Errno, n int) {
		if got != n || e != api.OK {
			t.Errorf("%s: %d, %d; want %d", what, got, e, n)
		}
	}
	n, e := clock.Most(10, 100)
	is("Most(10, 100)", n, e, 14)
	n, e = clock.Least(10, 100)
	is("Least(10, 100)", n, e, 8)
	n, e = clock.Most(0, 0)
	is("Most(0, 0)", n, e, 0)
	n, e = clock.Least(0, 500)
	is("Least(0, 500)", n, e, 0)
	n, e = clock.Least(1, 0)
	is("Least(1, 0)", n, e, 1)
	if n, e = clock.Most(1, 501); n != 0 || e != api.ErrRange {
		t.Errorf("Most(1, 501): %d, %d", n, e)
	}
}

// P6.1: rates from 500 to 2000.
func TestRates(t *testing.T) {
	for r := 500; r <= 2000; r++ {
		c := begin(t, r)
		shows(t, "at first", c, 0)
		tick(t, c, 7)
		shows(t, "seven ticks", c, 7*r/1000)
		rate(t, c, 2500-r)
		shows(t, "at another rate", c, 7*r/1000)
		tick(t, c, 11)
		shows(t, "eleven more", c, (7*r+11*(2500-r))/1000)
	}
	for _, r := range noRates() {
		if c, e := clock.New(r); c != nil || e != api.ErrRange {
			t.Errorf("New(%d): %v, %d", r, c, e)
		}
		c := begin(t, 700)
		want(t, "Rate", c.Rate(r), api.ErrRange)
		tick(t, c, 1000)
		shows(t, "the rate that it had", c, 700)
	}
}

// P6.1: from 0 to 2^40 real ticks go by at once; of others none.
func TestTicks(t *testing.T) {
	c := begin(t, 1999)
	tick(t, c, 1)
	tick(t, c, 0)
	shows(t, "one tick, and none", c, 1)
	tick(t, c, most)
	shows(t, "the most", c, (1+most)*1999/1000)
	for _, n := range noTicks() {
		want(t, "Tick", c.Tick(n), api.ErrRange)
		shows(t, "a tick that was refused", c, (1+most)*1999/1000)
	}
}

// P6.1: 2^50 is the most that a clock shows, thousandths that do not show aside.
func TestMostShown(t *testing.T) {
	c := begin(t, 2000)
	for range shown / (2 * most) {
		tick(t, c, most)
	}
	shows(t, "the most", c, shown)
	for _, n := range []int{1, 2, 1000, most} {
		want(t, "Tick", c.Tick(n), api.ErrRange)
		shows(t, "no more than the most", c, shown)
	}
	tick(t, c, 0)
	rate(t, c, 500)
	want(t, "Tick by a whole one", c.Tick(2), api.ErrRange)
	tick(t, c, 1)
	shows(t, "half a tick more", c, shown)
	want(t, "Tick by the other half", c.Tick(1), api.ErrRange)
	tick(t, c, 0)
	shows(t, "at the end", c, shown)
}

// P6.1: the ticks that do not fit any more are refused whole.
func TestMostShownNear(t *testing.T) {
	c := begin(t, 2000)
	for range shown/(2*most) - 1 {
		tick(t, c, most)
	}
	tick(t, c, most-3)
	rate(t, c, 999)
	want(t, "Tick(8)", c.Tick(8), api.ErrRange)
	want(t, "Tick(2^40)", c.Tick(most), api.ErrRange)
	shows(t, "ahead of the most", c, shown-6)
	tick(t, c, 7)
	shows(t, "at the most", c, shown)
}

// P6.2: what it has gone, rounded down; thousandths are not lost.
func TestNow(t *testing.T) {
	c := begin(t, 500)
	gone := 0
	x := dice(62)
	for range 3000 {
		r, n := 500+x.below(1501), x.below(4)
		rate(t, c, r)
		tick(t, c, n)
		gone += r * n
		shows(t, "on its way", c, gone/1000)
	}
}

// P6.2: a copy has gone as much, at the same rate, and both go on by themselves.
func TestCopy(t *testing.T) {
	c := begin(t, 1001)
	tick(t, c, 999)
	twin := c.Copy()
	shows(t, "the copy", twin, 999)
	tick(t, twin, 1)
	shows(t, "the copy, with the thousandths", twin, 1001)
	shows(t, "the first one", c, 999)
	rate(t, c, 2000)
	tick(t, twin, 1)
	shows(t, "the copy, at its own rate", twin, 1002)
	tick(t, c, 1)
	shows(t, "the first one, at another rate", c, 1001)
	rate(t, twin, 500)
	tick(t, c, 1)
	shows(t, "the first one, at its rate", c, 1003)
}

// R4: a clock that is none.
func TestNilClock(t *testing.T) {
	var c *clock.Clock
	for _, n := range append(append(noTicks(), noRates()...), 0, 1, 1000) {
		want(t, "Tick", c.Tick(n), api.ErrNil)
		want(t, "Rate", c.Rate(n), api.ErrNil)
	}
	shows(t, "none", c, 0)
	if c.Copy() != nil {
		t.Error("there is a copy of none")
	}
}

// quotient: a times b and c more, divided by d, rounded up or down, in numbers without limits.
func quotient(a, b, c, d int, up bool) int {
	n := new(big.Int).Mul(big.NewInt(int64(a)), big.NewInt(int64(b)))
	n.Add(n, big.NewInt(int64(c)))
	if up {
		n.Add(n, big.NewInt(int64(d-1)))
	}
	return int(n.Div(n, big.NewInt(int64(d))).Int64())
}

// bounds are Most and Least, as the chapter says them.
func bounds(n, rho int) (upper, lower int) {
	upper = quotient(quotient(1000, n, 999, 1000-rho, false), 1000+rho, 0, 1000, true)
	if n > 0 {
		lower = quotient(quotient(1000, n, -999, 1000+rho, true), 1000-rho, 0, 1000, false)
	}
	return upper, lower
}

func bounded(t *testing.T, n, rho int) (upper, lower int) {
	t.Helper()
	upper, e := clock.Most(n, rho)
	want(t, "Most", e, api.OK)
	lower, e = clock.Least(n, rho)
	want(t, "Least", e, api.OK)
	if u, l := bounds(n, rho); upper != u || lower != l {
		t.Errorf("n %d, rho %d: Most %d, Least %d; want %d, %d", n, rho, upper, lower, u, l)
	}
	return upper, lower
}

// P6.3, P6.4: Most and Least, for small numbers, great ones and all drifts.
func TestMostAndLeast(t *testing.T) {
	for rho := range 501 {
		for n := range 60 {
			bounded(t, n, rho)
		}
		for _, n := range []int{999, 1000, 1001, 12345, 1 << 20, 1<<39 + rho, most - 1, most} {
			bounded(t, n, rho)
		}
	}
}

// P6.3, P6.4: what may not be asked.
func TestMostAndLeastRefused(t *testing.T) {
	refused := func(n, rho int) {
		t.Helper()
		if got, e := clock.Most(n, rho); got != 0 || e != api.ErrRange {
			t.Errorf("Most(%d, %d): %d, %d", n, rho, got, e)
		}
		if got, e := clock.Least(n, rho); got != 0 || e != api.ErrRange {
			t.Errorf("Least(%d, %d): %d, %d", n, rho, got, e)
		}
	}
	for _, n := range noTicks() {
		for _, rho := range []int{0, 100, 500, 501, -1} {
			refused(n, rho)
		}
	}
	for _, rho := range []int{-1, 501, 1000, 1001, -1000, math.MinInt, math.MaxInt} {
		for _, n := range []int{0, 1, most, most + 1} {
			refused(n, rho)
		}
	}
}

// P6.5: so many ticks at once are as the same ones in parts.
func TestInParts(t *testing.T) {
	x := dice(65)
	for range 300 {
		r := 500 + x.below(1501)
		at, parts := begin(t, r), begin(t, r)
		sum := 0
		for range 1 + x.below(6) {
			n := x.below(2000)
			tick(t, parts, n)
			sum += n
		}
		tick(t, at, sum)
		for range 3 {
			shows(t, "in parts", parts, at.Now())
			tick(t, at, 1)
			tick(t, parts, 1)
		}
	}
}

// P6.6: in all stretches what two clocks show stays within Most and Least of one another.
func TestTwoClocks(t *testing.T) {
	x := dice(66)
	for range 120 {
		rho := []int{0, 1, 99, 100, 333, 500}[x.below(6)]
		a, b := begin(t, 500+x.below(1501)), begin(t, 500+x.below(1501))
		tick(t, a, x.below(5000))
		tick(t, b, x.below(5000))
		var as, bs []int
		extreme := x.below(3)
		for range 60 {
			ra, rb := 1000-rho+x.below(2*rho+1), 1000-rho+x.below(2*rho+1)
			if extreme > 0 {
				ra, rb = 1000-rho, 1000+rho
			}
			if extreme > 1 {
				ra, rb = rb, ra
			}
			rate(t, a, ra)
			rate(t, b, rb)
			tick(t, a, 1)
			tick(t, b, 1)
			as, bs = append(as, a.Now()), append(bs, b.Now())
			for i := range as {
				n, m := a.Now()-as[i], b.Now()-bs[i]
				upper, lower := bounded(t, n, rho)
				if m < lower || m > upper {
					t.Fatalf("rho %d: the one shows %d more, the other one %d, not from %d to %d", rho, n, m, lower, upper)
				}
			}
		}
	}
}

// P6.6: both grow with n; with rho Most grows, and Least falls.
func TestGrow(t *testing.T) {
	for _, n := range []int{0, 1, 2, 3, 50, 999, 1 << 30, most - 1} {
		for rho := range 501 {
			upper, lower := bounded(t, n, rho)
			if u, l := bounded(t, n+1, rho); u < upper || l < lower {
				t.Errorf("n %d, rho %d: %d, %d; one more: %d, %d", n, rho, upper, lower, u, l)
			}
			if rho == 500 {
				continue
			}
			if u, l := bounded(t, n, rho+1); u < upper || l > lower {
				t.Errorf("n %d, rho %d: %d, %d; more drift: %d, %d", n, rho, upper, lower, u, l)
			}
		}
	}
}
