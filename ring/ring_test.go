package ring_test

import (
	"math"
	"strings"
	"testing"

	"dragoman/api"
	"dragoman/ring"
)

// dice are numbers that look thrown, and are the same in each run.
type dice uint64

func (d *dice) below(n int) int {
	*d ^= *d << 13
	*d ^= *d >> 7
	*d ^= *d << 17
	return int(uint64(*d) >> 11 % uint64(n))
}

// text: so many bytes of any kind.
func (d *dice) text(n int) string {
	b := make([]byte, n)
	for i := range b {
		b[i] = byte(d.below(256))
	}
	return string(b)
}

func newRing(t *testing.T, limit int) *ring.Ring {
	t.Helper()
	r, e := ring.New(limit)
	if r == nil || e != api.OK {
		t.Fatalf("New(%d): %v, %d", limit, r, e)
	}
	return r
}

func from(t *testing.T, r *ring.Ring, at, most int, s string, first int, e api.Errno) {
	t.Helper()
	if got, n, gotE := r.From(at, most); got != s || n != first || gotE != e {
		t.Errorf("From(%d, %d): %q, %d, %d; want %q, %d, %d", at, most, got, n, gotE, s, first, e)
	}
}

// stands: the ring is one with this limit and this output, whatever is asked of it.
func stands(t *testing.T, r *ring.Ring, limit int, output string) {
	t.Helper()
	end := len(output)
	first := max(0, end-limit)
	if r.First() != first || r.End() != end {
		t.Fatalf("of %d bytes and the limit %d: First %d, End %d", end, limit, r.First(), r.End())
	}
	for _, at := range []int{math.MinInt, -1, 0, first - 1, first, first + 1, (first + end) / 2, end - 1, end} {
		if at > end {
			continue
		}
		begin := max(at, first)
		for _, most := range []int{0, 1, 2, limit - 1, limit, limit + 1, end - begin, math.MaxInt} {
			if most < 0 {
				continue
			}
			from(t, r, at, most, output[begin:begin+min(most, end-begin)], begin, api.OK)
		}
		from(t, r, at, -1, "", 0, api.ErrRange)
		from(t, r, at, math.MinInt, "", 0, api.ErrRange)
	}
	for _, at := range []int{end + 1, end + limit, math.MaxInt} {
		from(t, r, at, 1, "", 0, api.ErrRange)
		from(t, r, at, 0, "", 0, api.ErrRange)
		from(t, r, at, -1, "", 0, api.ErrRange)
	}
}

// The chapter's examples.
func TestExamples(t *testing.T) {
	for _, limit := range []int{0, 1025} {
		if r, e := ring.New(limit); r != nil || e != api.ErrRange {
			t.Errorf("New(%d): %v, %d", limit, r, e)
		}
	}
	r := newRing(t, 3)
	r.Put("abcd")
	from(t, r, 0, 9, "bcd", 1, api.OK)
	from(t, r, 2, 1, "c", 2, api.OK)
	if r.First() != 1 || r.End() != 4 {
		t.Errorf("First %d, End %d", r.First(), r.End())
	}
	from(t, r, 4, 5, "", 4, api.OK)
	from(t, r, 5, 5, "", 0, api.ErrRange)
	from(t, r, 0, -1, "", 0, api.ErrRange)
	from(t, r, -7, 0, "", 1, api.OK)
	r.Put("ef")
	from(t, r, 4, 9, "ef", 4, api.OK)
}

// P21.1: limits from 1 to 1024.
func TestNew(t *testing.T) {
	for limit := 1; limit <= 1024; limit++ {
		r := newRing(t, limit)
		if r.First() != 0 || r.End() != 0 {
			t.Fatalf("a new one: First %d, End %d", r.First(), r.End())
		}
		from(t, r, 0, 9, "", 0, api.OK)
		r.Put(strings.Repeat("a", limit) + "b")
		if s, n, e := r.From(0, math.MaxInt); len(s) != limit || s[limit-1] != 'b' || n != 1 || e != api.OK {
			t.Fatalf("of the limit %d: %d bytes, %d, %d", limit, len(s), n, e)
		}
	}
	for _, limit := range []int{-1, 1026, math.MinInt, math.MaxInt} {
		if r, e := ring.New(limit); r != nil || e != api.ErrRange {
			t.Errorf("New(%d): %v, %d", limit, r, e)
		}
	}
}

// R4, P21.1, P21.3: of a ring that is none.
func TestNil(t *testing.T) {
	var r *ring.Ring
	r.Put("abc")
	if r.First() != 0 || r.End() != 0 || r.Copy() != nil {
		t.Error("First, End or Copy of nil")
	}
	from(t, r, 0, 1, "", 0, api.ErrNil)
	from(t, r, 1, -1, "", 0, api.ErrNil)
}

// P21.1, P21.2, P21.3: outputs of each length about the limit, put in at once.
func TestAtOnce(t *testing.T) {
	d := dice(21)
	for _, limit := range []int{1, 2, 3, 7, 64, 1023, 1024} {
		for _, n := range []int{0, 1, limit - 1, limit, limit + 1, 2*limit - 1, 2 * limit, 2*limit + 1, 5*limit + 3, 100000} {
			r := newRing(t, limit)
			s := d.text(n)
			r.Put(s)
			stands(t, r, limit, s)
			r.Put("")
			stands(t, r, limit, s)
		}
	}
}

// P21.4: in whatever pieces the output comes.
func TestPieces(t *testing.T) {
	d := dice(4)
	for _, limit := range []int{1, 2, 3, 5, 16, 1000, 1024} {
		r := newRing(t, limit)
		output := ""
		for range 60 {
			s := d.text([]int{0, 1, d.below(limit + 1), limit, limit + 1, d.below(3*limit + 2)}[d.below(6)])
			r.Put(s)
			output += s
			stands(t, r, limit, output)
		}
		once := newRing(t, limit)
		once.Put(output)
		stands(t, once, limit, output)
	}
}

// P21.4: byte by byte, over many rounds.
func TestByBytes(t *testing.T) {
	d := dice(5)
	output := d.text(200)
	for limit := 1; limit < 20; limit++ {
		r := newRing(t, limit)
		for i := range len(output) {
			r.Put(output[i : i+1])
			stands(t, r, limit, output[:i+1])
		}
	}
}

// P21.5: who reads on from where it ended misses just what is not kept any more.
func TestReadsOn(t *testing.T) {
	d := dice(6)
	lost, read := 0, 0
	for seed := range 100 {
		limit := 1 + d.below(30)
		r := newRing(t, limit)
		output := ""
		next := 0
		for range 100 {
			if d.below(2) == 0 {
				s := d.text(d.below(12))
				r.Put(s)
				output += s
			}
			s, at, e := r.From(next, d.below(9))
			if e != api.OK || at < next || output[at:at+len(s)] != s {
				t.Fatalf("seed %d: From(%d): %q, %d, %d", seed, next, s, at, e)
			}
			if at > next && at != len(output)-limit {
				t.Fatalf("seed %d: the bytes from %d to %d are lost, and %d of %d are kept", seed, next, at, limit, len(output))
			}
			lost += at - next
			read += len(s)
			next = at + len(s)
		}
	}
	if lost < 1000 || read < 1000 {
		t.Errorf("%d bytes were lost, %d read", lost, read)
	}
}

// P21.1: a copy goes on by itself.
func TestCopy(t *testing.T) {
	r := newRing(t, 4)
	r.Put("abcdef")
	c := r.Copy()
	stands(t, c, 4, "abcdef")
	c.Put("xy")
	stands(t, r, 4, "abcdef")
	stands(t, c, 4, "abcdefxy")
	r.Put("1")
	stands(t, r, 4, "abcdef1")
	stands(t, c, 4, "abcdefxy")
	stands(t, newRing(t, 4).Copy(), 4, "")
}

// R3: what was answered stays.
func TestAnswerStays(t *testing.T) {
	r := newRing(t, 4)
	r.Put("abcd")
	s, _, _ := r.From(0, 4)
	r.Put("wxyz")
	if s != "abcd" {
		t.Errorf("what was answered is %q now", s)
	}
}
