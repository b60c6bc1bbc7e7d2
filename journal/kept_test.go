package journal_test

import (
	"slices"
	"testing"

	"dragoman/api"
	"dragoman/disk"
	"dragoman/journal"
	"dragoman/message"
)

// dice are numbers that look thrown, and are the same in each run.
type dice uint64

func (d *dice) below(n int) int {
	*d ^= *d << 13
	*d ^= *d >> 7
	*d ^= *d << 17
	return int(uint64(*d) >> 11 % uint64(n))
}

func (d *dice) text() string {
	b := make([]byte, []int{0, 1, d.below(9), d.below(67)}[d.below(4)])
	for i := range b {
		b[i] = byte(d.below(256))
	}
	return string(b)
}

// send: one that may come next, mostly.
func (d *dice) send(l []api.Taken) api.Taken {
	x := send(1+d.below(4), 1, 1, 1, d.text())
	for _, y := range l {
		if y.Talk == x.Talk {
			x.Token, x.Seq = y.Token, y.Seq+1
		}
	}
	switch d.below(9) {
	case 0:
		x.Token.Epoch++
	case 1:
		x.Token.Term++
		x.Token.Epoch = 1 + d.below(3)
	case 2:
		x.Token.Epoch--
	case 3:
		x.Token.Term--
	case 4:
		x.Seq += d.below(4) - 2
	case 5:
		x.Talk = d.below(7) - 1
	}
	return x
}

// answer: what the chapter says of an Add behind these sends.
func answer(l []api.Taken, x api.Taken) api.Errno {
	for _, n := range []int{x.Talk, x.Token.Term, x.Token.Epoch, x.Seq} {
		if n < 1 {
			return api.ErrArg
		}
	}
	if len(x.Text) > 64 {
		return api.ErrLong
	}
	seq, fence := 1, api.Fence{}
	for _, y := range l {
		if y.Talk == x.Talk {
			seq, fence = y.Seq+1, y.Token
		}
	}
	if fence.Term > x.Token.Term || fence.Term == x.Token.Term && fence.Epoch > x.Token.Epoch {
		return api.ErrFence
	}
	if x.Seq != seq {
		return api.ErrSeq
	}
	return api.OK
}

// fenced: P22.7 of sends.
func fenced(t *testing.T, l []api.Taken) {
	t.Helper()
	last := map[int]api.Taken{}
	for _, x := range l {
		y := last[x.Talk]
		if message.Above(y.Token, x.Token) || x.Seq != y.Seq+1 {
			t.Fatalf("%v behind %v", x, y)
		}
		last[x.Talk] = x
	}
}

// P22.2 to P22.5, P22.7: whatever is added, also if it is opened anew between.
func TestAsSaid(t *testing.T) {
	for seed := range 60 {
		r := dice(seed + 1)
		d := disk.New()
		j := open(t, d)
		var l []api.Taken
		for range 150 {
			x := r.send(l)
			e := answer(l, x)
			want(t, "Add", j.Add(x), e)
			if e == api.OK {
				l = append(l, x)
			}
			if r.below(9) == 0 {
				done(t, d.Crash(nil, r.below(99)))
				j = open(t, d)
			}
		}
		has(t, "all of them", j, l...)
		reads(t, "all of them", d, written(l...))
		fenced(t, l)
	}
}

// kept: what may be there behind a crash: these sends, and behind them, perhaps, the one that was being added.
func kept(t *testing.T, got, l []api.Taken, next api.Taken) {
	t.Helper()
	if !slices.Equal(got, l) && !slices.Equal(got, append(slices.Clone(l), next)) {
		t.Fatalf("%v, want %v and perhaps %v", got, l, next)
	}
}

// P22.6: at each step, with all that a crash there may keep.
func TestKeptAtEachStep(t *testing.T) {
	adds := []api.Taken{send(1, 1, 1, 1, "first"), send(2, 3, 1, 1, ""), send(1, 1, 2, 2, "second"), send(2, 3, 1, 2, "third")}
	for n := range 2*len(adds) + 1 {
		d := disk.New()
		j := open(t, d)
		done(t, d.Power(n))
		var l []api.Taken
		var next api.Taken
		for _, x := range adds {
			next = x
			if j.Add(x) != api.OK {
				break
			}
			l = append(l, x)
		}
		for keep := range 3 {
			for torn := range 70 {
				twin := d.Copy()
				done(t, twin.Crash([]int{keep}, torn))
				again := open(t, twin)
				got := slices.Collect(again.All())
				kept(t, got, l, next)
				was := twin.Ops()
				has(t, "opened once more", open(t, twin), got...)
				if twin.Ops() != was {
					t.Fatalf("%d steps when it is opened once more", twin.Ops()-was)
				}
			}
		}
	}
}

// P22.6, P22.7: over many lives, with crashes also while it is opened.
func TestLives(t *testing.T) {
	for seed := range 150 {
		r := dice(seed + 500)
		d := disk.New()
		j := open(t, d)
		var l []api.Taken
		for range 15 {
			done(t, d.Power(r.below(20)))
			var next api.Taken
			for {
				next = r.send(l)
				e := j.Add(next)
				if e == api.ErrOff {
					break
				}
				want(t, "Add", e, answer(l, next))
				if e == api.OK {
					l = append(l, next)
				}
			}
			done(t, d.Crash([]int{r.below(3)}, r.below(99)-9))
			for r.below(2) == 0 {
				done(t, d.Power(1))
				if j, e := journal.Open(d); e != api.OK && (j != nil || e != api.ErrOff) {
					t.Fatalf("Open: %v, %d", j, e)
				}
				done(t, d.Crash([]int{r.below(2)}, 0))
			}
			j = open(t, d)
			got := slices.Collect(j.All())
			kept(t, got, l, next)
			l = got
			fenced(t, l)
		}
	}
}
