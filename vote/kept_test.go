package vote_test

import (
	"slices"
	"strconv"
	"testing"

	"dragoman/api"
	"dragoman/disk"
	"dragoman/vote"
)

// dice are numbers that look thrown, and are the same in each run.
type dice uint64

func (d *dice) below(n int) int {
	*d ^= *d << 13
	*d ^= *d >> 7
	*d ^= *d << 17
	return int(uint64(*d) >> 11 % uint64(n))
}

// ballot: one that may follow another one, mostly.
func (d *dice) ballot(was api.Ballot) api.Ballot {
	switch d.below(6) {
	case 0:
		return ballot(was.Term, d.below(3))
	case 1:
		return ballot(was.Term-d.below(2), d.below(4)-1)
	case 2:
		return was
	}
	return ballot(was.Term+1+d.below(3), d.below(4)-1)
}

func mayFollow(b, was api.Ballot) bool {
	return b.Term > was.Term || b.Term == was.Term && (was.For == -1 || was.For == b.For)
}

// P8.4: whatever is written, a box answers and keeps it as the chapter says, also when it is opened anew at any time.
func TestAsSaid(t *testing.T) {
	for seed := range 100 {
		x := dice(seed + 1)
		d := disk.New()
		box := open(t, d)
		newest := ballot(0, -1)
		for range 60 {
			b := x.ballot(newest)
			switch {
			case b.Term < 0:
				writes(t, box, b, api.ErrArg, newest)
			case !mayFollow(b, newest):
				writes(t, box, b, api.ErrRange, newest)
			default:
				writes(t, box, b, api.OK, b)
				newest = b
			}
			if x.below(5) == 0 {
				done(t, d.Crash(nil, x.below(9)))
				box = open(t, d)
				now(t, "opened anew", box, newest)
			}
		}
	}
}

// P8.5: at each step of a box's life, with all that a crash there may keep, the newest ballot is the last one that was answered OK, or the one that was being written.
func TestKeptAtEachStep(t *testing.T) {
	for n := 1; ; n++ {
		d := disk.New()
		x := open(t, d)
		done(t, d.Power(n))
		last, next := ballot(0, -1), ballot(0, -1)
		off := false
		for term := 1; term < 28 && !off; term++ {
			next = ballot(term, term%4-1)
			if off = x.Write(next) != api.OK; !off {
				last = next
			}
		}
		for keep := range 9 {
			for torn := range 31 {
				twin := d.Copy()
				done(t, twin.Crash([]int{keep / 3, keep % 3}, torn))
				got := open(t, twin).Now()
				if got != last && got != next {
					t.Fatalf("%d steps, %d kept, %d torn: %v, want %v or %v", n, keep, torn, got, last, next)
				}
				was := twin.Ops()
				now(t, "opened once more", open(t, twin), got)
				if twin.Ops() != was {
					t.Fatalf("%d steps when it is opened once more", twin.Ops()-was)
				}
			}
		}
		if !off {
			return
		}
	}
}

// crash: one of some kind, by which of each file some of what is loose is kept; perhaps with further ones while the box is opened.
func (d *dice) crash(t *testing.T, x *disk.Disk) {
	for {
		done(t, x.Crash([]int{d.below(4), d.below(4)}, d.below(40)-5))
		if d.below(2) == 0 {
			return
		}
		done(t, x.Power(1+d.below(3)))
		if box, e := vote.Open(x); e == api.OK && box == nil || e != api.OK && (box != nil || e != api.ErrOff) {
			t.Fatalf("Open: %v, %d", box, e)
		}
	}
}

// P8.5, P8.6: over many lives no term falls, and in one term nobody is voted for ahead of whom another one was voted for.
func TestLives(t *testing.T) {
	for seed := range 300 {
		x := dice(seed + 900)
		d := disk.New()
		box := open(t, d)
		last := box.Now()
		var said []api.Ballot // those that were answered OK, or were there behind a crash
		for life := range 12 {
			what := "seed " + strconv.Itoa(seed) + ", life " + strconv.Itoa(life)
			done(t, d.Power(x.below(40)))
			next := last
			for range 100 {
				b := x.ballot(last)
				e := box.Write(b)
				if e == api.ErrOff {
					next = b
					break
				}
				if e == api.OK {
					last = b
					said = append(said, b)
				}
			}
			x.crash(t, d)
			box = open(t, d)
			got := box.Now()
			if got != last && got != next {
				t.Fatalf("%s: %v, want %v or %v", what, got, last, next)
			}
			last = got
			said = append(said, got)
			fallen := slices.ContainsFunc(said, func(b api.Ballot) bool {
				return b.Term > got.Term || b.Term == got.Term && b.For != -1 && b.For != got.For
			})
			if fallen {
				t.Fatalf("%s: %v, behind %v", what, got, said)
			}
		}
	}
}
