package disk_test

import (
	"slices"
	"strings"
	"testing"

	"dragoman/api"
	"dragoman/disk"
)

// dice are numbers that look thrown, and are the same in each run.
type dice uint64

func (d *dice) below(n int) int {
	*d ^= *d << 13
	*d ^= *d >> 7
	*d ^= *d << 17
	return int(uint64(*d) >> 11 % uint64(n))
}

// state is a file's content; nil is a file that is not there.
type state *string

func there(s string) state { return &s }

func text(s state) string {
	if s == nil {
		return ""
	}
	return *s
}

// plain is a disk as the chapter says it: of each file what is sure, and what was done to it since, as functions.
type plain struct {
	sure  [api.MaxFiles]state
	loose [api.MaxFiles][]func(state) state
	grown [api.MaxFiles][]string // what the loose changes put behind; nothing, if they do something else
	power int
	ops   int
}

func (p *plain) seen(f int) state {
	s := p.sure[f]
	for _, change := range p.loose[f] {
		s = change(s)
	}
	return s
}

func (p *plain) step() {
	p.ops++
	if p.power > 0 {
		p.power--
	}
}

func (p *plain) change(f int, grown string, change func(state) state) api.Errno {
	p.loose[f] = append(p.loose[f], change)
	p.grown[f] = append(p.grown[f], grown)
	p.step()
	return api.OK
}

func (p *plain) refuses(f int) api.Errno {
	if p.power == 0 {
		return api.ErrOff
	}
	if f < 0 || f > 31 {
		return api.ErrArg
	}
	return api.OK
}

func (p *plain) append(f int, s string) api.Errno {
	if e := p.refuses(f); e != api.OK {
		return e
	}
	if len(text(p.seen(f)))+len(s) > api.MaxFile {
		return api.ErrFull
	}
	return p.change(f, s, func(was state) state { return there(text(was) + s) })
}

func (p *plain) cut(f, n int) api.Errno {
	if e := p.refuses(f); e != api.OK {
		return e
	}
	seen := p.seen(f)
	if seen == nil {
		return api.ErrNone
	}
	if n < 0 || n > len(*seen) {
		return api.ErrRange
	}
	return p.change(f, "", func(was state) state { return there((*was)[:n]) })
}

func (p *plain) remove(f int) api.Errno {
	if e := p.refuses(f); e != api.OK {
		return e
	}
	if p.seen(f) == nil {
		return api.ErrNone
	}
	return p.change(f, "", func(state) state { return nil })
}

func (p *plain) sync(f int) api.Errno {
	if e := p.refuses(f); e != api.OK {
		return e
	}
	p.sure[f] = p.seen(f)
	p.loose[f], p.grown[f] = nil, nil
	p.step()
	return api.OK
}

func (p *plain) crash(keep []int, torn int) {
	for f := range p.sure {
		k := 0
		if f < len(keep) {
			k = max(0, min(keep[f], len(p.loose[f])))
		}
		part := ""
		if k < len(p.loose[f]) && torn > 0 && p.grown[f][k] != "" {
			part = p.grown[f][k][:min(torn, len(p.grown[f][k])-1)]
		}
		p.loose[f] = p.loose[f][:k]
		s := p.seen(f)
		if part != "" {
			s = there(text(s) + part)
		}
		p.sure[f], p.loose[f], p.grown[f] = s, nil, nil
	}
	p.power = -1
}

func (p *plain) copy() *plain {
	twin := *p
	for f := range p.loose {
		twin.loose[f] = slices.Clone(p.loose[f])
		twin.grown[f] = slices.Clone(p.grown[f])
	}
	return &twin
}

// alike: a disk tells just what the plain one has.
func alike(t *testing.T, d *disk.Disk, p *plain) {
	t.Helper()
	var seen []int
	for f := range p.sure {
		s := p.seen(f)
		if s != nil {
			seen = append(seen, f)
		}
		got, e := d.Read(f)
		switch {
		case p.power == 0:
			if got != "" || e != api.ErrOff {
				t.Fatalf("Read(%d), off: %q, %d", f, got, e)
			}
		case s == nil:
			unseen(t, d, f)
		default:
			reads(t, d, f, *s)
		}
		sure(t, d, f, text(p.sure[f]), p.sure[f] != nil)
		loose(t, d, f, len(p.loose[f]))
	}
	files(t, d, seen...)
	ops(t, d, p.ops)
	if d.On() != (p.power != 0) {
		t.Errorf("On: %v, by the power %d", d.On(), p.power)
	}
	if t.Failed() {
		t.FailNow()
	}
}

// someFile is mostly one of a few files, so that much is done to each.
func (d *dice) someFile() int {
	return []int{0, 0, 1, 1, 16, 31, 31, -1, 32}[d.below(9)]
}

// crash: both disks lose their power, in some way.
func crash(t *testing.T, x *dice, d *disk.Disk, p *plain) {
	keep := make([]int, x.below(api.MaxFiles+3))
	for f := range keep {
		keep[f] = x.below(8) - 2
	}
	torn := x.below(5) - 1
	done(t, d.Crash(keep, torn))
	p.crash(keep, torn)
}

// act: one call, of both disks.
func act(t *testing.T, x *dice, d *disk.Disk, p *plain) {
	t.Helper()
	f := x.someFile()
	switch x.below(12) {
	case 0, 1, 2, 3:
		s := strings.Repeat(string([]byte{byte('a' + x.below(26))}), []int{0, 2, 3, 4, 9}[x.below(5)])
		want(t, "Append", d.Append(f, s), p.append(f, s))
	case 4, 5:
		n := x.below(12) - 1
		want(t, "Cut", d.Cut(f, n), p.cut(f, n))
	case 6:
		want(t, "Remove", d.Remove(f), p.remove(f))
	case 7, 8:
		want(t, "Sync", d.Sync(f), p.sync(f))
	case 9:
		if x.below(3) == 0 {
			p.power = max(x.below(12)-4, -1)
			done(t, d.Power(p.power))
		}
	case 10, 11:
		if x.below(4) == 0 {
			crash(t, x, d, p)
		}
	}
}

// P4.1 to P4.7: whatever is done, in whatever order, a disk is as the chapter says.
func TestAsSaid(t *testing.T) {
	for seed := range 60 {
		x := dice(seed + 1)
		d, p := disk.New(), &plain{power: -1}
		for range 120 {
			act(t, &x, d, p)
			alike(t, d, p)
			if x.below(15) == 0 {
				d2, p2 := d.Copy(), p.copy()
				alike(t, d2, p2)
				act(t, &x, d2, p2)
				alike(t, d, p)
				if x.below(2) == 0 {
					d, p = d2, p2
				}
			}
		}
	}
}

// P4.8: behind a crash a file is as behind some of its changes since it was synced, or so and a part of the next growing.
func TestKept(t *testing.T) {
	for seed := range 300 {
		x := dice(seed + 1000)
		d := disk.New()
		states := []string{""} // "-" and all it has, of a file that is there
		now := func() string {
			s, e := d.Read(0)
			if e != api.OK {
				return ""
			}
			return "-" + s
		}
		for range 1 + x.below(20) {
			was := now()
			switch x.below(5) {
			case 0, 1:
				s := strings.Repeat(string([]byte{byte('a' + x.below(26))}), 1+x.below(4))
				done(t, d.Append(0, s))
				for n := range len(s) {
					states = append(states, "-"+strings.TrimPrefix(was, "-")+s[:n])
				}
			case 2:
				d.Cut(0, x.below(4))
			case 3:
				d.Remove(0)
			case 4:
				done(t, d.Sync(0))
				states = nil
			}
			states = append(states, now())
		}
		for keep := range 22 {
			for torn := range 4 {
				twin := d.Copy()
				done(t, twin.Crash([]int{keep}, torn))
				d, twin = twin, d
				if !slices.Contains(states, now()) {
					t.Fatalf("behind a crash: %q, which it never was: %q", now(), states)
				}
				d = twin
			}
		}
	}
}

// P4.9: with power for n steps just n are done.
func TestPowerForSteps(t *testing.T) {
	for n := range 25 {
		d := disk.New()
		x := dice(n + 7)
		done(t, d.Append(0, "begun"))
		power(t, d, n)
		for range 200 {
			switch f := x.someFile(); x.below(4) {
			case 0:
				d.Append(f, "x")
			case 1:
				d.Cut(f, x.below(3))
			case 2:
				d.Remove(f)
			case 3:
				d.Sync(f)
			}
		}
		ops(t, d, n+1)
		if d.On() {
			t.Errorf("on, by the power %d", n)
		}
	}
}
