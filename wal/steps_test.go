package wal_test

import (
	"strconv"
	"strings"
	"testing"

	"dragoman/api"
	"dragoman/disk"
	"dragoman/wal"
)

// plain is a log as the chapter says it, step by step, on a disk of its own.
type plain struct {
	d     *disk.Disk
	e     api.Errno
	start int
	recs  []string
	segs  []seg
}

// seg is a segment of the plain log: its number, how many records it has, whether something was put to it.
type seg struct {
	k, n  int
	fresh bool
}

func (p *plain) last() int { return p.start + len(p.recs) - 1 }

// do: a step, unless one ahead of it was answered by an error.
func (p *plain) do(step func() api.Errno) bool {
	if p.e == api.OK {
		p.e = step()
	}
	return p.e == api.OK
}

func file(k int) int { return 4 + k%28 }

func (p *plain) put(s string) bool {
	g := &p.segs[len(p.segs)-1]
	return p.do(func() api.Errno { return p.d.Append(file(g.k), s) })
}

func (p *plain) sync(i int) bool {
	g := &p.segs[i]
	if !g.fresh {
		return true
	}
	g.fresh = false
	return p.do(func() api.Errno { return p.d.Sync(file(g.k)) })
}

func (p *plain) remove(k int) bool {
	return p.do(func() api.Errno { return p.d.Remove(file(k)) }) && p.do(func() api.Errno { return p.d.Sync(file(k)) })
}

func (p *plain) Append(s string) api.Errno {
	if p.e != api.OK {
		return p.e
	}
	if len(s) > 3600 {
		return api.ErrLong
	}
	if p.last() >= 1<<20 {
		return api.ErrRange
	}
	if i := len(p.segs) - 1; i < 0 || p.segs[i].n == 8 {
		if len(p.segs) == 28 {
			return api.ErrFull
		}
		if i >= 0 && !p.sync(i) {
			return p.e
		}
		k := p.last() / 8
		p.segs = append(p.segs, seg{k: k, fresh: true})
		if !p.put(head(uint64(k))) {
			return p.e
		}
	}
	if p.put(rec(uint64(p.last()+1), s)) {
		g := &p.segs[len(p.segs)-1]
		g.n++
		g.fresh = true
		p.recs = append(p.recs, s)
	}
	return p.e
}

func (p *plain) Sync() api.Errno {
	for i := 0; i < len(p.segs) && p.e == api.OK; i++ {
		p.sync(i)
	}
	return p.e
}

func (p *plain) Cut(from int) api.Errno {
	if p.e != api.OK {
		return p.e
	}
	if from < p.start || from > p.last()+1 {
		return api.ErrRange
	}
	for i := len(p.segs) - 1; i >= 0 && 8*p.segs[i].k+1 >= from; i-- {
		if !p.remove(p.segs[i].k) {
			return p.e
		}
		p.recs = p.recs[:len(p.recs)-p.segs[i].n]
		p.segs = p.segs[:i]
	}
	if from > p.last() {
		return p.e
	}
	g := &p.segs[len(p.segs)-1]
	at := len(head(0))
	for i := 8*g.k + 1; i < from; i++ {
		at += len(rec(0, p.recs[i-p.start]))
	}
	if p.do(func() api.Errno { return p.d.Cut(file(g.k), at) }) && p.do(func() api.Errno { return p.d.Sync(file(g.k)) }) {
		p.recs = p.recs[: from-p.start : from-p.start]
		g.n = from - 8*g.k - 1
		g.fresh = false
	}
	return p.e
}

func (p *plain) Drop(upto int) api.Errno {
	for p.e == api.OK && len(p.segs) > 0 && p.segs[0].n == 8 && 8*p.segs[0].k+8 <= upto {
		if p.remove(p.segs[0].k) {
			p.start += 8
			p.recs = p.recs[8:]
			p.segs = p.segs[1:]
		}
	}
	return p.e
}

func (p *plain) Reset(first int) api.Errno {
	if p.e != api.OK {
		return p.e
	}
	if first < 1 || first > 1<<20+1 || first%8 != 1 {
		return api.ErrArg
	}
	if p.Cut(p.start) == api.OK {
		p.start = first
	}
	return p.e
}

// dice are numbers that look thrown, and are the same in each run.
type dice uint64

func (d *dice) below(n int) int {
	*d ^= *d << 13
	*d ^= *d >> 7
	*d ^= *d << 17
	return int(uint64(*d) >> 11 % uint64(n))
}

// calls are what a log and a plain one can be asked.
type calls interface {
	Append(string) api.Errno
	Sync() api.Errno
	Cut(int) api.Errno
	Drop(int) api.Errno
	Reset(int) api.Errno
}

// call is one call, with what is handed in.
type call struct {
	name string
	n    int
	text string
}

func (c call) of(l calls) api.Errno {
	switch c.name {
	case "Append":
		return l.Append(c.text)
	case "Sync":
		return l.Sync()
	case "Cut":
		return l.Cut(c.n)
	case "Drop":
		return l.Drop(c.n)
	}
	return l.Reset(c.n)
}

// call: one that suits a log of these records, mostly.
func (d *dice) call(first, last int) call {
	switch k := d.below(40); {
	case k < 26:
		s := strconv.Itoa(d.below(1000))
		if k == 0 {
			s = strings.Repeat(s, 3601/len(s)+d.below(2)*len(s))
		}
		return call{name: "Append", text: s}
	case k < 32:
		return call{name: "Sync"}
	case k < 36:
		return call{name: "Cut", n: last + 2 - d.below(min(12, last-first+4))}
	case k < 39:
		return call{name: "Drop", n: first + d.below(30)}
	}
	return call{name: "Reset", n: []int{1, 9, 8*d.below(60) + 1, first + d.below(20), 1<<20 - 7}[d.below(5)]}
}

// sameDisk: two disks have done the same steps, as far as they tell it.
func sameDisk(t *testing.T, what string, a, b *disk.Disk) {
	t.Helper()
	if a.Ops() != b.Ops() || a.On() != b.On() {
		t.Fatalf("%s: %d steps, on %v; want %d, %v", what, a.Ops(), a.On(), b.Ops(), b.On())
	}
	for f := range api.MaxFiles {
		as, aok := a.Sure(f)
		bs, bok := b.Sure(f)
		if as != bs || aok != bok || a.Loose(f) != b.Loose(f) {
			t.Fatalf("%s: of the file %d %d bytes are sure (%v), %d changes loose; want %d (%v), %d", what, f, len(as), aok, a.Loose(f), len(bs), bok, b.Loose(f))
		}
	}
	a, b = a.Copy(), b.Copy()
	done(t, a.Power(-1), b.Power(-1))
	for f := range api.MaxFiles {
		as, ae := a.Read(f)
		bs, be := b.Read(f)
		if as != bs || ae != be {
			t.Fatalf("%s: of the file %d %d bytes are seen, %d; want %d, %d", what, f, len(as), ae, len(bs), be)
		}
	}
}

// P7.2 to P7.6: whatever is asked, what is done with the disk are just the steps that the chapter says, in their order, wherever the power goes.
func TestSteps(t *testing.T) {
	for seed := range 400 {
		x := dice(seed + 1)
		d := disk.New()
		l := open(t, d)
		p := &plain{d: disk.New(), start: 1}
		if seed%2 == 1 {
			n := x.below(150)
			done(t, d.Power(n), p.d.Power(n))
		}
		for range 100 {
			c := x.call(p.start, p.last())
			got, wanted := c.of(l), c.of(p)
			what := "seed " + strconv.Itoa(seed) + ", " + c.name + " " + strconv.Itoa(c.n)
			want(t, what, got, wanted)
			sameDisk(t, what, d, p.d)
			if t.Failed() {
				t.FailNow()
			}
			if p.e != api.OK && c.name != "Append" && c.name != "Sync" {
				break // what it has of a call that was done in part is left open
			}
			has(t, what, l, p.start, p.recs...)
		}
	}
}

// opened: what Open does, as the chapter says it, with the disk of a plain log, whose segments' texts are told as they were put.
func opened(p *plain, torn map[int]int) api.Errno {
	for f := 4; f < 32; f++ {
		n, ok := torn[f]
		if !ok {
			continue
		}
		if n == 0 {
			p.do(func() api.Errno { return p.d.Remove(f) })
		} else {
			p.do(func() api.Errno { return p.d.Cut(f, n) })
		}
		p.do(func() api.Errno { return p.d.Sync(f) })
	}
	return p.e
}

// P7.1: Open mends file by file, rising, and then takes away what is not in the run, from the greatest number down, wherever the power goes.
func TestOpenSteps(t *testing.T) {
	full := func(k uint64) string { return segmentText(k, names(8)...) }
	make1 := func() *disk.Disk {
		d := disk.New()
		for _, f := range []int{9, 4, 31, 6, 5, 8, 7, 10} {
			s := map[int]string{4: full(28), 5: segmentText(29, "a") + "torn", 6: "none", 7: full(31), 8: head(32) + "x", 9: "", 10: full(34), 31: full(27) + rec(225, "z")}[f]
			done(t, d.Append(f, s), d.Sync(f))
		}
		return d
	}
	torn := map[int]int{5: len(segmentText(29, "a")), 6: 0, 8: len(head(32)), 9: 0, 31: len(full(27))}
	const steps = 10 + 6
	for n := -1; n <= steps; n++ {
		if n == 0 {
			continue
		}
		d, p := make1(), &plain{d: make1()}
		done(t, d.Power(n), p.d.Power(n))
		l, e := wal.Open(d)
		opened(p, torn)
		for _, k := range []int{34, 32, 31} {
			p.remove(k)
		}
		want(t, "Open", e, p.e)
		sameDisk(t, "Open with power for "+strconv.Itoa(n), d, p.d)
		if e != api.OK && l != nil {
			t.Error("Open answers an error and a log")
		}
	}
	has(t, "Open", open(t, make1()), 217, append(append(names(8), names(8)...), "a")...)
}
