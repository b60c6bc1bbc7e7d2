package wal_test

import (
	"maps"
	"slices"
	"strconv"
	"testing"

	"dragoman/api"
	"dragoman/disk"
	"dragoman/wal"
)

// kept is what a test knows of a log: which records must be there behind a crash, and which may be, as their indexes have them.
type kept struct {
	must, may map[int]record
	first     int
}

type record struct{ text string }

// forget: what a condition says goes from a map.
func forget(m map[int]record, gone func(index int) bool) {
	maps.DeleteFunc(m, func(index int, _ record) bool { return gone(index) })
}

// asked: what is known, when a call has been answered. One that failed may have been done in part.
func (k *kept) asked(c call, e api.Errno, l *wal.Log, last int) {
	switch c.name {
	case "Append":
		if e == api.OK || e == api.ErrOff {
			k.may[last+1] = record{c.text}
		}
	case "Sync":
		if e == api.OK {
			k.must = maps.Clone(k.may)
		}
	case "Cut", "Reset":
		from := c.n
		if c.name == "Reset" {
			from = k.first
		}
		if e == api.OK || e == api.ErrOff {
			forget(k.must, func(index int) bool { return index >= from })
		}
		if e == api.OK {
			forget(k.may, func(index int) bool { return index >= from })
		}
	case "Drop":
		upto := c.n - c.n%8
		forget(k.must, func(index int) bool { return index <= upto })
		if e == api.OK {
			forget(k.may, func(index int) bool { return index < l.First() })
		}
	}
	if e == api.OK {
		k.first = l.First()
	}
}

// holds: a log that was opened has all that must be there, in a row, and nothing that may not.
func (k *kept) holds(t *testing.T, what string, l *wal.Log) {
	t.Helper()
	n := 0
	for index, rec := range l.All() {
		if k.may[index] != (record{rec}) || index != l.First()+n {
			t.Fatalf("%s: %.20q at %d, which was not put there, or was cut off: %.20q", what, rec, index, k.may[index].text)
		}
		n++
	}
	if l.Last() != l.First()+n-1 {
		t.Fatalf("%s: from %d to %d with %d records", what, l.First(), l.Last(), n)
	}
	for index, x := range k.must {
		if got, e := l.Get(index); got != x.text || e != api.OK {
			t.Fatalf("%s: %.20q at %d, %d: it was synced as %.20q", what, got, index, e, x.text)
		}
	}
}

// crash: one of some kind, by which of each file some of what is loose is kept.
func (d *dice) crash(t *testing.T, x *disk.Disk) {
	keep := make([]int, api.MaxFiles)
	mode := d.below(4)
	for f := range keep {
		keep[f] = []int{0, 99, d.below(5), d.below(12)}[mode]
	}
	done(t, x.Crash(keep, d.below(40)-5))
}

// again: of a disk that Open has gone through, Open answers the same once more, and does no step.
func again(t *testing.T, what string, l *wal.Log, d *disk.Disk) {
	t.Helper()
	was := d.Ops()
	var recs []string
	for _, rec := range l.All() {
		recs = append(recs, rec)
	}
	has(t, what, open(t, d), l.First(), recs...)
	if d.Ops() != was {
		t.Errorf("%s: %d steps when it is opened once more", what, d.Ops()-was)
	}
	if t.Failed() {
		t.FailNow()
	}
}

// reopened: the disk crashes, and the log is opened, perhaps with power that goes while it is.
func (d *dice) reopened(t *testing.T, what string, x *disk.Disk) *wal.Log {
	d.crash(t, x)
	for d.below(2) == 0 {
		done(t, x.Power(1+d.below(5)))
		if l, e := wal.Open(x); e == api.OK && l == nil || e != api.OK && (l != nil || e != api.ErrOff) {
			t.Fatalf("%s: Open: %v, %d", what, l, e)
		}
		d.crash(t, x)
	}
	l := open(t, x)
	again(t, what, l, x)
	return l
}

// P7.7: behind whatever crashes, one after the other, what was synced and not cut off is there, and nothing else than what was put.
func TestKept(t *testing.T) {
	for seed := range 600 {
		x := dice(seed + 77)
		d := disk.New()
		l := open(t, d)
		k := &kept{must: map[int]record{}, may: map[int]record{}, first: 1}
		for life := range 6 {
			what := "seed " + strconv.Itoa(seed) + ", life " + strconv.Itoa(life)
			done(t, d.Power(x.below(60)))
			for range 200 {
				c := x.call(l.First(), l.Last())
				last := l.Last()
				e := c.of(l)
				k.asked(c, e, l, last)
				if e == api.ErrOff {
					break
				}
			}
			l = x.reopened(t, what, d)
			k.holds(t, what, l)
			// Behind the crash all that is there is sure.
			k.first = l.First()
			k.may = map[int]record{}
			for index, rec := range l.All() {
				k.may[index] = record{rec}
			}
			k.must = maps.Clone(k.may)
		}
	}
}

// P7.7: at each step of a short life of a log, with all that a crash there may keep.
func TestKeptAtEachStep(t *testing.T) {
	for n := 1; ; n++ {
		d := disk.New()
		l := open(t, d)
		k := &kept{must: map[int]record{}, may: map[int]record{}, first: 1}
		done(t, d.Power(n))
		off := false
		for _, c := range life() {
			last := l.Last()
			e := c.of(l)
			k.asked(c, e, l, last)
			if off = e == api.ErrOff; off {
				break
			}
		}
		for keep := range 12 {
			for torn := range 30 {
				twin := d.Copy()
				done(t, twin.Crash(slices.Repeat([]int{keep}, api.MaxFiles), torn))
				what := strconv.Itoa(n) + " steps, " + strconv.Itoa(keep) + " kept, " + strconv.Itoa(torn) + " torn"
				opened := open(t, twin)
				k.holds(t, what, opened)
				again(t, what, opened, twin)
			}
		}
		if !off {
			return
		}
	}
}

// life: calls that go through all that a log does.
func life() []call {
	var l []call
	add := func(n int) {
		for i := range n {
			l = append(l, call{name: "Append", text: strconv.Itoa(len(l)) + "/" + strconv.Itoa(i)})
		}
	}
	sync := call{name: "Sync"}
	add(3)
	l = append(l, sync)
	add(9)
	l = append(l, sync, call{name: "Cut", n: 7})
	add(14)
	l = append(l, sync, call{name: "Drop", n: 9}, call{name: "Cut", n: 15})
	add(2)
	l = append(l, call{name: "Drop", n: 16}, call{name: "Cut", n: 18}, call{name: "Reset", n: 9})
	add(2)
	l = append(l, sync, call{name: "Reset", n: 233})
	add(1)
	return append(l, sync)
}
