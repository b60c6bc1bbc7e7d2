package snap_test

import (
	"math"
	"testing"

	"dragoman/api"
	"dragoman/disk"
	"dragoman/snap"
)

// P19.4: errors in their order, at and past the limits; nothing is done with the disk then.
func TestSaveRefused(t *testing.T) {
	long := text(mostLen + 1)
	bad := []api.Mark{mark(0, 1), mark(-1, 1), mark(math.MinInt, 1), mark(1<<20+1, 1), mark(math.MaxInt, 1), mark(9, -1), mark(9, math.MinInt), mark(9, 1<<40+1), mark(9, math.MaxInt)}
	want(t, "no disk", snap.Save(nil, bad[0], long), api.ErrNil)
	d := put(t, written(mark(8, 3), "a"), written(mark(7, 3), "b"))
	was := d.Ops()
	for _, m := range bad {
		want(t, "a mark that is none", snap.Save(d, m, "x"), api.ErrArg)
		want(t, "a mark that is none, a long text", snap.Save(d, m, long), api.ErrArg)
	}
	want(t, "a long text", snap.Save(d, mark(9, 3), long), api.ErrLong)
	want(t, "a long text, an old index", snap.Save(d, mark(8, 3), long), api.ErrLong)
	for _, m := range []api.Mark{mark(8, 3), mark(8, 4), mark(7, 3), mark(1, 1<<40)} {
		want(t, "an old index", snap.Save(d, m, "x"), api.ErrRange)
	}
	if d.Ops() != was {
		t.Errorf("%d steps of what is refused", d.Ops()-was)
	}
	loads(t, "behind what is refused", d, mark(8, 3), "a")
	done(t, d.Power(0))
	want(t, "off", snap.Save(d, mark(9, 3), "x"), api.ErrOff)
	want(t, "off, with all else wrong", snap.Save(d, bad[0], long), api.ErrOff)
}

// P19.4: marks and texts at their limits.
func TestSaveLimits(t *testing.T) {
	for _, m := range []api.Mark{mark(1, 0), mark(1, 1<<40), mark(1<<20, 0), mark(1<<20, 1<<40)} {
		d := disk.New()
		want(t, "Save", snap.Save(d, m, "abc"), api.OK)
		loads(t, "a mark", d, m, "abc")
	}
	for _, n := range []int{0, 1, chunk - 1, chunk, chunk + 1, 2 * chunk, 5000, mostLen - 1, mostLen} {
		d := disk.New()
		want(t, "Save", snap.Save(d, mark(8, 1), text(n)), api.OK)
		loads(t, "a text", d, mark(8, 1), text(n))
		if s, e := d.Read(2); s != written(mark(8, 1), text(n)) || e != api.OK {
			t.Errorf("a text of %d bytes: the file has %d, %d", n, len(s), e)
		}
	}
	d := put(t, written(mark(8, 9), "a"), "none")
	want(t, "a lower term", snap.Save(d, mark(9, 2), "x"), api.OK)
	loads(t, "a lower term", d, mark(9, 2), "x")
}

// saves: into that file, by just these steps, with power for each number of them.
func saves(t *testing.T, what, a, b string, f int) {
	t.Helper()
	m, s := mark(99, 3), text(3000)
	steps := []func(*disk.Disk) api.Errno{
		func(d *disk.Disk) api.Errno { return d.Append(f, written(m, s)) },
		func(d *disk.Disk) api.Errno { return d.Sync(f) },
	}
	if [2]string{a, b}[f-2] != "none" {
		steps = append([]func(*disk.Disk) api.Errno{func(d *disk.Disk) api.Errno { return d.Remove(f) }}, steps...)
	}
	for n := 1; n <= len(steps); n++ {
		d, p := put(t, a, b), put(t, a, b)
		done(t, d.Power(n))
		e := snap.Save(d, m, s)
		if n < len(steps) {
			want(t, what, e, api.ErrOff)
		} else {
			want(t, what, e, api.OK)
		}
		for _, step := range steps[:n] {
			done(t, step(p))
		}
		if d.Ops() != p.Ops() || d.On() {
			t.Errorf("%s: %d steps, want %d", what, d.Ops(), p.Ops())
		}
		for _, i := range []int{2, 3} {
			got, gotOk := d.Sure(i)
			wanted, ok := p.Sure(i)
			if got != wanted || gotOk != ok || d.Loose(i) != p.Loose(i) {
				t.Errorf("%s: with power for %d: of the file %d %d bytes are sure (%v), %d loose; want %d (%v), %d", what, n, i, len(got), gotOk, d.Loose(i), len(wanted), ok, p.Loose(i))
			}
		}
		done(t, d.Power(-1))
		for _, i := range []int{2, 3} {
			got, e := d.Read(i)
			wanted, wantE := p.Read(i)
			if got != wanted || e != wantE {
				t.Errorf("%s: with power for %d: the file %d has %d bytes, %d; want %d, %d", what, n, i, len(got), e, len(wanted), wantE)
			}
		}
	}
}

// P19.4: beside the newest one; into SnapA, if it is not there.
func TestSavePlace(t *testing.T) {
	old, newer := written(mark(8, 1), "old"), written(mark(9, 1), "newer")
	saves(t, "no file", "none", "none", 2)
	saves(t, "an empty SnapA", "", "none", 2)
	saves(t, "an empty SnapB", "none", "", 2)
	saves(t, "torn ones", newer[:9], newer+"x", 2)
	saves(t, "SnapA alone", old, "none", 3)
	saves(t, "SnapA, and a torn one", old, newer[:40], 3)
	saves(t, "SnapA is newer", newer, old, 3)
	saves(t, "SnapB is newer", old, newer, 2)
	saves(t, "SnapB alone", "none", old, 2)
	saves(t, "SnapB, and a torn one", newer[:40], old, 2)
	saves(t, "of one index", old, old, 3)
}

// crashes: what Load may tell behind a crash of such a disk, however much of what is loose is kept.
func crashes(t *testing.T, d *disk.Disk, check func(api.Mark, string, api.Errno)) {
	t.Helper()
	for keep := range 3 {
		for _, torn := range []int{0, 1, 8, 43, 44, 45, 60, 2103, 2104, 2105, 2110, math.MaxInt} {
			for _, l := range [][]int{{0, 0, keep, 0}, {0, 0, 0, keep}, {0, 0, keep, keep}} {
				twin := d.Copy()
				done(t, twin.Crash(l, torn))
				check(snap.Load(twin))
			}
		}
	}
}

// P19.6: at each step of many Saves, whatever a crash there keeps.
func TestKept(t *testing.T) {
	textOf := func(i int) string { return text(i * 700 % 5000) }
	for n := 1; ; n++ {
		d := disk.New()
		done(t, d.Power(n))
		last, off := 0, false
		for i := 1; i < 8 && !off; i++ {
			e := snap.Save(d, mark(i*8, i), textOf(i))
			if off = e != api.OK; !off {
				last = i
			}
			if e != api.OK && e != api.ErrOff {
				t.Fatalf("Save: %d", e)
			}
		}
		crashes(t, d, func(m api.Mark, s string, e api.Errno) {
			i := m.Index / 8
			if last == 0 && e == api.ErrNone && m == (api.Mark{}) && s == "" {
				return
			}
			if e != api.OK || m != mark(i*8, i) || s != textOf(i) || i != last && !(off && i == last+1) {
				t.Fatalf("with power for %d: Load %v, %d bytes, %d, behind the Save of %d", n, m, len(s), e, last)
			}
		})
		if !off {
			return
		}
	}
}

// P19.6: over many lives the newest one never goes back.
func TestLives(t *testing.T) {
	for seed := range 60 {
		x := dice(seed*31 + 7)
		d := disk.New()
		kept := 0 // the index of what was there, or saved, at last
		for range 30 {
			done(t, d.Power(1+x.below(9)))
			next := kept
			for {
				index := next + 1 + x.below(4)
				e := snap.Save(d, mark(index, x.below(5)), text(index))
				if e == api.ErrOff {
					next = index
					break
				}
				want(t, "Save", e, api.OK)
				kept, next = index, index
			}
			done(t, d.Crash([]int{0, 0, x.below(3), x.below(3)}, x.below(60)))
			m, s, e := snap.Load(d)
			if e == api.ErrNone && kept == 0 {
				continue
			}
			if e != api.OK || m.Index != kept && m.Index != next || s != text(m.Index) {
				t.Fatalf("seed %d: Load %v, %d bytes, %d; want %d or %d", seed, m, len(s), e, kept, next)
			}
			kept = m.Index
		}
	}
}
