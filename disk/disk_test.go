package disk_test

import (
	"math"
	"slices"
	"strings"
	"testing"

	"dragoman/api"
	"dragoman/disk"
)

func want(t *testing.T, what string, got, want api.Errno) {
	t.Helper()
	if got != want {
		t.Errorf("%s: the error %d, want %d", what, got, want)
	}
}

func reads(t *testing.T, d *disk.Disk, f int, s string) {
	t.Helper()
	if got, e := d.Read(f); got != s || e != api.OK {
		t.Errorf("Read(%d): %q, %d; want %q", f, got, e, s)
	}
}

func unseen(t *testing.T, d *disk.Disk, f int) {
	t.Helper()
	if got, e := d.Read(f); got != "" || e != api.ErrNone {
		t.Errorf("Read(%d): %q, %d; want ErrNone", f, got, e)
	}
}

func sure(t *testing.T, d *disk.Disk, f int, s string, there bool) {
	t.Helper()
	if got, ok := d.Sure(f); got != s || ok != there {
		t.Errorf("Sure(%d): %q, %v; want %q, %v", f, got, ok, s, there)
	}
}

func files(t *testing.T, d *disk.Disk, want ...int) {
	t.Helper()
	if got := d.Files(); !slices.Equal(got, want) {
		t.Errorf("Files: %v, want %v", got, want)
	}
}

func loose(t *testing.T, d *disk.Disk, f, n int) {
	t.Helper()
	if got := d.Loose(f); got != n {
		t.Errorf("Loose(%d): %d, want %d", f, got, n)
	}
}

func ops(t *testing.T, d *disk.Disk, n int) {
	t.Helper()
	if got := d.Ops(); got != n {
		t.Errorf("Ops: %d, want %d", got, n)
	}
}

func power(t *testing.T, d *disk.Disk, n int) {
	t.Helper()
	want(t, "Power", d.Power(n), api.OK)
}

// done: calls that must answer OK.
func done(t *testing.T, l ...api.Errno) {
	t.Helper()
	for i, e := range l {
		want(t, "call "+string(rune('a'+i)), e, api.OK)
	}
}

// noFiles are numbers of no file.
func noFiles() []int {
	return []int{-1, -2, math.MinInt, api.MaxFiles, api.MaxFiles + 1, math.MaxInt}
}

// The chapter's examples.
func TestExamples(t *testing.T) {
	d := disk.New()
	done(t, d.Append(0, "ab"), d.Sync(0), d.Append(0, "cd"), d.Append(0, "e"))
	reads(t, d, 0, "abcde")
	loose(t, d, 0, 2)
	sure(t, d, 0, "ab", true)
	done(t, d.Crash([]int{1}, 9))
	reads(t, d, 0, "abcd")
	done(t, d.Append(0, "fgh"), d.Crash(nil, 2))
	reads(t, d, 0, "abcdfg")
	want(t, "Cut(0, 9)", d.Cut(0, 9), api.ErrRange)
	twin := d.Copy()
	done(t, twin.Cut(0, 1))
	want(t, "Remove(1)", d.Remove(1), api.ErrNone)
	power(t, d, 1)
	done(t, d.Remove(0))
	want(t, "Sync(0)", d.Sync(0), api.ErrOff)
	if d.On() {
		t.Error("On")
	}
	done(t, d.Crash(nil, 0))
	reads(t, d, 0, "abcdfg")
	want(t, "Append(32, x)", d.Append(32, "x"), api.ErrArg)
}

// P4.1: no files, nothing sure or loose, no steps yet, and power for many.
func TestNew(t *testing.T) {
	d := disk.New()
	files(t, d)
	ops(t, d, 0)
	for f := range api.MaxFiles {
		unseen(t, d, f)
		sure(t, d, f, "", false)
		loose(t, d, f, 0)
	}
	for i := range 5000 {
		if !d.On() {
			t.Fatalf("off behind %d steps", i)
		}
		done(t, d.Append(i%api.MaxFiles, "x"))
	}
	ops(t, d, 5000)
	files(t, disk.New())
}

// P4.2: bytes are put behind the end; a file is there then, with no bytes too.
func TestAppend(t *testing.T) {
	d := disk.New()
	done(t, d.Append(31, ""), d.Append(7, "a\x00\xff"), d.Append(7, ""), d.Append(7, "b"))
	files(t, d, 7, 31)
	reads(t, d, 31, "")
	reads(t, d, 7, "a\x00\xffb")
	sure(t, d, 7, "", false)
	sure(t, d, 31, "", false)
	loose(t, d, 31, 1)
	loose(t, d, 7, 3)
	ops(t, d, 4)
}

// P4.2: MaxFile bytes are the most that is seen of a file.
func TestAppendFull(t *testing.T) {
	d := disk.New()
	most := strings.Repeat("m", api.MaxFile)
	want(t, "Append of MaxFile and 1", d.Append(3, most+"m"), api.ErrFull)
	files(t, d)
	done(t, d.Append(3, most))
	reads(t, d, 3, most)
	for _, s := range []string{"x", most} {
		want(t, "Append to a full file", d.Append(3, s), api.ErrFull)
	}
	done(t, d.Append(3, ""), d.Append(4, "another file"))
	loose(t, d, 3, 2)
	ops(t, d, 3)
	// What counts is what is seen, not what is sure.
	done(t, d.Sync(3), d.Cut(3, api.MaxFile-2))
	want(t, "Append of 3", d.Append(3, "xyz"), api.ErrFull)
	done(t, d.Append(3, "xy"))
	reads(t, d, 3, most[2:]+"xy")
	done(t, d.Remove(3), d.Append(3, most))
	reads(t, d, 3, most)
	sure(t, d, 3, most, true)
}

// P4.2: a cut from nothing to all that is seen; further ones are refused.
func TestCut(t *testing.T) {
	d := disk.New()
	want(t, "Cut of no file", d.Cut(2, 0), api.ErrNone)
	want(t, "Cut of no file, out of range", d.Cut(2, -1), api.ErrNone)
	done(t, d.Append(2, "abcdef"), d.Cut(2, 6))
	reads(t, d, 2, "abcdef")
	loose(t, d, 2, 2)
	for _, n := range []int{-1, 7, math.MinInt, math.MaxInt} {
		want(t, "Cut out of range", d.Cut(2, n), api.ErrRange)
	}
	loose(t, d, 2, 2)
	done(t, d.Cut(2, 3))
	reads(t, d, 2, "abc")
	want(t, "Cut to what was there", d.Cut(2, 4), api.ErrRange)
	done(t, d.Append(2, "x"))
	reads(t, d, 2, "abcx")
	done(t, d.Cut(2, 0))
	reads(t, d, 2, "")
	files(t, d, 2)
	done(t, d.Cut(2, 0))
	loose(t, d, 2, 6)
	ops(t, d, 6)
	done(t, d.Remove(2))
	want(t, "Cut of what is gone", d.Cut(2, 0), api.ErrNone)
}

// P4.2: what is gone is not seen, and begins anew.
func TestRemove(t *testing.T) {
	d := disk.New()
	want(t, "Remove of no file", d.Remove(5), api.ErrNone)
	done(t, d.Append(5, "old"), d.Append(6, ""), d.Sync(5), d.Remove(5), d.Remove(6))
	files(t, d)
	unseen(t, d, 5)
	sure(t, d, 5, "old", true)
	loose(t, d, 5, 1)
	loose(t, d, 6, 2)
	want(t, "Remove once more", d.Remove(5), api.ErrNone)
	done(t, d.Append(5, "new"))
	reads(t, d, 5, "new")
	files(t, d, 5)
	ops(t, d, 6)
}

// P4.2 to P4.4: of several errors the one that is named first; what is refused does nothing.
func TestRefused(t *testing.T) {
	d := disk.New()
	done(t, d.Append(0, "ab"), d.Append(31, "c"))
	for _, f := range noFiles() {
		want(t, "Append", d.Append(f, strings.Repeat("x", api.MaxFile+1)), api.ErrArg)
		want(t, "Cut", d.Cut(f, -1), api.ErrArg)
		want(t, "Remove", d.Remove(f), api.ErrArg)
		want(t, "Sync", d.Sync(f), api.ErrArg)
		s, e := d.Read(f)
		if s != "" || e != api.ErrArg {
			t.Errorf("Read(%d): %q, %d", f, s, e)
		}
		loose(t, d, f, 0)
		sure(t, d, f, "", false)
	}
	ops(t, d, 2)
	power(t, d, 0)
	for _, f := range append(noFiles(), 0, 1, 31) {
		want(t, "Append", d.Append(f, strings.Repeat("x", api.MaxFile+1)), api.ErrOff)
		want(t, "Cut", d.Cut(f, -1), api.ErrOff)
		want(t, "Remove", d.Remove(f), api.ErrOff)
		want(t, "Sync", d.Sync(f), api.ErrOff)
		s, e := d.Read(f)
		if s != "" || e != api.ErrOff {
			t.Errorf("Read(%d) of a disk that is off: %q, %d", f, s, e)
		}
	}
	ops(t, d, 2)
	power(t, d, -1)
	reads(t, d, 0, "ab")
	reads(t, d, 31, "c")
	files(t, d, 0, 31)
	loose(t, d, 0, 1)
}

// R4: a nil disk.
func TestNilDisk(t *testing.T) {
	var d *disk.Disk
	for _, f := range append(noFiles(), 0, 31) {
		want(t, "Append", d.Append(f, "x"), api.ErrNil)
		want(t, "Cut", d.Cut(f, 0), api.ErrNil)
		want(t, "Remove", d.Remove(f), api.ErrNil)
		want(t, "Sync", d.Sync(f), api.ErrNil)
		if s, e := d.Read(f); s != "" || e != api.ErrNil {
			t.Errorf("Read: %q, %d", s, e)
		}
		loose(t, d, f, 0)
		sure(t, d, f, "", false)
		want(t, "Power", d.Power(f), api.ErrNil)
		want(t, "Crash", d.Crash([]int{f}, f), api.ErrNil)
	}
	files(t, d)
	ops(t, d, 0)
	if d.On() || d.Copy() != nil {
		t.Error("a nil disk is on, or has a copy")
	}
}

// P4.3: what is seen is sure, of that file alone; it is a step, of a file that is not there too.
func TestSync(t *testing.T) {
	d := disk.New()
	done(t, d.Append(1, "abc"), d.Cut(1, 2), d.Append(1, "x"), d.Append(2, "other"), d.Sync(1))
	sure(t, d, 1, "abx", true)
	reads(t, d, 1, "abx")
	loose(t, d, 1, 0)
	sure(t, d, 2, "", false)
	loose(t, d, 2, 1)
	ops(t, d, 5)
	done(t, d.Remove(1), d.Sync(1))
	sure(t, d, 1, "", false)
	unseen(t, d, 1)
	loose(t, d, 1, 0)
	done(t, d.Sync(1), d.Sync(30))
	ops(t, d, 9)
	files(t, d, 2)
	done(t, d.Append(1, ""), d.Sync(1))
	sure(t, d, 1, "", true)
}

// P4.4: a disk that is off still tells its files, what is loose and what is sure.
func TestToldWhenOff(t *testing.T) {
	d := disk.New()
	done(t, d.Append(9, "ab"), d.Sync(9), d.Append(9, "c"), d.Append(3, ""))
	power(t, d, 0)
	files(t, d, 3, 9)
	loose(t, d, 9, 1)
	loose(t, d, 3, 1)
	sure(t, d, 9, "ab", true)
	sure(t, d, 3, "", false)
	ops(t, d, 4)
}

// R3: what is answered is new memory.
func TestFilesNewMemory(t *testing.T) {
	d := disk.New()
	done(t, d.Append(3, ""), d.Append(9, ""))
	l := d.Files()
	l[0] = 99
	_ = append(l[:1], 98)
	files(t, d, 3, 9)
}

// P4.5: power for so many steps, whatever it had; below 0 for any number.
func TestPower(t *testing.T) {
	d := disk.New()
	for _, n := range []int{3, 1, 100, 2} {
		power(t, d, 7)
		power(t, d, n)
		was := d.Ops()
		for i := range n {
			if !d.On() {
				t.Fatalf("off behind %d of %d steps", i, n)
			}
			switch i % 3 {
			case 0:
				done(t, d.Append(0, "x"))
			case 1:
				done(t, d.Sync(0))
			case 2:
				done(t, d.Cut(0, 0))
			}
		}
		if d.On() {
			t.Errorf("on behind %d steps", n)
		}
		want(t, "Append", d.Append(0, "x"), api.ErrOff)
		want(t, "Sync", d.Sync(0), api.ErrOff)
		ops(t, d, was+n)
	}
	for _, n := range []int{-1, -2, math.MinInt} {
		power(t, d, 0)
		power(t, d, n)
		for range 300 {
			done(t, d.Sync(0))
		}
		if !d.On() {
			t.Errorf("off, by the power %d", n)
		}
	}
	power(t, d, math.MaxInt)
	done(t, d.Sync(0), d.Remove(0))
	if !d.On() {
		t.Error("off, by the greatest power")
	}
}

// P4.5: what is refused, and what only reads, takes no power and is no step.
func TestPowerOfNoStep(t *testing.T) {
	d := disk.New()
	done(t, d.Append(0, "ab"))
	power(t, d, 2)
	want(t, "Append", d.Append(0, strings.Repeat("x", api.MaxFile)), api.ErrFull)
	want(t, "Append", d.Append(-1, ""), api.ErrArg)
	want(t, "Cut", d.Cut(0, 3), api.ErrRange)
	want(t, "Cut", d.Cut(1, 0), api.ErrNone)
	want(t, "Remove", d.Remove(1), api.ErrNone)
	want(t, "Sync", d.Sync(32), api.ErrArg)
	reads(t, d, 0, "ab")
	files(t, d, 0)
	ops(t, d, 1)
	done(t, d.Append(0, "c"), d.Remove(0))
	if d.On() {
		t.Error("on behind two steps")
	}
	ops(t, d, 3)
}

// P4.6: of each file its own number of loose changes, and a part of the next growing.
func TestCrash(t *testing.T) {
	make4 := func() *disk.Disk {
		d := disk.New()
		for f := range 4 {
			done(t, d.Append(f, "ab"), d.Sync(f), d.Append(f, "cde"), d.Cut(f, 1), d.Append(f, "xyz"), d.Remove(f), d.Append(f, "new"))
		}
		return d
	}
	behind := []string{"ab", "abcde", "a", "axyz", "", "new"}
	parts := []string{"cd", "", "xy", "", "ne"}
	for n := range 6 {
		for _, torn := range []int{math.MinInt, -1, 0, 1, 2, 3, math.MaxInt} {
			d := make4()
			was := d.Ops()
			done(t, d.Crash([]int{n, 5 - n, math.MinInt}, torn))
			for f, k := range []int{n, 5 - n, 0, 0} {
				s := behind[k]
				there := k != 4
				if k < 5 && torn > 0 {
					s += parts[k][:min(len(parts[k]), torn)]
					there = there || s != ""
				}
				if there {
					reads(t, d, f, s)
				} else {
					unseen(t, d, f)
				}
				sure(t, d, f, s, there)
				loose(t, d, f, 0)
			}
			ops(t, d, was)
		}
	}
	d := make4()
	done(t, d.Crash([]int{math.MaxInt, 6, 5, 5}, 1))
	for f := range 4 {
		reads(t, d, f, "new")
	}
}

// P4.6: nothing is kept of files for which keep has no place; more places than files are nothing.
func TestCrashKeep(t *testing.T) {
	for _, n := range []int{0, 1, 5, 31, 32, 33, 100} {
		d := disk.New()
		for f := range api.MaxFiles {
			done(t, d.Append(f, "s"), d.Sync(f), d.Append(f, "loose"), d.Append(f, "x"))
		}
		keep := make([]int, n)
		for f := range keep {
			keep[f] = 1
		}
		given := slices.Clone(keep)
		done(t, d.Crash(keep, 0))
		for f := range api.MaxFiles {
			if f < n {
				reads(t, d, f, "sloose")
			} else {
				reads(t, d, f, "s")
			}
		}
		if !slices.Equal(keep, given) {
			t.Errorf("keep was changed: %v", keep)
		}
	}
}

// P4.6: what tears is a growing by some bytes alone, and never all of it.
func TestCrashTorn(t *testing.T) {
	for torn := range 8 {
		d := disk.New()
		done(t, d.Append(0, "s"), d.Sync(0), d.Append(0, "abcde"))
		done(t, d.Append(1, "s"), d.Sync(1), d.Append(1, ""), d.Append(1, "abc"))
		done(t, d.Append(2, "s"), d.Sync(2), d.Append(2, "a"), d.Append(2, "b"))
		done(t, d.Append(3, "stu"), d.Sync(3), d.Cut(3, 1), d.Append(3, "x"))
		done(t, d.Append(4, "s"), d.Sync(4), d.Remove(4), d.Append(4, "xy"))
		done(t, d.Append(5, ""), d.Append(5, "xy"))
		done(t, d.Crash(nil, torn))
		reads(t, d, 0, "s"+"abcd"[:min(torn, 4)])
		reads(t, d, 1, "s")
		reads(t, d, 2, "s")
		reads(t, d, 3, "stu")
		reads(t, d, 4, "s")
		unseen(t, d, 5)
	}
}

// P4.6: a disk that was off, or had power for some steps, has power for any number.
func TestCrashPower(t *testing.T) {
	for _, n := range []int{0, 1, 3, -1} {
		d := disk.New()
		power(t, d, n)
		done(t, d.Crash(nil, 0))
		for range 200 {
			done(t, d.Append(0, "x"))
		}
		if !d.On() {
			t.Errorf("off behind a crash, with the power %d ahead of it", n)
		}
	}
}

// P4.7: a copy has all the same, and both go on by themselves.
func TestCopy(t *testing.T) {
	d := disk.New()
	done(t, d.Append(0, "abc"), d.Sync(0), d.Append(0, "de"), d.Cut(0, 4), d.Append(2, ""))
	power(t, d, 4)
	twin := d.Copy()
	for _, x := range []*disk.Disk{d, twin} {
		reads(t, x, 0, "abcd")
		sure(t, x, 0, "abc", true)
		loose(t, x, 0, 2)
		loose(t, x, 2, 1)
		files(t, x, 0, 2)
		ops(t, x, 5)
	}
	done(t, d.Append(0, "X"), d.Append(2, "Y"), d.Append(9, "Z"), d.Sync(0))
	done(t, twin.Append(0, "1"), twin.Cut(0, 2), twin.Append(0, "2"), twin.Sync(0))
	if d.On() || twin.On() || d.Copy().On() {
		t.Error("on behind four steps")
	}
	done(t, d.Crash([]int{0, 0, 9}, 0), twin.Crash([]int{0, 0, 0}, 0))
	reads(t, d, 0, "abcdX")
	reads(t, twin, 0, "ab2")
	reads(t, d, 2, "Y")
	unseen(t, twin, 2)
	ops(t, d, 9)
	ops(t, twin, 9)
}

// P4.7: what is loose in a copy is its own.
func TestCopyLoose(t *testing.T) {
	d := disk.New()
	for range 5 {
		done(t, d.Append(0, "x"))
	}
	twin := d.Copy()
	done(t, d.Append(0, "one"))
	done(t, twin.Append(0, "two"))
	done(t, d.Crash([]int{6}, 0), twin.Crash([]int{6}, 0))
	reads(t, d, 0, "xxxxxone")
	reads(t, twin, 0, "xxxxxtwo")
}
