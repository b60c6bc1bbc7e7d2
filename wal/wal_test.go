package wal_test

import (
	"math"
	"slices"
	"strconv"
	"strings"
	"testing"

	"dragoman/api"
	"dragoman/disk"
	"dragoman/frame"
	"dragoman/wal"
	"dragoman/wire"
)

func want(t *testing.T, what string, got, want api.Errno) {
	t.Helper()
	if got != want {
		t.Errorf("%s: the error %d, want %d", what, got, want)
	}
}

// done: calls that must answer OK.
func done(t *testing.T, l ...api.Errno) {
	t.Helper()
	for i, e := range l {
		want(t, "call "+strconv.Itoa(i), e, api.OK)
	}
}

func open(t *testing.T, d *disk.Disk) *wal.Log {
	t.Helper()
	l, e := wal.Open(d)
	if l == nil || e != api.OK {
		t.Fatalf("Open: %v, %d", l, e)
	}
	return l
}

// has: the log has just these records, from first on.
func has(t *testing.T, what string, l *wal.Log, first int, recs ...string) {
	t.Helper()
	if l.First() != first || l.Last() != first+len(recs)-1 {
		t.Errorf("%s: from %d to %d, want %d to %d", what, l.First(), l.Last(), first, first+len(recs)-1)
	}
	n := 0
	for index, rec := range l.All() {
		if n >= len(recs) || index != first+n || rec != recs[n] {
			t.Errorf("%s: All tells %.20q at %d as record %d of %d", what, rec, index, n, len(recs))
			return
		}
		n++
		if got, e := l.Get(index); got != rec || e != api.OK {
			t.Errorf("%s: Get(%d): %.20q, %d; want %.20q", what, index, got, e, rec)
		}
	}
	if n != len(recs) {
		t.Errorf("%s: All tells %d records, want %d", what, n, len(recs))
	}
	for _, index := range []int{first - 1, first + len(recs), 0, -1, math.MinInt, math.MaxInt} {
		if index >= first && index < first+len(recs) {
			continue
		}
		if got, e := l.Get(index); got != "" || e != api.ErrNone {
			t.Errorf("%s: Get(%d): %.20q, %d; want ErrNone", what, index, got, e)
		}
	}
}

func files(t *testing.T, d *disk.Disk, want ...int) {
	t.Helper()
	if got := d.Files(); !slices.Equal(got, want) {
		t.Errorf("Files: %v, want %v", got, want)
	}
}

func reads(t *testing.T, d *disk.Disk, f int, s string) {
	t.Helper()
	if got, e := d.Read(f); got != s || e != api.OK {
		t.Errorf("the file %d: %d bytes, %d; want %d bytes", f, len(got), e, len(s))
	}
}

func framed(payload string) string {
	s, e := frame.Put(payload)
	if e != api.OK {
		panic("no frame of " + strconv.Itoa(len(payload)) + " bytes")
	}
	return s
}

func head(k uint64) string { return framed("segment" + wire.U64(k)) }

func rec(index uint64, s string) string { return framed("record" + wire.U64(index) + s) }

// segmentText: what the file of a segment has that begins with these records.
func segmentText(k uint64, recs ...string) string {
	s := head(k)
	for i, r := range recs {
		s += rec(8*k+1+uint64(i), r)
	}
	return s
}

// names are n records, all unlike.
func names(n int) []string {
	l := make([]string, n)
	for i := range l {
		l[i] = "r" + strconv.Itoa(i+1)
	}
	return l
}

// filled: a new log on a new disk, with these records.
func filled(t *testing.T, recs ...string) (*wal.Log, *disk.Disk) {
	t.Helper()
	d := disk.New()
	l := open(t, d)
	for _, r := range recs {
		done(t, l.Append(r))
	}
	return l, d
}

// The chapter's examples.
func TestExamples(t *testing.T) {
	l, d := filled(t)
	has(t, "a new log", l, 1)
	done(t, l.Append("a"), l.Append("b"))
	has(t, "two records", l, 1, "a", "b")
	files(t, d, 4)
	for range 7 {
		done(t, l.Append("x"))
	}
	files(t, d, 4, 5)
	done(t, l.Sync(), l.Cut(3))
	has(t, "cut", l, 1, "a", "b")
	files(t, d, 4)
	done(t, l.Drop(2))
	has(t, "nothing dropped", l, 1, "a", "b")
	want(t, "Cut(9)", l.Cut(9), api.ErrRange)
	done(t, l.Reset(9))
	has(t, "set anew", l, 9)
	done(t, l.Append("c"))
	has(t, "set anew, with a record", l, 9, "c")
	want(t, "Reset(10)", l.Reset(10), api.ErrArg)
}

// P7.1: no disk, and one that is off.
func TestOpenRefused(t *testing.T) {
	if l, e := wal.Open(nil); l != nil || e != api.ErrNil {
		t.Errorf("Open of no disk: %v, %d", l, e)
	}
	for _, text := range []string{"", "nothing", segmentText(0, "a")} {
		d := disk.New()
		if text != "" {
			done(t, d.Append(4, text))
		}
		was := d.Ops()
		done(t, d.Power(0))
		if l, e := wal.Open(d); l != nil || e != api.ErrOff {
			t.Errorf("Open of a disk that is off: %v, %d", l, e)
		}
		if d.Ops() != was {
			t.Errorf("%d steps", d.Ops()-was)
		}
	}
}

// P7.1: where the disk answers a step with an error, Open does no more, and answers that.
func TestOpenGoesOff(t *testing.T) {
	full := segmentText(0, names(8)...)
	for what, x := range map[string]struct {
		texts map[int]string
		steps int
	}{
		"one that is none":           {map[int]string{4: full, 5: "none"}, 2},
		"a torn one":                 {map[int]string{4: full + "x"}, 2},
		"one outside the run":        {map[int]string{4: full, 6: segmentText(2, "a")}, 2},
		"two outside the run":        {map[int]string{4: full, 6: head(2), 7: head(3)}, 4},
		"one of each":                {map[int]string{4: full + "x", 5: "none", 6: head(2)}, 6},
		"a torn one outside the run": {map[int]string{4: full, 6: head(2) + "x"}, 4},
	} {
		for n := 1; n < x.steps; n++ {
			d := put(t, x.texts)
			was := d.Ops()
			done(t, d.Power(n))
			if l, e := wal.Open(d); l != nil || e != api.ErrOff {
				t.Errorf("%s, with power for %d steps: %v, %d", what, n, l, e)
			}
			if d.Ops()-was != n {
				t.Errorf("%s: %d steps of %d", what, d.Ops()-was, n)
			}
		}
		d := put(t, x.texts)
		was := d.Ops()
		has(t, what, open(t, d), 1, names(8)...)
		if d.Ops()-was != x.steps {
			t.Errorf("%s: %d steps, want %d", what, d.Ops()-was, x.steps)
		}
	}
}

// P7.1: files below FirstSegment are not the log's.
func TestOpenOtherFiles(t *testing.T) {
	d := disk.New()
	for f := range api.FirstSegment {
		done(t, d.Append(f, "other"))
	}
	l := open(t, d)
	if d.Ops() != 4 {
		t.Errorf("%d steps", d.Ops())
	}
	done(t, l.Append("a"), l.Cut(1))
	for f := range api.FirstSegment {
		reads(t, d, f, "other")
	}
	files(t, d, 0, 1, 2, 3)
}

// put: a disk on which these files stand, synced.
func put(t *testing.T, texts map[int]string) *disk.Disk {
	t.Helper()
	d := disk.New()
	for f, s := range texts {
		done(t, d.Append(f, s), d.Sync(f))
	}
	return d
}

// opens: of a disk with this one file, Open answers such a log, and leaves so much of it, by so many steps.
func opens(t *testing.T, what string, f int, text string, stays string, steps, first int, recs ...string) {
	t.Helper()
	d := put(t, map[int]string{f: text})
	was := d.Ops()
	has(t, what, open(t, d), first, recs...)
	if stays == "" {
		files(t, d)
	} else {
		reads(t, d, f, stays)
	}
	if got, ok := d.Sure(f); got != stays || ok != (stays != "") || d.Loose(f) != 0 {
		t.Errorf("%s: %d bytes are sure, %d changes loose", what, len(got), d.Loose(f))
	}
	if d.Ops()-was != steps {
		t.Errorf("%s: %d steps, want %d", what, d.Ops()-was, steps)
	}
}

// P7.1: what is no segment's file is gone.
func TestOpenNoSegment(t *testing.T) {
	good := segmentText(0, "a")
	for what, text := range map[string]string{
		"an empty file":                  "",
		"bytes":                          "bytes that are no frame",
		"a torn head":                    head(0)[:26],
		"a spoilt head":                  "\x01" + good[1:],
		"a byte ahead of the head":       "x" + good,
		"a record ahead of the head":     rec(1, "a") + good,
		"another segment's head":         segmentText(1, "a"),
		"the last file's segment's head": segmentText(27, "a"),
		"another word":                   framed("Segment"+wire.U64(0)) + rec(1, "a"),
		"a word only":                    framed("segment"),
		"a number of 7 bytes":            framed("segment"+wire.U64(0)[1:]) + rec(1, "a"),
		"a number of 9 bytes":            framed("segment"+wire.U64(0)+"\x00") + rec(1, "a"),
		"a payload of nothing":           framed(""),
		"a huge number":                  head(1<<64 - 1<<64%28),
	} {
		opens(t, what, 4, text, "", 2, 1)
	}
	opens(t, "a segment's file", 4, good, good, 0, 1, "a")
}

// P7.1: a head's number is at most MaxIndex, and its file is its own.
func TestOpenNumbers(t *testing.T) {
	for _, k := range []uint64{0, 1, 27, 28, 55, 56, 1000, api.MaxIndex/8 - 1, api.MaxIndex - 1, api.MaxIndex} {
		f := 4 + int(k%28)
		text := segmentText(k, "a", "b")
		opens(t, "a number that may be", f, text, text, 0, int(8*k+1), "a", "b")
		opens(t, "a head alone", f, head(k), head(k), 0, int(8*k+1))
		opens(t, "another one's file", 4+int((k+1)%28), text, "", 2, 1)
	}
	for _, k := range []uint64{api.MaxIndex + 1, api.MaxIndex + 28, 1 << 32, 1 << 62, 1 << 63, 1<<64 - 1} {
		opens(t, "a number above MaxIndex", 4+int(k%28), segmentText(k, "a"), "", 2, 1)
	}
}

// P7.1: what stands behind the last record is torn, and goes.
func TestOpenTorn(t *testing.T) {
	two := segmentText(0, "a", "")
	for what, torn := range map[string]string{
		"a byte":                       "x",
		"a part of a frame":            rec(3, "c")[:20],
		"a spoilt frame":               rec(3, "c")[:26] + "x",
		"bytes and a frame":            "x" + rec(3, "c"),
		"a record of an index on":      rec(4, "c"),
		"a record once more":           rec(2, ""),
		"a record of a huge index":     rec(1<<63, "c"),
		"a record of index 3, 2^32 on": rec(1<<32+3, "c"),
		"another word":                 framed("Record" + wire.U64(3) + "c"),
		"an index only":                framed(wire.U64(3) + "c"),
		"a word only":                  framed("record"),
		"an index of 7 bytes":          framed("record" + wire.U64(3)[:7]),
		"a payload of nothing":         framed(""),
		"a head":                       head(0),
		"a hole, and a record":         framed("") + rec(3, "c"),
	} {
		opens(t, what, 4, two+torn, two, 2, 1, "a", "")
		opens(t, what+" behind the head", 4, head(0)+torn, head(0), 2, 1)
	}
	three := two + rec(3, "c")
	opens(t, "a third record", 4, three, three, 0, 1, "a", "", "c")
}

// P7.1: MaxSegment records are the most of a segment; what stands behind them is torn, though it is whole.
func TestOpenMaxSegment(t *testing.T) {
	eight := segmentText(0, names(8)...)
	opens(t, "eight records", 4, eight, eight, 0, 1, names(8)...)
	opens(t, "nine records", 4, eight+rec(9, "r9"), eight, 2, 1, names(8)...)
	opens(t, "ten records", 4, eight+rec(9, "r9")+rec(10, "r10"), eight, 2, 1, names(8)...)
}

// P7.1: a record that is read may have as many bytes as a frame has room for.
func TestOpenLongRecord(t *testing.T) {
	long := strings.Repeat("l", api.MaxFrame-6-8)
	text := segmentText(0, "a", long, "c")
	opens(t, "a long record", 4, text, text, 0, 1, "a", long, "c")
}

// P7.1: the run is the least segment and those that follow it without a gap; the others go, from the greatest down.
func TestOpenRun(t *testing.T) {
	full := func(k uint64) string { return segmentText(k, names(8)...) }
	eights := func(n int) []string { return slices.Repeat(names(8), n) }
	check := func(what string, texts map[int]string, steps, first int, recs []string, left ...int) {
		t.Helper()
		d := put(t, texts)
		was := d.Ops()
		has(t, what, open(t, d), first, recs...)
		files(t, d, left...)
		if d.Ops()-was != steps {
			t.Errorf("%s: %d steps, want %d", what, d.Ops()-was, steps)
		}
		for f := range api.MaxFiles {
			if d.Loose(f) != 0 {
				t.Errorf("%s: of the file %d something is loose", what, f)
			}
		}
	}
	check("two in a row", map[int]string{4: full(0), 5: segmentText(1, "z")}, 0, 1, append(eights(1), "z"), 4, 5)
	check("a gap", map[int]string{4: full(0), 6: full(2), 7: full(3)}, 4, 1, eights(1), 4)
	check("seven records", map[int]string{4: segmentText(0, names(7)...), 5: full(1)}, 2, 1, names(7), 4)
	check("none in the midst", map[int]string{4: full(0), 5: head(1), 6: full(2)}, 2, 1, eights(1), 4, 5)
	check("not from 0 on", map[int]string{6: full(2), 7: head(3)}, 0, 17, eights(1), 6, 7)
	check("around the end of the files", map[int]string{31: full(27), 4: full(28), 5: segmentText(29, "z")}, 0, 217, append(eights(2), "z"), 4, 5, 31)
	check("the least number, not the first file", map[int]string{4: full(28), 8: full(4), 9: head(5)}, 2, 33, eights(1), 8, 9)
	check("a torn one in the midst", map[int]string{4: full(0), 5: segmentText(1, "z") + "x", 6: full(2)}, 4, 1, append(eights(1), "z"), 4, 5)
	check("a file that is none in the midst", map[int]string{4: full(0), 5: "x", 6: full(2)}, 4, 1, eights(1), 4)
	all := map[int]string{}
	for k := range api.Segments {
		all[4+k] = full(uint64(k))
	}
	check("all files", all, 0, 1, eights(28), span(4, 31)...)
}

// span: the numbers from one to another one.
func span(from, to int) (l []int) {
	for n := from; n <= to; n++ {
		l = append(l, n)
	}
	return l
}

// P7.2, R4: a log that is none.
func TestNilLog(t *testing.T) {
	var l *wal.Log
	if l.First() != 0 || l.Last() != 0 || l.All() == nil {
		t.Errorf("First %d, Last %d", l.First(), l.Last())
	}
	for range l.All() {
		t.Error("All of nil tells something")
	}
	for _, n := range []int{-1, 0, 1, 10, math.MinInt, math.MaxInt} {
		if s, e := l.Get(n); s != "" || e != api.ErrNil {
			t.Errorf("Get: %q, %d", s, e)
		}
		want(t, "Cut", l.Cut(n), api.ErrNil)
		want(t, "Drop", l.Drop(n), api.ErrNil)
		want(t, "Reset", l.Reset(n), api.ErrNil)
	}
	want(t, "Append", l.Append(strings.Repeat("x", 9999)), api.ErrNil)
	want(t, "Sync", l.Sync(), api.ErrNil)
}

// P7.2, R6: All may be left early, gone through again, and tells what there is when that begins.
func TestAll(t *testing.T) {
	l, _ := filled(t)
	all := l.All()
	for _, r := range names(19) {
		done(t, l.Append(r))
	}
	told := func(leave int) (got []string) {
		for index, r := range all {
			if r != "r"+strconv.Itoa(index) {
				t.Errorf("%q at %d", r, index)
			}
			got = append(got, r)
			if len(got) == leave {
				break
			}
		}
		return got
	}
	for _, leave := range []int{1, 7, 8, 9, 18, 19} {
		if got := told(leave); !slices.Equal(got, names(19)[:leave]) {
			t.Errorf("left behind %d: %q", leave, got)
		}
	}
	var got []string
	for _, r := range all {
		got = append(got, r)
		switch len(got) {
		case 2:
			done(t, l.Cut(4), l.Append("other 4"), l.Append("other 5"))
		case 3:
			done(t, l.Reset(17), l.Append("other 17"))
		case 10:
			done(t, l.Cut(17), l.Append("another 17"))
		}
	}
	if !slices.Equal(got, names(19)) {
		t.Errorf("gone through while the log changes: %q", got)
	}
	for index, r := range all {
		if index != 17 || r != "another 17" {
			t.Errorf("gone through again: %q at %d", r, index)
		}
	}
}

// P7.3: records of whatever bytes, up to MaxRecord of them, told as they were put, in their segments' files.
func TestAppend(t *testing.T) {
	recs := append(names(6), "", "\x00\xff", strings.Repeat("m", api.MaxRecord), "tenth")
	l, d := filled(t, recs...)
	has(t, "ten records", l, 1, recs...)
	reads(t, d, 4, segmentText(0, recs[:8]...))
	reads(t, d, 5, segmentText(1, recs[8:]...))
	for _, n := range []int{api.MaxRecord + 1, api.MaxRecord + 2, api.MaxFrame, 1 << 20} {
		was := d.Ops()
		want(t, "Append of a long record", l.Append(strings.Repeat("m", n)), api.ErrLong)
		if d.Ops() != was {
			t.Error("a step of a record that is refused")
		}
	}
	has(t, "ten records yet", l, 1, recs...)
}

// P7.3: Segments of them are the most, whichever they are.
func TestAppendFull(t *testing.T) {
	recs := names(8 * api.Segments)
	l, d := filled(t, recs...)
	has(t, "all segments", l, 1, recs...)
	was := d.Ops()
	for range 2 {
		want(t, "Append to a full log", l.Append("x"), api.ErrFull)
		want(t, "Append of a long record", l.Append(strings.Repeat("m", api.MaxRecord+1)), api.ErrLong)
	}
	if d.Ops() != was || len(d.Files()) != api.Segments {
		t.Errorf("%d steps of what is refused, %d files", d.Ops()-was, len(d.Files()))
	}
	done(t, l.Sync(), l.Drop(8), l.Append("x"))
	has(t, "the first one dropped", l, 9, append(recs[8:], "x")...)
	reads(t, d, 4, segmentText(28, "x"))
	done(t, l.Cut(225))
	has(t, "the new one cut", l, 9, recs[8:]...)
	files(t, d, span(5, 31)...)
	has(t, "opened anew", open(t, d), 9, recs[8:]...)
}

// P7.3: MaxIndex is the last index.
func TestAppendMaxIndex(t *testing.T) {
	l, d := filled(t)
	done(t, l.Reset(api.MaxIndex-7))
	for _, r := range names(8) {
		done(t, l.Append(r))
	}
	was := d.Ops()
	want(t, "Append behind MaxIndex", l.Append("x"), api.ErrRange)
	want(t, "Append of a long one", l.Append(strings.Repeat("m", api.MaxRecord+1)), api.ErrLong)
	if d.Ops() != was {
		t.Error("a step of what is refused")
	}
	has(t, "up to MaxIndex", l, api.MaxIndex-7, names(8)...)
	done(t, l.Reset(api.MaxIndex+1))
	want(t, "Append behind MaxIndex", l.Append("x"), api.ErrRange)
	has(t, "at MaxIndex", l, api.MaxIndex+1)
	files(t, d)
}

// P7.3: Sync makes sure what was put, and is no step where nothing was.
func TestSync(t *testing.T) {
	l, d := filled(t)
	done(t, l.Sync())
	if d.Ops() != 0 {
		t.Errorf("%d steps of an empty log", d.Ops())
	}
	done(t, l.Append("a"), l.Append("b"))
	if got, ok := d.Sure(4); ok || d.Loose(4) != 3 {
		t.Errorf("%d bytes are sure, %d changes loose", len(got), d.Loose(4))
	}
	done(t, l.Sync(), l.Sync(), l.Sync())
	if got, _ := d.Sure(4); got != segmentText(0, "a", "b") || d.Ops() != 4 {
		t.Errorf("%d bytes are sure behind %d steps", len(got), d.Ops())
	}
}

// P7.3: ahead of a new segment the last one is synced, if something was put to it.
func TestNewSegmentSyncs(t *testing.T) {
	l, d := filled(t, names(8)...)
	if d.Ops() != 9 || d.Loose(4) != 9 {
		t.Errorf("%d steps, %d loose", d.Ops(), d.Loose(4))
	}
	done(t, l.Append("r9"))
	if d.Ops() != 12 || d.Loose(4) != 0 || d.Loose(5) != 2 {
		t.Errorf("%d steps, %d and %d loose", d.Ops(), d.Loose(4), d.Loose(5))
	}
	done(t, l.Sync())
	if d.Ops() != 13 {
		t.Errorf("%d steps", d.Ops())
	}
	for _, r := range names(7) {
		done(t, l.Append(r))
	}
	done(t, l.Sync(), l.Append("r17"))
	if d.Ops() != 13+8+2 {
		t.Errorf("%d steps, where all was synced", d.Ops())
	}
}

// P7.3: what was there when the log was opened is not synced by it.
func TestSyncOfOpened(t *testing.T) {
	_, d := filled(t, names(8)...)
	l := open(t, d)
	done(t, l.Sync())
	if d.Ops() != 9 || d.Loose(4) != 9 {
		t.Errorf("%d steps, %d loose", d.Ops(), d.Loose(4))
	}
}

// P7.4: from First to Last + 1; the records from there on are gone, for sure.
func TestCut(t *testing.T) {
	for n := range 26 {
		for from := 1; from <= n+1; from++ {
			l, d := filled(t, names(n)...)
			done(t, l.Sync())
			for _, wrong := range []int{0, -1, n + 2, math.MinInt, math.MaxInt} {
				want(t, "Cut out of range", l.Cut(wrong), api.ErrRange)
			}
			done(t, l.Cut(from))
			has(t, "cut", l, 1, names(from-1)...)
			for f := range api.MaxFiles {
				if d.Loose(f) != 0 {
					t.Errorf("of the file %d something is loose", f)
				}
			}
			has(t, "cut, and opened anew", open(t, d.Copy()), 1, names(from-1)...)
			done(t, l.Append("new"), l.Sync())
			has(t, "cut, with a new one", l, 1, append(names(from-1), "new")...)
			done(t, d.Crash(nil, 0))
			has(t, "cut, with a new one, opened anew", open(t, d), 1, append(names(from-1), "new")...)
		}
	}
}

// P7.4: a segment that has no record goes too, if it begins at from.
func TestCutHead(t *testing.T) {
	d := put(t, map[int]string{4: segmentText(0, names(8)...), 5: head(1)})
	l := open(t, d)
	has(t, "opened", l, 1, names(8)...)
	done(t, l.Cut(9))
	files(t, d, 4)
	has(t, "cut", l, 1, names(8)...)
}

// P7.4: First stays, though all records go.
func TestCutAll(t *testing.T) {
	l, d := filled(t, names(20)...)
	done(t, l.Sync(), l.Drop(8))
	want(t, "Cut ahead of First", l.Cut(8), api.ErrRange)
	done(t, l.Cut(9))
	has(t, "all cut", l, 9)
	files(t, d)
	done(t, l.Cut(9))
	want(t, "Cut behind the end", l.Cut(10), api.ErrRange)
	done(t, l.Append("r9"), l.Sync())
	has(t, "begun anew", l, 9, "r9")
	files(t, d, 5)
	has(t, "opened anew", open(t, d), 9, "r9")
}

// P7.5: whole segments go that end at most at upto.
func TestDrop(t *testing.T) {
	for _, n := range []int{0, 1, 7, 8, 9, 16, 24, 25} {
		for _, upto := range []int{math.MinInt, -1, 0, 1, 7, 8, 9, 15, 16, 17, 23, 24, 25, 99, math.MaxInt} {
			l, d := filled(t, names(n)...)
			done(t, l.Sync())
			was := d.Ops()
			done(t, l.Drop(upto))
			gone := min(n, max(upto, 0)) / 8
			has(t, "dropped", l, 8*gone+1, names(n)[8*gone:]...)
			if d.Ops()-was != 2*gone {
				t.Errorf("%d steps for %d segments", d.Ops()-was, gone)
			}
			done(t, l.Append("new"), l.Sync())
			has(t, "dropped, with a new one", l, 8*gone+1, append(names(n)[8*gone:], "new")...)
			has(t, "dropped, opened anew", open(t, d), 8*gone+1, append(names(n)[8*gone:], "new")...)
		}
	}
}

// P7.6: from 1 to MaxIndex + 1, by whole segments.
func TestReset(t *testing.T) {
	for _, first := range []int{1, 9, 17, 8*28 + 1, 8*100 + 1, api.MaxIndex - 7, api.MaxIndex + 1} {
		l, d := filled(t, names(11)...)
		done(t, l.Reset(first))
		has(t, "set anew", l, first)
		files(t, d)
		done(t, l.Cut(first))
		want(t, "Cut", l.Cut(first+1), api.ErrRange)
		if first <= api.MaxIndex {
			done(t, l.Append("new"))
			has(t, "set anew, with one", l, first, "new")
			files(t, d, 4+first/8%28)
			reads(t, d, 4+first/8%28, segmentText(uint64(first/8), "new"))
		}
		done(t, l.Reset(1), l.Append("a"))
		has(t, "set back", l, 1, "a")
	}
	l, d := filled(t, "a", "b")
	was := d.Ops()
	for _, first := range []int{0, -1, -7, 2, 7, 8, 10, 16, api.MaxIndex, api.MaxIndex + 2, api.MaxIndex + 9, math.MinInt, math.MinInt + 1, math.MaxInt, math.MaxInt - 6} {
		want(t, "Reset", l.Reset(first), api.ErrArg)
	}
	if d.Ops() != was {
		t.Error("a step of what is refused")
	}
	has(t, "not set anew", l, 1, "a", "b")
}

// A log that is broken answers the disk's error from then on, though the disk is on again; it tells what it has.
func TestBroken(t *testing.T) {
	for name, call := range map[string]func(*wal.Log) api.Errno{
		"Append": func(l *wal.Log) api.Errno { return l.Append("x") },
		"Sync":   func(l *wal.Log) api.Errno { return l.Sync() },
		"Cut":    func(l *wal.Log) api.Errno { return l.Cut(2) },
		"Drop":   func(l *wal.Log) api.Errno { return l.Drop(8) },
		"Reset":  func(l *wal.Log) api.Errno { return l.Reset(17) },
	} {
		l, d := filled(t, names(10)...)
		done(t, d.Power(0))
		want(t, name, call(l), api.ErrOff)
		done(t, d.Power(-1))
		was := d.Ops()
		want(t, name+" again", call(l), api.ErrOff)
		want(t, "Append", l.Append(strings.Repeat("x", 9999)), api.ErrOff)
		want(t, "Sync", l.Sync(), api.ErrOff)
		want(t, "Cut", l.Cut(99), api.ErrOff)
		want(t, "Drop", l.Drop(0), api.ErrOff)
		want(t, "Reset", l.Reset(2), api.ErrOff)
		if d.Ops() != was {
			t.Errorf("a step of a log that is broken by %s", name)
		}
		has(t, "broken by "+name, l, 1, names(10)...)
	}
}

// What is refused, or does nothing, does not break a log, though the disk is off.
func TestNotBroken(t *testing.T) {
	l, d := filled(t, "a")
	done(t, l.Sync(), d.Power(0), l.Sync(), l.Drop(9), l.Cut(2))
	want(t, "Append", l.Append(strings.Repeat("x", 9999)), api.ErrLong)
	want(t, "Cut", l.Cut(9), api.ErrRange)
	want(t, "Reset", l.Reset(2), api.ErrArg)
	done(t, d.Power(-1), l.Append("b"))
	has(t, "not broken", l, 1, "a", "b")
}
