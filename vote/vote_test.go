package vote_test

import (
	"math"
	"slices"
	"strconv"
	"testing"

	"dragoman/api"
	"dragoman/disk"
	"dragoman/frame"
	"dragoman/vote"
	"dragoman/wire"
)

const mostCount = 1 << 62

func want(t *testing.T, what string, got, want api.Errno) {
	t.Helper()
	if got != want {
		t.Errorf("%s: the error %d, want %d", what, got, want)
	}
}

// done: calls that must answer OK.
func done(t *testing.T, l ...api.Errno) {
	t.Helper()
	for i, e := range l {
		want(t, "call "+strconv.Itoa(i), e, api.OK)
	}
}

func ballot(term, node int) api.Ballot { return api.Ballot{Term: term, For: node} }

func open(t *testing.T, d *disk.Disk) *vote.Box {
	t.Helper()
	x, e := vote.Open(d)
	if x == nil || e != api.OK {
		t.Fatalf("Open: %v, %d", x, e)
	}
	return x
}

func now(t *testing.T, what string, x *vote.Box, b api.Ballot) {
	t.Helper()
	if got := x.Now(); got != b {
		t.Errorf("%s: Now %v, want %v", what, got, b)
	}
}

// writes: a Write answers this, and the newest ballot is that one then.
func writes(t *testing.T, x *vote.Box, b api.Ballot, e api.Errno, newest api.Ballot) {
	t.Helper()
	want(t, "Write", x.Write(b), e)
	now(t, "behind Write", x, newest)
}

func framed(payload string) string {
	s, e := frame.Put(payload)
	if e != api.OK {
		panic("no frame of " + strconv.Itoa(len(payload)) + " bytes")
	}
	return s
}

// written: the frame of a ballot, as the chapter says it.
func written(count uint64, term uint64, node uint8) string {
	return framed(wire.U64(count) + wire.U64(term) + wire.U8(node))
}

// put: a disk with these two files; none of a text "none".
func put(t *testing.T, a, b string) *disk.Disk {
	t.Helper()
	d := disk.New()
	for f, s := range []string{a, b} {
		if s != "none" {
			done(t, d.Append(f, s), d.Sync(f))
		}
	}
	return d
}

func reads(t *testing.T, what string, d *disk.Disk, f int, s string) {
	t.Helper()
	got, e := d.Read(f)
	if s == "none" {
		if got != "" || e != api.ErrNone {
			t.Errorf("%s: the file %d has %d bytes, %d; want none", what, f, len(got), e)
		}
		return
	}
	if got != s || e != api.OK {
		t.Errorf("%s: the file %d has %d bytes, %d; want %d bytes", what, f, len(got), e, len(s))
	}
}

// The chapter's examples.
func TestExamples(t *testing.T) {
	d := disk.New()
	x := open(t, d)
	now(t, "a new box", x, ballot(0, -1))
	writes(t, x, ballot(1, 2), api.OK, ballot(1, 2))
	writes(t, x, ballot(1, 0), api.ErrRange, ballot(1, 2))
	writes(t, x, ballot(0, -1), api.ErrRange, ballot(1, 2))
	writes(t, x, ballot(1, 2), api.OK, ballot(1, 2))
	if !slices.Equal(d.Files(), []int{0}) || d.Ops() != 2 {
		t.Errorf("Files %v, Ops %d", d.Files(), d.Ops())
	}
	writes(t, x, ballot(2, -1), api.OK, ballot(2, -1))
	writes(t, x, ballot(2, 1), api.OK, ballot(2, 1))
	done(t, d.Power(1))
	want(t, "Write({3, -1})", x.Write(ballot(3, -1)), api.ErrOff)
	done(t, d.Crash([]int{1}, 0))
	now(t, "opened anew", open(t, d), ballot(3, -1))
	want(t, "Check({1, 3})", vote.Check(ballot(1, 3)), api.ErrArg)
	x = open(t, disk.New())
	writes(t, x, ballot(1, -2), api.ErrArg, ballot(0, -1))
}

// noBallots are none.
func noBallots() []api.Ballot {
	var l []api.Ballot
	for _, term := range []int{-1, math.MinInt, api.MaxTerm + 1, math.MaxInt} {
		l = append(l, ballot(term, -1), ballot(term, 0), ballot(term, 2))
	}
	for _, node := range []int{-2, math.MinInt, 3, 4, 255, 256, math.MaxInt} {
		l = append(l, ballot(0, node), ballot(1, node), ballot(api.MaxTerm, node))
	}
	return append(l, ballot(-1, 3))
}

// P8.1: terms from 0 to MaxTerm, nodes from -1 to Nodes - 1.
func TestCheck(t *testing.T) {
	for _, term := range []int{0, 1, 2, 1 << 32, api.MaxTerm - 1, api.MaxTerm} {
		for node := -1; node < api.Nodes; node++ {
			want(t, "Check of a ballot", vote.Check(ballot(term, node)), api.OK)
		}
	}
	for _, b := range noBallots() {
		want(t, "Check of none", vote.Check(b), api.ErrArg)
	}
}

// P8.2: no disk, and one that is off, whatever it has.
func TestOpenRefused(t *testing.T) {
	if x, e := vote.Open(nil); x != nil || e != api.ErrNil {
		t.Errorf("Open of no disk: %v, %d", x, e)
	}
	for _, text := range []string{"none", "", "torn", written(1, 1, 1)} {
		d := put(t, text, text)
		was := d.Ops()
		done(t, d.Power(0))
		if x, e := vote.Open(d); x != nil || e != api.ErrOff || d.Ops() != was {
			t.Errorf("Open of a disk that is off: %v, %d, %d steps", x, e, d.Ops()-was)
		}
	}
}

// opens: of a disk with these files Open answers a box with that ballot, and leaves so much of them, by so many steps, all of which it needs.
func opens(t *testing.T, what, a, b string, newest api.Ballot, aStays, bStays string, steps int) {
	t.Helper()
	for n := 1; n < steps; n++ {
		d := put(t, a, b)
		was := d.Ops()
		done(t, d.Power(n))
		if x, e := vote.Open(d); x != nil || e != api.ErrOff {
			t.Errorf("%s: Open with power for %d of %d steps: %v, %d", what, n, steps, x, e)
		}
		if d.Ops()-was != n {
			t.Errorf("%s: %d steps, with power for %d", what, d.Ops()-was, n)
		}
	}
	d := put(t, a, b)
	was := d.Ops()
	now(t, what, open(t, d), newest)
	reads(t, what, d, 0, aStays)
	reads(t, what, d, 1, bStays)
	if d.Ops()-was != steps {
		t.Errorf("%s: %d steps, want %d", what, d.Ops()-was, steps)
	}
	for f := range 2 {
		if d.Loose(f) != 0 {
			t.Errorf("%s: of the file %d something is loose", what, f)
		}
	}
	now(t, what+", once more", open(t, d), newest)
	if d.Ops()-was != steps {
		t.Errorf("%s: %d steps when it is opened once more", what, d.Ops()-was-steps)
	}
}

// P8.2: no files, and files without anything.
func TestOpenNew(t *testing.T) {
	opens(t, "no files", "none", "none", ballot(0, -1), "none", "none", 0)
	opens(t, "empty files", "", "", ballot(0, -1), "", "", 0)
	opens(t, "an empty file", "none", "", ballot(0, -1), "none", "", 0)
}

// P8.2: the newest ballot is that of the greatest count, wherever it stands.
func TestOpenNewest(t *testing.T) {
	one, two, three := written(1, 5, 0), written(2, 6, 2), written(3, 6, 3)
	other := written(3, 9, 1)
	opens(t, "one", one, "none", ballot(5, -1), one, "none", 0)
	opens(t, "one in the other file", "none", one, ballot(5, -1), "none", one, 0)
	opens(t, "three", one+two+three, "none", ballot(6, 2), one+two+three, "none", 0)
	opens(t, "in both", one+two, three, ballot(6, 2), one+two, three, 0)
	opens(t, "in both, the first one newer", three, one+two, ballot(6, 2), three, one+two, 0)
	opens(t, "the greatest count ahead of others", three+one, two, ballot(6, 2), three+one, two, 0)
	opens(t, "one count in both", three, other, ballot(6, 2), three, other, 0)
	opens(t, "one count in both, the other way round", other, three, ballot(9, 0), other, three, 0)
	opens(t, "one count behind one another", one+other+three, two, ballot(9, 0), one+other+three, two, 0)
	opens(t, "one count, the other way round", two, one+three+other, ballot(6, 2), two, one+three+other, 0)
	many := ""
	for n := range uint64(20) {
		many += written(n+1, n, 1)
	}
	opens(t, "more than MaxBallots", many, "none", ballot(19, 0), many, "none", 0)
}

// P8.2: what is no ballot is torn, with all that stands behind it.
func TestOpenTorn(t *testing.T) {
	good := written(7, 4, 2)
	later := written(8, 5, 3)
	zero := wire.U64(0)
	for what, torn := range map[string]string{
		"a byte":                "x",
		"a part":                later[:28],
		"a spoilt one":          later[:28] + "\x00",
		"a spoilt length":       "\x01" + later[1:],
		"the count 0":           written(0, 5, 3),
		"a count above 2^62":    written(mostCount+1, 5, 3),
		"the count 2^63":        written(1<<63, 5, 3),
		"a term above MaxTerm":  written(8, api.MaxTerm+1, 3),
		"a huge term":           written(8, 1<<63+5, 3),
		"the node 3":            written(8, 5, 4),
		"the node 254":          written(8, 5, 255),
		"no payload":            framed(""),
		"a payload of 16 bytes": framed(wire.U64(8) + wire.U64(5)),
		"a payload of 18 bytes": framed(wire.U64(8) + wire.U64(5) + "\x03\x00"),
		"a payload of zeros":    framed(zero + zero + "\x00"),
	} {
		opens(t, what, good+torn, "none", ballot(4, 1), good, "none", 2)
		opens(t, what+", and a later one", good+torn+later, "", ballot(4, 1), good, "", 2)
		opens(t, what+" in the other file", "none", good+torn+later, ballot(4, 1), "none", good, 2)
		opens(t, what+" at first", torn+later, good, ballot(4, 1), "", good, 2)
		opens(t, what+" alone in both", torn, torn, ballot(0, -1), "", "", 4)
		opens(t, what+" in both", later+torn, good+torn, ballot(5, 2), later, good, 4)
	}
}

// P8.2: the edges of what a ballot may be.
func TestOpenEdges(t *testing.T) {
	for _, count := range []uint64{1, 2, 1 << 32, mostCount} {
		for _, term := range []uint64{0, 1, api.MaxTerm} {
			for node := range uint8(4) {
				s := written(count, term, node)
				opens(t, "an edge", "none", s, ballot(int(term), int(node)-1), "none", s, 0)
			}
		}
	}
	a, b := written(mostCount-1, 1, 1), written(mostCount, 2, 2)
	opens(t, "the greatest count", a, b, ballot(2, 1), a, b, 0)
}

// P8.3, R4: a box that is none.
func TestNilBox(t *testing.T) {
	var x *vote.Box
	now(t, "nil", x, api.Ballot{})
	for _, b := range append(noBallots(), ballot(1, 1)) {
		want(t, "Write", x.Write(b), api.ErrNil)
	}
}

// P8.4: a ballot may follow one of a lower term; of the same term nobody's, or one for the same.
func TestMayFollow(t *testing.T) {
	for term := range 4 {
		for node := -1; node < 3; node++ {
			for was := -1; was < 3; was++ {
				x := open(t, disk.New())
				writes(t, x, ballot(2, was), api.OK, ballot(2, was))
				b := ballot(term, node)
				if term > 2 || term == 2 && (was == -1 || was == node) {
					writes(t, x, b, api.OK, b)
				} else {
					writes(t, x, b, api.ErrRange, ballot(2, was))
				}
			}
		}
	}
	x := open(t, disk.New())
	writes(t, x, ballot(0, -1), api.OK, ballot(0, -1))
	writes(t, x, ballot(0, 1), api.OK, ballot(0, 1))
	writes(t, x, ballot(0, 2), api.ErrRange, ballot(0, 1))
	writes(t, x, ballot(api.MaxTerm, 2), api.OK, ballot(api.MaxTerm, 2))
	writes(t, x, ballot(api.MaxTerm-1, 2), api.ErrRange, ballot(api.MaxTerm, 2))
}

// P8.4: what is refused, or is the newest one already, is no step; also of a disk that is off.
func TestWriteNothing(t *testing.T) {
	d := disk.New()
	x := open(t, d)
	writes(t, x, ballot(0, -1), api.OK, ballot(0, -1))
	writes(t, x, ballot(5, 1), api.OK, ballot(5, 1))
	for _, n := range []int{-1, 0} {
		done(t, d.Power(n))
		for _, b := range noBallots() {
			writes(t, x, b, api.ErrArg, ballot(5, 1))
		}
		writes(t, x, ballot(5, 0), api.ErrRange, ballot(5, 1))
		writes(t, x, ballot(5, -1), api.ErrRange, ballot(5, 1))
		writes(t, x, ballot(4, 1), api.ErrRange, ballot(5, 1))
		writes(t, x, ballot(5, 1), api.OK, ballot(5, 1))
	}
	if d.Ops() != 2 {
		t.Errorf("%d steps", d.Ops())
	}
	done(t, d.Power(-1))
	writes(t, x, ballot(6, 1), api.OK, ballot(6, 1))
}

// P8.4: MaxBallots stand in a file; then the other one begins anew, whether the box is opened anew in between or not.
func TestWriteFiles(t *testing.T) {
	for _, every := range []int{1, 3, 100} {
		d := disk.New()
		x := open(t, d)
		texts := [2]string{"none", "none"}
		for n := range 60 {
			f := n / 8 % 2
			if n%8 == 0 {
				texts[f] = ""
			}
			b := ballot(n+1, n%4-1)
			texts[f] += written(uint64(n+1), uint64(n+1), uint8(n%4))
			was := d.Ops()
			writes(t, x, b, api.OK, b)
			steps := 2
			if n%8 == 0 && n > 8 {
				steps = 3
			}
			if d.Ops()-was != steps {
				t.Errorf("%d steps for the ballot %d, want %d", d.Ops()-was, n+1, steps)
			}
			for g := range 2 {
				reads(t, "the ballot "+strconv.Itoa(n+1), d, g, texts[g])
				if d.Loose(g) != 0 {
					t.Errorf("of the file %d something is loose", g)
				}
			}
			now(t, "opened anew", open(t, d.Copy()), b)
			if n%every == 0 {
				x = open(t, d)
			}
		}
		if !slices.Equal(d.Files(), []int{0, 1}) {
			t.Errorf("Files %v", d.Files())
		}
	}
}

// P8.4: where the next ballot comes to stand, whatever the files have.
func TestWritePlace(t *testing.T) {
	seven, eight, nine := "", "", ""
	for n := range uint64(9) {
		s := written(n+1, 1, 0)
		if n < 7 {
			seven += s
		}
		if n < 8 {
			eight += s
		}
		nine += s
	}
	next := func(count uint64) string { return written(count, 2, 2) }
	check := func(what, a, b, aStays, bStays string, steps int) {
		t.Helper()
		d := put(t, a, b)
		x := open(t, d)
		was := d.Ops()
		writes(t, x, ballot(2, 1), api.OK, ballot(2, 1))
		reads(t, what, d, 0, aStays)
		reads(t, what, d, 1, bStays)
		if d.Ops()-was != steps {
			t.Errorf("%s: %d steps, want %d", what, d.Ops()-was, steps)
		}
	}
	check("none yet", "none", "none", next(1), "none", 2)
	check("none yet, the files seen", "", "", next(1), "", 3)
	check("none yet, a torn file", "torn", "none", next(1), "none", 3)
	check("seven", seven, "none", seven+next(8), "none", 2)
	check("eight", eight, "none", eight, next(9), 2)
	check("eight, the other file seen", eight, "", eight, next(9), 3)
	check("eight, and older ones", eight, seven, eight, next(9), 3)
	check("nine", nine, "none", nine, next(10), 2)
	check("seven in the other file", "none", seven, "none", seven+next(8), 2)
	check("eight in the other file", "none", eight, next(9), eight, 2)
	check("eight in the other file, and older ones", seven, eight, next(9), eight, 3)
	check("newer ones in the other file", seven, nine, next(10), nine, 3)
	check("one newer one in the other file", eight, written(9, 1, 0), eight, written(9, 1, 0)+next(10), 2)
}

// P8.4: 2^62 is the greatest count.
func TestWriteCount(t *testing.T) {
	d := put(t, written(mostCount-1, 3, 0), "none")
	x := open(t, d)
	writes(t, x, ballot(3, 2), api.OK, ballot(3, 2))
	reads(t, "the greatest count", d, 0, written(mostCount-1, 3, 0)+written(mostCount, 3, 3))
	was := d.Ops()
	writes(t, x, ballot(4, 2), api.ErrRange, ballot(3, 2))
	writes(t, x, ballot(3, 2), api.OK, ballot(3, 2))
	writes(t, x, ballot(4, 3), api.ErrArg, ballot(3, 2))
	writes(t, x, ballot(2, 2), api.ErrRange, ballot(3, 2))
	now(t, "opened anew", open(t, d), ballot(3, 2))
	want(t, "Write", open(t, d).Write(ballot(4, -1)), api.ErrRange)
	if d.Ops() != was {
		t.Errorf("%d steps of what is refused", d.Ops()-was)
	}
}

// P8.4: at whichever step the disk goes off: no more is done, that error is answered from then on, and the newest ballot stays.
func TestWriteOff(t *testing.T) {
	eight := ""
	for n := range uint64(8) {
		eight += written(n+1, 1, 1)
	}
	for steps, files := range map[int][2]string{2: {written(1, 1, 1), "none"}, 3: {eight, written(1, 0, 0)}} {
		for n := range steps {
			d := put(t, files[0], files[1])
			x := open(t, d)
			was := d.Ops()
			done(t, d.Power(n))
			writes(t, x, ballot(2, 1), api.ErrOff, ballot(1, 0))
			if d.Ops()-was != n {
				t.Errorf("%d steps, with power for %d", d.Ops()-was, n)
			}
			done(t, d.Power(-1))
			for _, b := range append(noBallots(), ballot(0, 1), ballot(1, 0), ballot(2, 1), ballot(3, 1)) {
				writes(t, x, b, api.ErrOff, ballot(1, 0))
			}
			if d.Ops()-was != n {
				t.Errorf("%d steps behind an error", d.Ops()-was-n)
			}
		}
	}
}

// P8.2: an error of the disk's in Open is no error of a box that is opened later.
func TestOpenedLater(t *testing.T) {
	d := put(t, written(1, 1, 1)+"x", "none")
	done(t, d.Power(1))
	if x, e := vote.Open(d); x != nil || e != api.ErrOff {
		t.Errorf("Open: %v, %d", x, e)
	}
	done(t, d.Power(-1))
	x := open(t, d)
	writes(t, x, ballot(2, 0), api.OK, ballot(2, 0))
}
