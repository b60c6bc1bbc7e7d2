package snap_test

import (
	"math"
	"slices"
	"strings"
	"testing"

	"dragoman/api"
	"dragoman/disk"
	"dragoman/frame"
	"dragoman/snap"
	"dragoman/wire"
)

const (
	chunk   = 2048
	mostLen = 1 << 18
)

func want(t *testing.T, what string, got, want api.Errno) {
	t.Helper()
	if got != want {
		t.Errorf("%s: the error %d, want %d", what, got, want)
	}
}

// done: calls that must answer OK.
func done(t *testing.T, l ...api.Errno) {
	t.Helper()
	for _, e := range l {
		want(t, "a call", e, api.OK)
	}
}

// dice are numbers that look thrown, and are the same in each run.
type dice uint64

func (d *dice) below(n int) int {
	*d ^= *d << 13
	*d ^= *d >> 7
	*d ^= *d << 17
	return int(uint64(*d) >> 11 % uint64(n))
}

// text: so many bytes, which differ from place to place.
func text(n int) string {
	d := dice(n + 1)
	b := make([]byte, n)
	for i := range b {
		b[i] = byte(d.below(256))
	}
	return string(b)
}

func mark(index, term int) api.Mark { return api.Mark{Index: index, Term: term} }

func framed(payload string) string {
	s, e := frame.Put(payload)
	if e != api.OK {
		panic("no frame")
	}
	return s
}

func head(index, term, n uint64) string {
	return framed("snapshot" + wire.U64(index) + wire.U64(term) + wire.U64(n))
}

// written: a snapshot's file, as the chapter says it.
func written(m api.Mark, s string) string {
	b := head(uint64(m.Index), uint64(m.Term), uint64(len(s)))
	for at := 0; at < len(s); at += chunk {
		b += framed(s[at:min(at+chunk, len(s))])
	}
	return b
}

// put: a disk with these in SnapA and SnapB; none of a text "none".
func put(t *testing.T, a, b string) *disk.Disk {
	t.Helper()
	d := disk.New()
	for i, s := range []string{a, b} {
		if s != "none" {
			done(t, d.Append(2+i, s), d.Sync(2+i))
		}
	}
	return d
}

func loads(t *testing.T, what string, d *disk.Disk, m api.Mark, s string) {
	t.Helper()
	got, text, e := snap.Load(d)
	if got != m || text != s || e != api.OK {
		t.Errorf("%s: Load %v, %d bytes, %d; want %v, %d bytes", what, got, len(text), e, m, len(s))
	}
}

func loadsNone(t *testing.T, what string, d *disk.Disk, want api.Errno) {
	t.Helper()
	m, text, e := snap.Load(d)
	if m != (api.Mark{}) || text != "" || e != want {
		t.Errorf("%s: Load %v, %d bytes, %d; want the error %d", what, m, len(text), e, want)
	}
}

// The chapter's examples.
func TestExamples(t *testing.T) {
	s := text(3000)
	if got, e := snap.Piece(s, 2048); got != s[2048:] || len(got) != 952 || e != api.OK {
		t.Errorf("Piece: %d bytes, %d", len(got), e)
	}
	if got, e := snap.Piece("ab", 3); got != "" || e != api.ErrRange {
		t.Errorf("Piece(ab, 3): %q, %d", got, e)
	}
	x := snap.NewInbox()
	takes(t, "ab", x, api.Message{Index: 8, LogTerm: 1, Total: 3, Data: "ab"}, 2, "", false)
	takes(t, "ab again", x, api.Message{Index: 8, LogTerm: 1, Total: 3, Data: "ab"}, 2, "", false)
	takes(t, "c", x, api.Message{Index: 8, LogTerm: 1, Total: 3, At: 2, Data: "c"}, 3, "abc", true)
	takes(t, "another one", x, api.Message{Index: 16, LogTerm: 1, Total: 2, At: 1, Data: "x"}, 0, "", false)
	d := disk.New()
	loadsNone(t, "a new disk", d, api.ErrNone)
	want(t, "Save({8, 1})", snap.Save(d, mark(8, 1), "abc"), api.OK)
	loads(t, "behind a Save", d, mark(8, 1), "abc")
	want(t, "Save({8, 2})", snap.Save(d, mark(8, 2), "x"), api.ErrRange)
	want(t, "Save({16, 2})", snap.Save(d, mark(16, 2), "x"), api.OK)
	if !slices.Equal(d.Files(), []int{2, 3}) {
		t.Errorf("Files: %v", d.Files())
	}
}

// P19.1: from each place on, one piece at most; none from elsewhere.
func TestPiece(t *testing.T) {
	for _, n := range []int{0, 1, chunk - 1, chunk, chunk + 1, 2 * chunk, 5000} {
		s := text(n)
		for _, at := range []int{0, 1, chunk - 1, chunk, n - chunk - 1, n - chunk, n - chunk + 1, n - 1, n, n + 1, -1, math.MinInt, math.MaxInt} {
			got, e := snap.Piece(s, at)
			if at < 0 || at > n {
				if got != "" || e != api.ErrRange {
					t.Errorf("Piece(%d bytes, %d): %d bytes, %d", n, at, len(got), e)
				}
				continue
			}
			if got != s[at:min(n, at+chunk)] || e != api.OK {
				t.Errorf("Piece(%d bytes, %d): %d bytes, %d", n, at, len(got), e)
			}
		}
	}
}

// P19.3: no disk, one that is off, one without a snapshot.
func TestLoadRefused(t *testing.T) {
	loadsNone(t, "no disk", nil, api.ErrNil)
	for _, s := range []string{"none", "", written(mark(1, 1), "x")} {
		d := put(t, s, s)
		done(t, d.Power(0))
		loadsNone(t, "a disk that is off", d, api.ErrOff)
	}
	loadsNone(t, "empty files", put(t, "", ""), api.ErrNone)
	d := disk.New()
	for f := range 32 {
		if f != 2 && f != 3 {
			done(t, d.Append(f, written(mark(1, 1), "x")))
		}
	}
	loadsNone(t, "in other files", d, api.ErrNone)
}

// P19.3: marks and lengths at their limits; texts of whole pieces, and one byte more or fewer.
func TestLoad(t *testing.T) {
	for _, m := range []api.Mark{mark(1, 0), mark(1, 1<<40), mark(1<<20, 0), mark(1<<20, 1<<40), mark(32, 7)} {
		loads(t, "a mark", put(t, written(m, "abc"), "none"), m, "abc")
	}
	for _, n := range []int{0, 1, chunk - 1, chunk, chunk + 1, 2*chunk - 1, 2 * chunk, 2*chunk + 1, mostLen - 1, mostLen} {
		loads(t, "a text", put(t, "none", written(mark(8, 1), text(n))), mark(8, 1), text(n))
	}
}

// P19.3: what is no snapshot's file, byte for byte.
func TestLoadNone(t *testing.T) {
	s := text(chunk + 9)
	right := written(mark(8, 3), s)
	first, second := framed(s[:chunk]), framed(s[chunk:])
	wrong := map[string]string{
		"no head":                  first + second,
		"another word":             framed("snapshoT"+wire.U64(8)+wire.U64(3)+wire.U64(chunk+9)) + first + second,
		"no word":                  framed(wire.U64(8)+wire.U64(3)+wire.U64(chunk+9)) + first + second,
		"the word alone":           framed("snapshot"),
		"a head that is cut":       framed("snapshot" + wire.U64(8) + wire.U64(3) + "abc"),
		"a head of two numbers":    framed("snapshot" + wire.U64(8) + wire.U64(3)),
		"a head with more":         framed("snapshot"+wire.U64(8)+wire.U64(3)+wire.U64(chunk+9)+"x") + first + second,
		"two heads":                head(8, 3, chunk+9) + right,
		"the index 0":              head(0, 3, chunk+9) + first + second,
		"a greater index":          head(1<<20+1, 3, chunk+9) + first + second,
		"a huge index":             head(math.MaxUint64, 3, chunk+9) + first + second,
		"an index of 2^63":         head(1<<63+8, 3, chunk+9) + first + second,
		"a greater term":           head(8, 1<<40+1, chunk+9) + first + second,
		"a huge term":              head(8, math.MaxUint64, chunk+9) + first + second,
		"fewer bytes than said":    head(8, 3, chunk+10) + first + second,
		"more bytes than said":     head(8, 3, chunk+8) + first + second,
		"no bytes said":            head(8, 3, 0) + first + second,
		"a huge length":            head(8, 3, math.MaxUint64) + first + second,
		"the last piece wanting":   head(8, 3, chunk+9) + first,
		"the first piece wanting":  head(8, 3, chunk+9) + second,
		"a short piece ahead":      head(8, 3, chunk+9) + framed(s[:9]) + framed(s[9:]),
		"a long piece":             head(8, 3, chunk+9) + framed(s),
		"three pieces":             head(8, 3, chunk+9) + first + framed(s[chunk:chunk+4]) + framed(s[chunk+4:]),
		"a piece of no bytes":      right + framed(""),
		"no text, and a piece":     head(8, 3, 0) + framed(""),
		"a byte behind":            right + "x",
		"a frame behind":           right + framed("x"),
		"a head that is spoilt":    right[:9] + "X" + right[10:],
		"a piece that is spoilt":   right[:len(right)-5] + string(right[len(right)-5]^1) + right[len(right)-4:],
		"one byte too many":        head(8, 3, mostLen+1) + strings.TrimPrefix(written(mark(8, 3), text(mostLen+1)), head(8, 3, mostLen+1)),
		"an empty text that is no": head(8, 3, 1),
	}
	for n := range len(right) {
		if n < 60 || n%97 == 0 || n > len(right)-30 {
			loadsNone(t, "cut", put(t, right[:n], "none"), api.ErrNone)
		}
	}
	for what, s := range wrong {
		loadsNone(t, what, put(t, s, "none"), api.ErrNone)
		loadsNone(t, what, put(t, "none", s), api.ErrNone)
		loads(t, what+", a right one beside it", put(t, s, written(mark(1, 0), "b")), mark(1, 0), "b")
		loads(t, what+", a right one beside it", put(t, written(mark(1, 0), "b"), s), mark(1, 0), "b")
	}
	loads(t, "the right one", put(t, right, "none"), mark(8, 3), s)
}

// The newest one: by its index alone; of one index the one in SnapA.
func TestNewest(t *testing.T) {
	for _, x := range []struct {
		a, b   api.Mark
		second bool
	}{
		{mark(8, 1), mark(9, 1), true},
		{mark(9, 1), mark(8, 1), false},
		{mark(8, 1), mark(9, 0), true},
		{mark(9, 0), mark(8, 7), false},
		{mark(8, 1), mark(8, 1), false},
		{mark(8, 1), mark(8, 2), false},
		{mark(8, 2), mark(8, 1), false},
		{mark(9, 1), mark(10, 1), true},
		{mark(255, 1), mark(256, 1), true},
	} {
		d := put(t, written(x.a, "in A"), written(x.b, "in B"))
		was := d.Ops()
		if x.second {
			loads(t, "two of them", d, x.b, "in B")
		} else {
			loads(t, "two of them", d, x.a, "in A")
		}
		if d.Ops() != was {
			t.Errorf("Load has done %d steps", d.Ops()-was)
		}
	}
}

// P19.3: what is seen counts, though it is loose.
func TestLoadLoose(t *testing.T) {
	d := put(t, written(mark(8, 1), "a"), "none")
	done(t, d.Append(3, written(mark(9, 1), "b")))
	loads(t, "a loose one", d, mark(9, 1), "b")
	done(t, d.Remove(2), d.Cut(3, 5))
	loadsNone(t, "loosely gone", d, api.ErrNone)
}
