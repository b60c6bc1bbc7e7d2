package journal_test

import (
	"math"
	"slices"
	"strconv"
	"strings"
	"testing"

	"dragoman/api"
	"dragoman/disk"
	"dragoman/frame"
	"dragoman/journal"
	"dragoman/wire"
)

func want(t *testing.T, what string, got, want api.Errno) {
	t.Helper()
	if got != want {
		t.Errorf("%s: the error %d, want %d", what, got, want)
	}
}

// done: calls that must answer OK.
func done(t *testing.T, l ...api.Errno) {
	t.Helper()
	for i, e := range l {
		want(t, "call "+strconv.Itoa(i), e, api.OK)
	}
}

func send(talk, term, epoch, seq int, text string) api.Taken {
	return api.Taken{Talk: talk, Token: api.Fence{Term: term, Epoch: epoch}, Seq: seq, Text: text}
}

func framed(payload string) string {
	s, e := frame.Put(payload)
	if e != api.OK {
		panic("no frame of " + strconv.Itoa(len(payload)) + " bytes")
	}
	return s
}

// bytesOf: a frame with such numbers and such a text, as the chapter says it.
func bytesOf(talk, term, epoch, seq uint64, text string) string {
	return framed(wire.U64(talk) + wire.U64(term) + wire.U64(epoch) + wire.U64(seq) + wire.U32(uint32(len(text))) + text)
}

func written(l ...api.Taken) string {
	s := ""
	for _, x := range l {
		s += bytesOf(uint64(x.Talk), uint64(x.Token.Term), uint64(x.Token.Epoch), uint64(x.Seq), x.Text)
	}
	return s
}

// put: a disk with this journal's file.
func put(t *testing.T, s string) *disk.Disk {
	t.Helper()
	d := disk.New()
	done(t, d.Append(0, s), d.Sync(0))
	return d
}

func open(t *testing.T, d *disk.Disk) *journal.Journal {
	t.Helper()
	j, e := journal.Open(d)
	if j == nil || e != api.OK {
		t.Fatalf("Open: %v, %d", j, e)
	}
	return j
}

func has(t *testing.T, what string, j *journal.Journal, l ...api.Taken) {
	t.Helper()
	if got := slices.Collect(j.All()); !slices.Equal(got, l) {
		t.Errorf("%s: %v, want %v", what, got, l)
	}
}

func next(t *testing.T, j *journal.Journal, talk, term, epoch, seq int) {
	t.Helper()
	if token, n := j.Next(talk); token != (api.Fence{Term: term, Epoch: epoch}) || n != seq {
		t.Errorf("Next(%d): %v, %d; want {%d %d}, %d", talk, token, n, term, epoch, seq)
	}
}

func reads(t *testing.T, what string, d *disk.Disk, s string) {
	t.Helper()
	if got, e := d.Read(0); got != s || e != api.OK {
		t.Errorf("%s: the file has %d bytes, %d; want %d", what, len(got), e, len(s))
	}
}

// The chapter's examples.
func TestExamples(t *testing.T) {
	d := disk.New()
	j := open(t, d)
	next(t, j, 1, 0, 0, 1)
	want(t, "Add of a", j.Add(send(1, 2, 1, 1, "a")), api.OK)
	next(t, j, 1, 2, 1, 2)
	want(t, "Add by {1, 9}", j.Add(send(1, 1, 9, 2, "b")), api.ErrFence)
	want(t, "Add of the number 3", j.Add(send(1, 2, 1, 3, "b")), api.ErrSeq)
	want(t, "Add of the number 1", j.Add(send(1, 2, 1, 1, "b")), api.ErrSeq)
	want(t, "Add of another talk", j.Add(send(2, 1, 1, 1, "c")), api.OK)
	both := []api.Taken{send(1, 2, 1, 1, "a"), send(2, 1, 1, 1, "c")}
	has(t, "both", j, both...)
	want(t, "Add of the talk 0", j.Add(send(0, 2, 1, 1, "a")), api.ErrArg)
	want(t, "Add of 65 bytes", j.Add(send(1, 2, 1, 2, strings.Repeat("x", 65))), api.ErrLong)
	done(t, d.Crash(nil, 0))
	has(t, "behind a crash", open(t, d), both...)
}

// limit is a number of a send: the field, and the most that it may be.
type limit struct {
	field func(*api.Taken) *int
	most  int
}

func limits() []limit {
	return []limit{
		{func(x *api.Taken) *int { return &x.Talk }, 1 << 20},
		{func(x *api.Taken) *int { return &x.Token.Term }, 1 << 40},
		{func(x *api.Taken) *int { return &x.Token.Epoch }, 1 << 20},
		{func(x *api.Taken) *int { return &x.Seq }, 1 << 20},
	}
}

// P22.1: each number at its limits, and one past them; texts of 64 bytes, and of one more.
func TestCheck(t *testing.T) {
	long := strings.Repeat("x", 65)
	for i, l := range limits() {
		for _, n := range []int{1, 2, l.most - 1, l.most} {
			x := send(1, 1, 1, 1, long[1:])
			*l.field(&x) = n
			want(t, "Check at a limit", journal.Check(x), api.OK)
			x.Text = long
			want(t, "Check of a long text", journal.Check(x), api.ErrLong)
		}
		for _, n := range []int{0, -1, math.MinInt, l.most + 1, math.MaxInt} {
			for _, text := range []string{"", long} {
				x := send(1, 1, 1, 1, text)
				*l.field(&x) = n
				want(t, "Check past a limit of the number "+strconv.Itoa(i), journal.Check(x), api.ErrArg)
			}
		}
	}
	want(t, "Check of no bytes", journal.Check(send(1, 1, 1, 1, "")), api.OK)
	want(t, "Check of many bytes", journal.Check(send(1, 1, 1, 1, strings.Repeat("x", 99999))), api.ErrLong)
	want(t, "Check of nothing", journal.Check(api.Taken{}), api.ErrArg)
}

// R4: of nil.
func TestNil(t *testing.T) {
	var j *journal.Journal
	next(t, j, 1, 0, 0, 0)
	want(t, "Add", j.Add(api.Taken{}), api.ErrNil)
	want(t, "Add", j.Add(send(1, 1, 1, 1, "a")), api.ErrNil)
	if j.All() == nil {
		t.Fatal("All of nil is nil")
	}
	has(t, "All", j)
	if j, e := journal.Open(nil); j != nil || e != api.ErrNil {
		t.Errorf("Open of no disk: %v, %d", j, e)
	}
}

// P22.2: of each talk its own.
func TestNext(t *testing.T) {
	j := open(t, disk.New())
	for _, talk := range []int{0, -1, 1, 1 << 20, 1<<20 + 1, math.MinInt, math.MaxInt} {
		next(t, j, talk, 0, 0, 1)
	}
	done(t, j.Add(send(7, 3, 5, 1, "a")), j.Add(send(1<<20, 1, 1, 1, "b")), j.Add(send(7, 3, 6, 2, "")), j.Add(send(7, 1<<40, 1<<20, 3, "")))
	next(t, j, 7, 1<<40, 1<<20, 4)
	next(t, j, 1<<20, 1, 1, 2)
	next(t, j, 6, 0, 0, 1)
	has(t, "All", j, send(7, 3, 5, 1, "a"), send(1<<20, 1, 1, 1, "b"), send(7, 3, 6, 2, ""), send(7, 1<<40, 1<<20, 3, ""))
}

// P22.3: a disk that is off, whatever it has.
func TestOpenOff(t *testing.T) {
	for _, s := range []string{"", "torn", written(send(1, 1, 1, 1, "a"))} {
		d := put(t, s)
		was := d.Ops()
		done(t, d.Power(0))
		if j, e := journal.Open(d); j != nil || e != api.ErrOff || d.Ops() != was {
			t.Errorf("Open of a disk that is off: %v, %d, %d steps", j, e, d.Ops()-was)
		}
	}
	d := disk.New()
	done(t, d.Power(0))
	if j, e := journal.Open(d); j != nil || e != api.ErrOff {
		t.Errorf("Open of a disk that is off, and has no file: %v, %d", j, e)
	}
}

// opens: of a file with these whole sends and what is torn behind them, Open cuts just that off, by two steps, both of which it needs.
func opens(t *testing.T, what, torn string, l ...api.Taken) {
	t.Helper()
	whole := written(l...)
	steps := 0
	if torn != "" {
		steps = 2
	}
	for n := 1; n < steps; n++ {
		d := put(t, whole+torn)
		was := d.Ops()
		done(t, d.Power(n))
		if j, e := journal.Open(d); j != nil || e != api.ErrOff || d.Ops()-was != n {
			t.Errorf("%s: Open with power for %d steps: %v, %d, %d steps", what, n, j, e, d.Ops()-was)
		}
		done(t, d.Power(-1))
		reads(t, what+", behind one step", d, whole)
		if d.Loose(0) != 1 {
			t.Errorf("%s: %d changes are loose", what, d.Loose(0))
		}
	}
	d := put(t, whole+torn)
	was := d.Ops()
	j := open(t, d)
	has(t, what, j, l...)
	reads(t, what, d, whole)
	if d.Ops()-was != steps || d.Loose(0) != 0 {
		t.Errorf("%s: %d steps, %d loose; want %d", what, d.Ops()-was, d.Loose(0), steps)
	}
	has(t, what+", once more", open(t, d), l...)
	if d.Ops()-was != steps {
		t.Errorf("%s: %d steps when it is opened once more", what, d.Ops()-was-steps)
	}
	x := send(99, 1, 1, 1, "more")
	done(t, j.Add(x))
	reads(t, what+", and more", d, whole+written(x))
	has(t, what+", and more", open(t, d), append(slices.Clone(l), x)...)
}

// P22.3: what is whole, and what is not.
func TestOpen(t *testing.T) {
	if d := disk.New(); d.Ops() == 0 {
		has(t, "no file", open(t, d))
		if d.Ops() != 0 || len(d.Files()) != 0 {
			t.Error("Open of no file does something")
		}
	}
	opens(t, "an empty file", "")
	a, b, c := send(1, 2, 1, 1, "a"), send(2, 1, 1, 1, strings.Repeat("b", 64)), send(1, 2, 3, 2, "")
	opens(t, "one", "", a)
	opens(t, "three", "", a, b, c)
	full := send(1<<20, 1<<40, 1<<20, 1, "")
	opens(t, "the greatest numbers", "", full)
	for n := 1; n < len(written(c)); n++ {
		opens(t, "cut", written(c)[:n], a, b)
	}
	spoilt := []byte(written(b))
	spoilt[20] ^= 1
	opens(t, "spoilt", string(spoilt), a)
	opens(t, "spoilt, and a whole one", string(spoilt)+written(c), a)
	opens(t, "bytes ahead", "x"+written(a))
}

// P22.3: frames whose payload is no send's, and what stands behind them.
func TestOpenNoSend(t *testing.T) {
	a, c := send(1, 2, 1, 1, "a"), send(1, 2, 3, 2, "c")
	right := wire.U64(1) + wire.U64(2) + wire.U64(3) + wire.U64(2)
	for what, s := range map[string]string{
		"no bytes":              framed(""),
		"three numbers":         framed(right[:24]),
		"no text":               framed(right),
		"a text that is cut":    framed(right + wire.U32(2) + "a"),
		"more behind the text":  framed(right + wire.U32(1) + "ab"),
		"a text of 65 bytes":    bytesOf(1, 2, 3, 2, strings.Repeat("x", 65)),
		"the talk 0":            bytesOf(0, 2, 3, 1, "x"),
		"a greater talk":        bytesOf(1<<20+1, 2, 3, 1, "x"),
		"a huge talk":           bytesOf(math.MaxUint64, 2, 3, 1, "x"),
		"a talk of 2^63 and 1":  bytesOf(1<<63+1, 2, 3, 1, "x"),
		"a talk of 2^32 and 1":  bytesOf(1<<32+1, 2, 3, 1, "x"),
		"the term 0":            bytesOf(5, 0, 3, 1, "x"),
		"a greater term":        bytesOf(5, 1<<40+1, 3, 1, "x"),
		"a huge term":           bytesOf(5, math.MaxUint64, 3, 1, "x"),
		"the epoch 0":           bytesOf(5, 2, 0, 1, "x"),
		"a greater epoch":       bytesOf(5, 2, 1<<20+1, 1, "x"),
		"the number 0":          bytesOf(5, 2, 3, 0, "x"),
		"a greater number":      bytesOf(5, 2, 3, 1<<20+1, "x"),
		"the same again":        written(a),
		"a gap":                 bytesOf(1, 2, 3, 3, "x"),
		"a gap at first":        bytesOf(5, 2, 3, 2, "x"),
		"a lower epoch":         bytesOf(1, 1, 9, 2, "x"),
		"a lower term":          bytesOf(1, 1, 1, 2, "x"),
		"another talk's number": bytesOf(2, 2, 1, 2, "x"),
	} {
		opens(t, what, s, a)
		opens(t, what+", and a whole one", s+written(c), a)
	}
	opens(t, "the first one is no first one", bytesOf(1, 2, 3, 2, "x"))
}

// P22.4: errors in their order; what is refused does nothing.
func TestAddRefused(t *testing.T) {
	long := strings.Repeat("x", 65)
	d := disk.New()
	j := open(t, d)
	a := send(3, 2, 5, 1, "a")
	done(t, j.Add(a))
	for _, c := range []struct {
		x api.Taken
		e api.Errno
	}{
		{send(0, 1, 1, 9, long), api.ErrArg},
		{send(3, 0, 1, 2, "b"), api.ErrArg},
		{send(3, 1<<40+1, 1, 2, "b"), api.ErrArg},
		{send(3, 2, 0, 2, "b"), api.ErrArg},
		{send(3, 2, 5, 0, "b"), api.ErrArg},
		{send(3, 2, 5, 1<<20+1, "b"), api.ErrArg},
		{send(3, 1, 1, 9, long), api.ErrLong},
		{send(3, 2, 5, 2, long), api.ErrLong},
		{send(3, 1, 1<<20, 9, "b"), api.ErrFence},
		{send(3, 2, 4, 2, "b"), api.ErrFence},
		{send(3, 2, 4, 1, "b"), api.ErrFence},
		{send(3, 2, 5, 1, "a"), api.ErrSeq},
		{send(3, 2, 5, 3, "b"), api.ErrSeq},
		{send(3, 9, 1, 1<<20, "b"), api.ErrSeq},
		{send(4, 2, 5, 2, "b"), api.ErrSeq},
	} {
		want(t, "Add", j.Add(c.x), c.e)
	}
	if d.Ops() != 2 {
		t.Errorf("%d steps", d.Ops())
	}
	has(t, "behind what is refused", j, a)
	next(t, j, 3, 2, 5, 2)
	// None of these errors was the disk's.
	done(t, j.Add(send(3, 2, 5, 2, "b")), j.Add(send(3, 2, 6, 3, "c")), j.Add(send(3, 3, 1, 4, "d")))
}

// P22.4: two steps, the growing ahead of the sync; an error of the disk's is answered from then on, ahead of all else.
func TestAddOff(t *testing.T) {
	a, b := send(1, 2, 1, 1, "a"), send(1, 2, 1, 2, "b")
	for n := range 2 {
		d := disk.New()
		j := open(t, d)
		done(t, j.Add(a), d.Power(n))
		want(t, "Add", j.Add(b), api.ErrOff)
		if d.Ops()-2 != n || d.Loose(0) != n {
			t.Errorf("with power for %d: %d steps, %d loose", n, d.Ops()-2, d.Loose(0))
		}
		done(t, d.Power(-1))
		reads(t, "behind the step", d, written([]api.Taken{a, b}[:1+n]...))
		for _, x := range []api.Taken{b, send(1, 2, 1, 3, "c"), send(5, 1, 1, 1, ""), {}, send(1, 1, 1, 1, strings.Repeat("x", 65))} {
			want(t, "Add of one that is broken", j.Add(x), api.ErrOff)
		}
		if d.Ops()-2 != n {
			t.Errorf("%d steps of one that is broken", d.Ops()-2-n)
		}
		has(t, "one that is broken", j, a)
		next(t, j, 1, 2, 1, 2)
	}
	d := disk.New()
	j := open(t, d)
	done(t, j.Add(a), d.Power(2))
	want(t, "Add with power for both", j.Add(b), api.OK)
	if d.On() || d.Loose(0) != 0 {
		t.Error("it has done something else")
	}
	has(t, "both", j, a, b)
}

// P22.4: a file that is full is an error of the disk's, too.
func TestAddFull(t *testing.T) {
	text := strings.Repeat("x", 64)
	file := ""
	var b strings.Builder
	n := 0
	for size := len(written(send(1, 1, 1, 1, text))); (n+1)*size <= 1<<20; n++ {
		b.WriteString(written(send(1, 1, 1, n+1, text)))
	}
	file = b.String()
	d := put(t, file)
	j := open(t, d)
	next(t, j, 1, 1, 1, n+1)
	for len(file)+len(written(send(1, 1, 1, n+1, ""))) <= 1<<20 {
		n++
		done(t, j.Add(send(1, 1, 1, n, "")))
		file += written(send(1, 1, 1, n, ""))
	}
	was := d.Ops()
	want(t, "Add to a full file", j.Add(send(1, 1, 1, n+1, text)), api.ErrFull)
	want(t, "Add behind that", j.Add(send(0, 1, 1, 1, "")), api.ErrFull)
	if d.Ops() != was {
		t.Errorf("%d steps", d.Ops()-was)
	}
	reads(t, "a full file", d, file)
	if many := len(slices.Collect(j.All())); many != n {
		t.Errorf("%d sends, want %d", many, n)
	}
}

// P22.5, R6: left early, gone through again; it tells what there is when going through it begins.
func TestAll(t *testing.T) {
	j := open(t, disk.New())
	all := j.All()
	has(t, "none", j)
	l := []api.Taken{send(1, 1, 1, 1, "a"), send(2, 1, 1, 1, "b"), send(1, 1, 1, 2, "c")}
	for _, x := range l {
		done(t, j.Add(x))
	}
	for n := range 4 {
		var got []api.Taken
		for x := range all {
			if len(got) == n {
				break
			}
			got = append(got, x)
		}
		if !slices.Equal(got, l[:n]) {
			t.Errorf("left behind %d: %v", n, got)
		}
	}
	if got := slices.Collect(all); !slices.Equal(got, l) {
		t.Errorf("gone through at last: %v", got)
	}
}
