package message_test

import (
	"math"
	"reflect"
	"strings"
	"testing"

	"dragoman/api"
	"dragoman/message"
	"dragoman/wire"
)

const most = 1 << 50

// dice are numbers that look thrown, and are the same in each run.
type dice uint64

func (d *dice) below(n int) int {
	*d ^= *d << 13
	*d ^= *d >> 7
	*d ^= *d << 17
	return int(uint64(*d) >> 1 % uint64(n))
}

func (d *dice) text(most int) string {
	b := make([]byte, d.below(most+1))
	for i := range b {
		b[i] = byte(d.below(256))
	}
	return string(b)
}

// message is one that may be; often with numbers at their limits.
func (d *dice) message() api.Message {
	n := func(most int) int {
		switch d.below(4) {
		case 0:
			return 0
		case 1:
			return most
		}
		return d.below(most + 1)
	}
	m := api.Message{Kind: uint8(1 + n(13)), From: n(15), To: n(15), Term: n(most), Index: n(most), LogTerm: n(most), Commit: n(most), Stamp: n(most), Good: d.below(2) == 1, At: n(most), Total: n(most), Data: d.text(9), Talk: n(most), Token: api.Fence{Term: n(most), Epoch: n(most)}, Seq: n(most), Client: n(most), Request: n(most), Op: uint8(n(255)), Err: api.Errno(n(999)), Leader: n(3)}
	for range d.below(5) {
		m.Entries = append(m.Entries, api.Entry{Term: n(most), Data: d.text(5)})
	}
	return m
}

// number is a number of a message: its name, the field, the most that it may be, its place in the form and how many bytes it has there.
type number struct {
	name      string
	field     func(*api.Message) *int
	most      int
	at, bytes int
}

// numbers, as the chapter lists them.
func numbers() []number {
	l := []number{
		{"From", func(m *api.Message) *int { return &m.From }, 15, 0, 8},
		{"To", func(m *api.Message) *int { return &m.To }, 15, 0, 8},
		{"Term", func(m *api.Message) *int { return &m.Term }, most, 0, 8},
		{"Index", func(m *api.Message) *int { return &m.Index }, most, 0, 8},
		{"LogTerm", func(m *api.Message) *int { return &m.LogTerm }, most, 0, 8},
		{"Commit", func(m *api.Message) *int { return &m.Commit }, most, 0, 8},
		{"Stamp", func(m *api.Message) *int { return &m.Stamp }, most, 0, 8},
		{"At", func(m *api.Message) *int { return &m.At }, most, 0, 8},
		{"Total", func(m *api.Message) *int { return &m.Total }, most, 0, 8},
		{"Talk", func(m *api.Message) *int { return &m.Talk }, most, 0, 8},
		{"Token.Term", func(m *api.Message) *int { return &m.Token.Term }, most, 0, 8},
		{"Token.Epoch", func(m *api.Message) *int { return &m.Token.Epoch }, most, 0, 8},
		{"Seq", func(m *api.Message) *int { return &m.Seq }, most, 0, 8},
		{"Client", func(m *api.Message) *int { return &m.Client }, most, 0, 8},
		{"Request", func(m *api.Message) *int { return &m.Request }, most, 0, 8},
	}
	for i := range l {
		l[i].at = 1 + 8*i
	}
	return append(l, number{"Leader", func(m *api.Message) *int { return &m.Leader }, 3, 127, 1})
}

func encode(t *testing.T, m api.Message) string {
	t.Helper()
	s, e := message.Encode(m)
	if e != api.OK {
		t.Fatalf("Encode(%+v): %d", m, e)
	}
	return s
}

// refused: neither Check nor Encode takes it.
func refused(t *testing.T, what string, m api.Message, e api.Errno) {
	t.Helper()
	if got := message.Check(m); got != e {
		t.Errorf("%s: Check %d, want %d", what, got, e)
	}
	if s, got := message.Encode(m); s != "" || got != e {
		t.Errorf("%s: Encode %d bytes, %d, want %d", what, len(s), got, e)
	}
}

// taken: it may be, and comes back.
func taken(t *testing.T, what string, m api.Message) {
	t.Helper()
	if e := message.Check(m); e != api.OK {
		t.Errorf("%s: Check %d", what, e)
		return
	}
	s := encode(t, m)
	got, spot := message.Decode(s)
	if spot != (api.Spot{}) || !same(got, m) {
		t.Errorf("%s: comes back as %+v, %v", what, got, spot)
	}
}

func same(a, b api.Message) bool {
	if len(a.Entries) == 0 && len(b.Entries) == 0 {
		a.Entries, b.Entries = nil, nil
	}
	return reflect.DeepEqual(a, b)
}

// faulty: Decode tells this fault, and nothing else.
func faulty(t *testing.T, what, s string, e api.Errno, at int) {
	t.Helper()
	m, spot := message.Decode(s)
	if spot != (api.Spot{Err: e, At: at}) || !same(m, api.Message{}) {
		t.Errorf("%s: %v, %+v; want %d at %d", what, spot, m, e, at)
	}
}

// The chapter's examples.
func TestExamples(t *testing.T) {
	m := api.Message{Kind: 2, From: 1, Term: 3, Good: true}
	s := encode(t, m)
	if len(s) != 133 {
		t.Errorf("%d bytes", len(s))
	}
	taken(t, "the example", m)
	refused(t, "Kind 0", api.Message{}, api.ErrArg)
	refused(t, "To 16", api.Message{Kind: 1, To: 16}, api.ErrArg)
	refused(t, "5 entries", api.Message{Kind: 1, Entries: make([]api.Entry, 5)}, api.ErrLong)
	refused(t, "3501 bytes", api.Message{Kind: 1, Data: strings.Repeat("x", 3501)}, api.ErrLong)
	faulty(t, "nothing", "", api.ErrBytes, 0)
	faulty(t, "the first byte 99", "c"+s[1:], api.ErrBytes, 0)
	faulty(t, "134 bytes", s+"x", api.ErrBytes, 133)
	if !message.Above(api.Fence{Term: 2, Epoch: 1}, api.Fence{Term: 1, Epoch: 9}) || message.Above(api.Fence{Term: 2, Epoch: 1}, api.Fence{Term: 2, Epoch: 1}) {
		t.Error("Above")
	}
}

// P17.1: each number at its limits, and one past them.
func TestCheckNumbers(t *testing.T) {
	for _, x := range numbers() {
		for _, n := range []int{0, 1, x.most} {
			m := api.Message{Kind: 1}
			*x.field(&m) = n
			taken(t, x.name, m)
		}
		for _, n := range []int{-1, x.most + 1, math.MaxInt, math.MinInt} {
			m := api.Message{Kind: 1}
			*x.field(&m) = n
			refused(t, x.name, m, api.ErrArg)
		}
	}
	for kind := range 256 {
		m := api.Message{Kind: uint8(kind)}
		if kind >= 1 && kind <= 14 {
			taken(t, "a kind", m)
		} else {
			refused(t, "a kind", m, api.ErrArg)
		}
	}
	for _, e := range []api.Errno{1, 285, 999} {
		taken(t, "Err", api.Message{Kind: 1, Err: e})
	}
	for _, e := range []api.Errno{-1, 1000, math.MaxInt, math.MinInt, 1<<32 + 1} {
		refused(t, "Err", api.Message{Kind: 1, Err: e}, api.ErrArg)
	}
	for _, op := range []uint8{0, 7, 255} {
		taken(t, "Op", api.Message{Kind: 14, Op: op})
	}
}

func entries(l ...string) []api.Entry {
	var x []api.Entry
	for i, s := range l {
		x = append(x, api.Entry{Term: i, Data: s})
	}
	return x
}

// P17.1: how many entries, and how many bytes of data, together with those of the entries.
func TestCheckLengths(t *testing.T) {
	full := strings.Repeat("x", 3500)
	taken(t, "no entry", api.Message{Kind: 3, Entries: []api.Entry{}})
	taken(t, "4 entries", api.Message{Kind: 3, Entries: make([]api.Entry, 4)})
	taken(t, "3500 bytes", api.Message{Kind: 3, Data: full})
	taken(t, "3500 bytes of an entry", api.Message{Kind: 3, Entries: entries(full)})
	taken(t, "3500 bytes together", api.Message{Kind: 3, Data: full[:1000], Entries: entries(full[:1000], "", full[:1500])})
	refused(t, "3501 bytes of an entry", api.Message{Kind: 3, Entries: entries(full + "x")}, api.ErrLong)
	refused(t, "3501 bytes together", api.Message{Kind: 3, Data: full[:1000], Entries: entries(full[:1001], full[:1500])}, api.ErrLong)
	refused(t, "one byte more in the last entry", api.Message{Kind: 3, Data: full, Entries: entries("", "", "", "x")}, api.ErrLong)
	refused(t, "many entries", api.Message{Kind: 3, Entries: make([]api.Entry, 9999)}, api.ErrLong)
	for _, term := range []int{-1, most + 1, math.MinInt, math.MaxInt} {
		refused(t, "an entry's term", api.Message{Kind: 3, Entries: []api.Entry{{}, {Term: term}}}, api.ErrArg)
	}
	taken(t, "an entry's greatest term", api.Message{Kind: 3, Entries: []api.Entry{{Term: most}}})
}

// P17.1, R2: of several errors the one that is named first.
func TestCheckOrder(t *testing.T) {
	long := strings.Repeat("x", 3501)
	refused(t, "Kind ahead of Data", api.Message{Data: long}, api.ErrArg)
	refused(t, "Leader ahead of entries", api.Message{Kind: 1, Leader: 4, Entries: make([]api.Entry, 5)}, api.ErrArg)
	refused(t, "entries ahead of a term", api.Message{Kind: 1, Entries: make([]api.Entry, 5, 9)}, api.ErrLong)
	refused(t, "Data ahead of a term", api.Message{Kind: 1, Data: long, Entries: []api.Entry{{Term: -1}}}, api.ErrLong)
	refused(t, "too many ahead of a term", api.Message{Kind: 1, Entries: []api.Entry{{Term: -1}, {}, {}, {}, {}}}, api.ErrLong)
	refused(t, "a term ahead of its data", api.Message{Kind: 1, Entries: []api.Entry{{Term: -1, Data: long}}}, api.ErrArg)
	refused(t, "data ahead of the next term", api.Message{Kind: 1, Entries: []api.Entry{{Data: long}, {Term: -1}}}, api.ErrLong)
	refused(t, "a term ahead of the next data", api.Message{Kind: 1, Entries: []api.Entry{{Term: -1}, {Data: long}}}, api.ErrArg)
}

// form: the form, put together by hand.
func form(t *testing.T, m api.Message) string {
	t.Helper()
	text := func(s string) string {
		b, e := wire.Text(s)
		if e != api.OK {
			t.Fatal(e)
		}
		return b
	}
	s := wire.U8(m.Kind)
	for _, n := range []int{m.From, m.To, m.Term, m.Index, m.LogTerm, m.Commit, m.Stamp, m.At, m.Total, m.Talk, m.Token.Term, m.Token.Epoch, m.Seq, m.Client, m.Request} {
		s += wire.U64(uint64(n))
	}
	s += wire.Bool(m.Good) + wire.U8(m.Op) + wire.U32(uint32(m.Err)) + wire.U8(uint8(m.Leader)) + text(m.Data) + wire.U8(uint8(len(m.Entries)))
	for _, x := range m.Entries {
		s += wire.U64(uint64(x.Term)) + text(x.Data)
	}
	return s
}

// P17.2: the form is as the chapter says it.
func TestEncode(t *testing.T) {
	d := dice(17)
	for range 2000 {
		m := d.message()
		if s := encode(t, m); s != form(t, m) {
			t.Fatalf("%+v: % x", m, s)
		}
	}
	for _, x := range numbers() {
		m := api.Message{Kind: 1}
		*x.field(&m) = x.most
		s, zero := encode(t, m), encode(t, api.Message{Kind: 1})
		if s[:x.at] != zero[:x.at] || s[x.at+x.bytes:] != zero[x.at+x.bytes:] || s == zero {
			t.Errorf("%s stands elsewhere", x.name)
		}
	}
}

// P17.3: a fault of the reader is told at its place, wherever the bytes are cut.
func TestDecodeCut(t *testing.T) {
	m := api.Message{Kind: 9, From: 1, To: 3, Data: "abc", Entries: entries("de", "", "f")}
	s := encode(t, m)
	// The places where parts begin: a number that is cut, or a text of which bytes are wanting, fails there.
	var parts []int
	at := 0
	for _, n := range []int{1, 8, 8, 8, 8, 8, 8, 8, 8, 8, 8, 8, 8, 8, 8, 8, 1, 1, 4, 1, 7, 1, 8, 6, 8, 4, 8, 5} {
		parts = append(parts, at)
		at += n
	}
	if at != len(s) {
		t.Fatalf("the form has %d bytes, not %d", len(s), at)
	}
	part := 0
	for n := range len(s) {
		for part+1 < len(parts) && parts[part+1] <= n {
			part++
		}
		faulty(t, "cut", s[:n], api.ErrBytes, parts[part])
	}
	for n := 1; n < 4; n++ {
		faulty(t, "bytes behind", s+strings.Repeat("\x00", n), api.ErrBytes, len(s))
	}
}

// spoilt: bytes with others at a place.
func spoilt(s string, at int, others string) string { return s[:at] + others + s[at+len(others):] }

// P17.3: truths, lengths and numbers that can't be.
func TestDecodeWrong(t *testing.T) {
	m := api.Message{Kind: 9, From: 1, To: 3, Data: "abc", Entries: entries("de", "f")}
	s := encode(t, m)
	const good, err, leader, data, many, first = 121, 123, 127, 128, 135, 136
	for _, b := range []string{"\x02", "\xff"} {
		faulty(t, "Good", spoilt(s, good, b), api.ErrBytes, good)
	}
	faulty(t, "Err 1000", spoilt(s, err, wire.U32(1000)), api.ErrBytes, 0)
	faulty(t, "Err 2^32 - 1", spoilt(s, err, wire.U32(math.MaxUint32)), api.ErrBytes, 0)
	faulty(t, "Leader", spoilt(s, leader, "\x04"), api.ErrBytes, 0)
	faulty(t, "Data of 3501", spoilt(s, data, wire.U32(3501)), api.ErrLong, data)
	faulty(t, "Data of 3500", spoilt(s, data, wire.U32(3500)), api.ErrBytes, data)
	faulty(t, "an entry's data of 3501", spoilt(s, first+8, wire.U32(3501)), api.ErrLong, first+8)
	faulty(t, "an entry's term", spoilt(s, first, wire.U64(most+1)), api.ErrBytes, 0)
	faulty(t, "an entry's negative term", spoilt(s, first, wire.U64(math.MaxUint64)), api.ErrBytes, 0)
	faulty(t, "one entry fewer", spoilt(s, many, "\x01"), api.ErrBytes, first+14)
	faulty(t, "one entry more", spoilt(s, many, "\x03"), api.ErrBytes, len(s))
	faulty(t, "both Good and bytes behind", spoilt(s, good, "\x02")+"x", api.ErrBytes, good)
	faulty(t, "both the kind and bytes behind", spoilt(s, 0, "\x0f")+"x", api.ErrBytes, len(s))
	for _, x := range numbers() {
		over := wire.U64(uint64(x.most) + 1)
		faulty(t, x.name, spoilt(s, x.at, over[8-x.bytes:]), api.ErrBytes, 0)
		if x.bytes == 8 {
			faulty(t, x.name, spoilt(s, x.at, wire.U64(math.MaxUint64)), api.ErrBytes, 0)
			faulty(t, x.name, spoilt(s, x.at, wire.U64(1<<63)), api.ErrBytes, 0)
		}
	}
	for _, kind := range []uint8{0, 15, 255} {
		faulty(t, "a kind", spoilt(s, 0, wire.U8(kind)), api.ErrBytes, 0)
	}
}

// P17.3: of more entries than may be only so many are read as may be.
func TestDecodeManyEntries(t *testing.T) {
	ahead := encode(t, api.Message{Kind: 3})[:132]
	one := wire.U64(1) + wire.U32(0)
	for _, n := range []int{5, 6, 255} {
		faulty(t, "four of them there", ahead+wire.U8(uint8(n))+strings.Repeat(one, 4), api.ErrBytes, 0)
		faulty(t, "all of them there", ahead+wire.U8(uint8(n))+strings.Repeat(one, n), api.ErrBytes, 133+4*12)
		faulty(t, "three of them there", ahead+wire.U8(uint8(n))+strings.Repeat(one, 3), api.ErrBytes, 133+3*12)
	}
	m, spot := message.Decode(ahead + wire.U8(4) + strings.Repeat(one, 4))
	if spot != (api.Spot{}) || len(m.Entries) != 4 {
		t.Errorf("four entries: %v", spot)
	}
	half := strings.Repeat("x", 1751)
	text, e := wire.Text(half)
	if e != api.OK {
		t.Fatal(e)
	}
	faulty(t, "data of 3502 bytes together", ahead+wire.U8(2)+strings.Repeat(wire.U64(1)+text, 2), api.ErrBytes, 0)
}

// P17.3: whatever bytes: what is read is a message that may be, and has just this form.
func TestDecodeAny(t *testing.T) {
	d := dice(3)
	read := 0
	for range 20000 {
		b := []byte(encode(t, d.message()))
		for range d.below(3) {
			b[d.below(len(b))] = byte(d.below(256) >> d.below(8))
		}
		m, spot := message.Decode(string(b))
		if spot.Err != api.OK {
			if !same(m, api.Message{}) || spot.At < 0 || spot.At > len(b) {
				t.Fatalf("%v beside %+v", spot, m)
			}
			continue
		}
		read++
		if message.Check(m) != api.OK || encode(t, m) != string(b) {
			t.Fatalf("% x is read as %+v", b, m)
		}
	}
	if read < 5000 {
		t.Errorf("only %d were read", read)
	}
}

// P17.5: there and back, and no form is the beginning of another one.
func TestThereAndBack(t *testing.T) {
	d := dice(5)
	var l []string
	for range 3000 {
		m := d.message()
		taken(t, "a message", m)
		l = append(l, encode(t, m))
	}
	for _, a := range l[:300] {
		if _, spot := message.Decode(a + l[0]); spot.Err == api.OK {
			t.Fatal("a form with bytes behind it is read")
		}
		if _, spot := message.Decode(a[:d.below(len(a))]); spot.Err == api.OK {
			t.Fatal("a beginning of a form is read")
		}
	}
}

// P17.5: of two messages that differ in one field alone the forms differ.
func TestFormsDiffer(t *testing.T) {
	d := dice(8)
	for range 300 {
		m := d.message()
		others := []func(*api.Message){
			func(m *api.Message) { m.Kind = m.Kind%14 + 1 },
			func(m *api.Message) { m.Good = !m.Good },
			func(m *api.Message) { m.Op++ },
			func(m *api.Message) { m.Err = (m.Err + 1) % 1000 },
			func(m *api.Message) { m.Data += "x" },
		}
		for _, x := range numbers() {
			others = append(others, func(m *api.Message) { *x.field(m) = (*x.field(m) + 1) % (x.most + 1) })
		}
		for i, change := range others {
			other := m
			change(&other)
			if encode(t, m) == encode(t, other) {
				t.Fatalf("the change %d makes no difference to %+v", i, m)
			}
		}
	}
}

// P17.4, P17.6: an order by Term, of one Term by Epoch.
func TestAbove(t *testing.T) {
	numbers := []int{math.MinInt, -1, 0, 1, 2, math.MaxInt}
	var l []api.Fence // rising
	for _, term := range numbers {
		for _, epoch := range numbers {
			l = append(l, api.Fence{Term: term, Epoch: epoch})
		}
	}
	for i, a := range l {
		for j, b := range l {
			if message.Above(a, b) != (i > j) {
				t.Errorf("Above(%v, %v) is %v", a, b, i <= j)
			}
		}
	}
}

// R3: what is handed in is neither changed nor kept.
func TestNothingKept(t *testing.T) {
	room := make([]api.Entry, 2, 9)
	room[0], room[1] = api.Entry{Term: 1, Data: "a"}, api.Entry{Term: 2, Data: "b"}
	behind := room[:9]
	behind[2] = api.Entry{Term: 7, Data: "behind"}
	m := api.Message{Kind: 3, Entries: room}
	s := encode(t, m)
	if room[0].Data != "a" || room[1].Term != 2 || behind[2].Data != "behind" {
		t.Error("the entries have changed")
	}
	x, _ := message.Decode(s)
	y, _ := message.Decode(s)
	x.Entries[0].Data = "z"
	if y.Entries[0].Data != "a" {
		t.Error("two answers share memory")
	}
}
