package table_test

import (
	"strings"
	"testing"

	"dragoman/api"
	"dragoman/table"
	"dragoman/wire"
)

// shape is a table as its form has it, to be spoilt.
type shape struct {
	talks []part
	last  [8][5]int
	many  int // added to how many talks there are said to be
	more  string
}

type part struct {
	numbers  [9]int // Client, Acked, Got, Node, Sends, Turn, Code, counters, happenings
	state    int
	ended    int
	text     string
	buffer   string
	counters []int
	happened []api.Happen
}

// good: a talk that runs, with two sends of which one was taken.
func good() part {
	return part{
		numbers: [9]int{5, 1, 9, 3, 2, 1, 0, 1, 3}, state: 1,
		text: lines(`a:/send "x"/set n 3/send "y"/expect {/"ok" goto a/timeout 9 goto b/}/b:/exit 4`), buffer: "no", counters: []int{3},
		happened: []api.Happen{sent("x", 1), sent("y", 2), {Kind: api.HapMatch, Text: "12345ok", N: 0}},
	}
}

func (s shape) form() string {
	var b strings.Builder
	number := func(l ...int) {
		for _, n := range l {
			b.WriteString(wire.U64(uint64(n)))
		}
	}
	text := func(s string) { b.WriteString(wire.U32(uint32(len(s))) + s) }
	b.WriteByte(byte(len(s.talks) + s.many))
	for _, x := range s.talks {
		number(x.numbers[:]...)
		b.WriteByte(byte(x.state))
		b.WriteByte(byte(x.ended))
		text(x.text)
		text(x.buffer)
		number(x.counters...)
		for _, h := range x.happened {
			number(h.Kind, h.N)
			text(h.Text)
		}
	}
	for _, r := range s.last {
		number(r[:]...)
	}
	return b.String() + s.more
}

// loads: it is the form of a table that may be.
func loads(t *testing.T, what string, s shape) *table.Table {
	t.Helper()
	x, e := table.Load(s.form())
	if e != api.OK {
		t.Fatalf("%s: Load: %d", what, e)
	}
	if x.Save() != s.form() {
		t.Errorf("%s: Save of Load is another one", what)
	}
	return x
}

func loadsNot(t *testing.T, what, s string) {
	t.Helper()
	if x, e := table.Load(s); x != nil || e != api.ErrBytes {
		t.Errorf("%s: Load: %v, %d", what, x, e)
	}
}

// P24.7: the form, part by part.
func TestForm(t *testing.T) {
	if got, want := table.New().Save(), (shape{}).form(); got != want {
		t.Errorf("Save of a new one: %q", got)
	}
	x := table.New()
	asks(t, x, submit(5, 4, good().text), api.Result{Talk: 1})
	tells(t, x, output(1, 0, "12345"))
	tells(t, x, ack(1, 1))
	asks(t, x, cancel(2, 8, 7), api.Result{Err: api.ErrNone})
	asks(t, x, submit(0, 1, lines("a:/exit 4")), api.Result{Talk: 2})
	asks(t, x, submit(7, 3, "?"), api.Result{Err: api.ErrText})
	want := shape{talks: []part{
		{numbers: [9]int{5, 1, 5, 3, 2, 0, 0, 1, 2}, state: 1, text: good().text, buffer: "12345", counters: []int{3}, happened: []api.Happen{sent("x", 1), sent("y", 2)}},
		{numbers: [9]int{0, 0, 0, 0, 0, 0, 4, 0, 1}, state: 2, ended: 1, text: lines("a:/exit 4"), happened: []api.Happen{{Kind: api.HapExit, N: 4}}},
	}}
	want.last[5] = [5]int{4, 1, 0, 1, 0}
	want.last[2] = [5]int{8, 2, 4, 0, 0}
	want.last[0] = [5]int{1, 1, 0, 2, 0}
	want.last[7] = [5]int{3, 1, 6, 0, 0}
	if x.Save() != want.form() {
		t.Errorf("Save: %q, want %q", x.Save(), want.form())
	}
	y := loads(t, "that form", want)
	for client := range 8 {
		if y.Last(client) != x.Last(client) {
			t.Errorf("Last(%d): %+v, want %+v", client, y.Last(client), x.Last(client))
		}
	}
}

// P24.7: whatever is cut off, or stands behind, is no form.
func TestFormCut(t *testing.T) {
	s := shape{talks: []part{good(), good()}}
	loads(t, "two talks", s)
	for n := range len(s.form()) {
		loadsNot(t, "a beginning", s.form()[:n])
	}
	s.more = "\x00"
	loadsNot(t, "a byte more", s.form())
	for _, many := range []int{-1, 1, 253} {
		loadsNot(t, "another number of talks", shape{talks: []part{good(), good()}, many: many}.form())
	}
	l := make([]part, 8)
	for i := range l {
		l[i] = good()
	}
	if x := loads(t, "eight talks", shape{talks: l}); x.Len() != 8 {
		t.Errorf("%d talks", x.Len())
	}
	loadsNot(t, "nine talks", shape{talks: append(l, good())}.form())
}

// most is the greatest number of a table.
const most = 1<<50 - 1

// P24.7: each number of a talk at its limits, and one past them.
func TestFormTalk(t *testing.T) {
	may := func(what string, may bool, change func(*part)) {
		t.Helper()
		x := good()
		change(&x)
		s := shape{talks: []part{good(), x}}
		if may {
			loads(t, what, s)
		} else {
			loadsNot(t, what, s.form())
		}
	}
	for i := range 7 {
		may("a number past the greatest one", false, func(x *part) { x.numbers[i], x.state = most+1, 4 })
		may("a number below 0", false, func(x *part) { x.numbers[i], x.state = -1, 4 })
		may("the greatest number of one that is stopped", i > 1, func(x *part) { x.numbers[i], x.state = most, 4 })
	}
	may("client 7", true, func(x *part) { x.numbers[0] = 7 })
	may("client 8", false, func(x *part) { x.numbers[0] = 8 })
	may("two of two taken", true, func(x *part) { x.numbers[1] = 2 })
	may("three of two taken", false, func(x *part) { x.numbers[1] = 3 })
	may("two of one taken", false, func(x *part) { x.numbers[1] = 2; x.happened[0].Kind = 3 })
	for state := range 256 {
		may("a state", state >= 1 && state <= 4, func(x *part) { x.state = state })
	}
	may("a truth 2", false, func(x *part) { x.ended, x.state = 2, 4 })
	may("an end at an expect", false, func(x *part) { x.ended = 1 })
	may("an end at an expect, stopped", true, func(x *part) { x.ended, x.state = 1, 4 })
	may("ended", true, func(x *part) { x.ended, x.state, x.numbers[3], x.numbers[6] = 1, 2, 4, 4 })
	may("ended, and runs", true, func(x *part) { x.ended, x.state, x.numbers[3], x.numbers[6] = 1, 1, 4, 4 })
	may("ended with another code", false, func(x *part) { x.ended, x.state, x.numbers[3], x.numbers[6] = 1, 3, 4, 5 })
	may("a text of no dialogue", false, func(x *part) { x.text = "a:"; x.state = 4 })
	may("a long text", false, func(x *part) { x.text = strings.Repeat(" ", 2049); x.state = 4 })
	may("a match in the buffer", false, func(x *part) { x.buffer = "ok" })
	may("a match in the buffer, stopped", true, func(x *part) { x.buffer, x.state = "ok", 4 })
	may("a buffer of 256", true, func(x *part) { x.buffer = strings.Repeat("x", 256) })
	may("a buffer of 257", false, func(x *part) { x.buffer, x.state = strings.Repeat("x", 257), 4 })
	may("a counter's greatest number", true, func(x *part) { x.counters[0] = 255 })
	may("a counter past it", false, func(x *part) { x.counters[0] = 256 })
	may("a counter past it, stopped", true, func(x *part) { x.counters[0], x.state = most, 4 })
	may("a counter past all, stopped", false, func(x *part) { x.counters[0], x.state = most+1, 4 })
	may("a counter too many", false, func(x *part) { x.counters, x.numbers[7] = []int{1, 2}, 2 })
	may("eight counters, stopped", true, func(x *part) { x.counters, x.numbers[7], x.state = make([]int, 8), 8, 4 })
	may("nine counters, stopped", false, func(x *part) { x.counters, x.numbers[7], x.state = make([]int, 9), 9, 4 })
	may("no counters, stopped", true, func(x *part) { x.counters, x.numbers[7], x.state = nil, 0, 4 })
	may("an untold counter", false, func(x *part) { x.numbers[7] = 0 })
}

// P24.7: happenings at their limits, and one past them.
func TestFormHappenings(t *testing.T) {
	with := func(l ...api.Happen) shape {
		x := good()
		x.happened, x.numbers[8], x.numbers[1] = l, len(l), 0
		return shape{talks: []part{x}}
	}
	loads(t, "64", with(make([]api.Happen, 64)...))
	loadsNot(t, "65", with(make([]api.Happen, 65)...).form())
	loads(t, "greatest", with(api.Happen{Kind: most, N: most, Text: strings.Repeat("t", 4096)}))
	loadsNot(t, "a long text", with(api.Happen{Text: strings.Repeat("t", 4097)}).form())
	for _, h := range []api.Happen{{Kind: most + 1}, {N: most + 1}, {Kind: -1}, {N: -1}} {
		loadsNot(t, "a number", with(h).form())
	}
	s := with(sent("u", 7), api.Happen{Kind: 9, Text: "v"}, sent("w", 2))
	s.talks[0].numbers[1] = 2
	x := loads(t, "sends among others", s)
	if y := talkOf(t, x, 1); !sameList(y.Sends, []string{"u", "w"}) {
		t.Errorf("Sends: %q", y.Sends)
	}
	many := with()
	many.talks[0].numbers[8] = 1 << 40
	loadsNot(t, "a great number of them", many.form())
}

// P24.7: last results at their limits, and one past them.
func TestFormResults(t *testing.T) {
	for client := range 8 {
		for i := range 5 {
			limit := most
			if i == 1 {
				limit = 255
			}
			for _, n := range []int{0, 1, limit} {
				s := shape{}
				s.last[client] = [5]int{1, 1, 1, 1, 1}
				s.last[client][i] = n
				x := loads(t, "a result", s)
				l := s.last[client]
				want := api.Result{Client: client, Request: l[0], Op: uint8(l[1]), Err: api.Errno(l[2]), Talk: l[3], At: l[4]}
				if l[0] == 0 {
					want.Client = 0
				}
				if got := x.Last(client); got != want {
					t.Errorf("Last(%d): %+v, want %+v", client, got, want)
				}
			}
			for _, n := range []int{limit + 1, -1, -1 << 63} {
				s := shape{}
				s.last[client][i] = n
				loadsNot(t, "a result past a limit", s.form())
			}
		}
	}
}
