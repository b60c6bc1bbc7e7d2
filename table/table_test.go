package table_test

import (
	"math"
	"reflect"
	"strings"
	"testing"

	"dragoman/api"
	"dragoman/compile"
	"dragoman/run"
	"dragoman/table"
)

// lines: a text of lines with / for the byte 10.
func lines(s string) string { return strings.ReplaceAll(s, "/", "\n") }

// dialogue is that of the chapter's examples.
var dialogue = lines(`a:/send "x"/expect {/"ok" goto b/timeout 5 goto b/}/b:/exit 7`)

func form(t *testing.T, c api.Command) string {
	t.Helper()
	s, e := table.Encode(c)
	if e != api.OK {
		t.Fatalf("Encode(%+v): %d", c, e)
	}
	return s
}

func submit(client, request int, text string) api.Command {
	return api.Command{Op: api.OpSubmit, Client: client, Request: request, Data: text}
}

func cancel(client, request, talk int) api.Command {
	return api.Command{Op: api.OpCancel, Client: client, Request: request, Talk: talk}
}

func ack(talk, at int) api.Command { return api.Command{Op: api.OpAck, Talk: talk, At: at} }

func output(talk, at int, s string) api.Command {
	return api.Command{Op: api.OpOutput, Talk: talk, At: at, Data: s}
}

func timeout(talk, turn int) api.Command {
	return api.Command{Op: api.OpTimeout, Talk: talk, At: turn}
}

// asks: a client's command is answered so, and that is its last result.
func asks(t *testing.T, x *table.Table, c api.Command, want api.Result) {
	t.Helper()
	want.Client, want.Request, want.Op = c.Client, c.Request, c.Op
	answers(t, x, c, want)
	if got := x.Last(c.Client); got != want {
		t.Errorf("Last: %+v, want %+v", got, want)
	}
}

// answers: a client's command is answered so.
func answers(t *testing.T, x *table.Table, c api.Command, want api.Result) {
	t.Helper()
	if got, ok := x.Apply(form(t, c)); got != want || !ok {
		t.Errorf("Apply(%+v): %+v, %v; want %+v", c, got, ok, want)
	}
}

// tells: a command that no client asks.
func tells(t *testing.T, x *table.Table, c api.Command) {
	t.Helper()
	if got, ok := x.Apply(form(t, c)); got != (api.Result{}) || ok {
		t.Errorf("Apply(%+v): %+v, %v", c, got, ok)
	}
}

// idle: bytes by which nothing changes, and that nobody is answered.
func idle(t *testing.T, x *table.Table, s string) {
	t.Helper()
	was := x.Save()
	if got, ok := x.Apply(s); got != (api.Result{}) || ok || x.Save() != was {
		t.Errorf("Apply(%q): %+v, %v, a change: %v", s, got, ok, x.Save() != was)
	}
}

func stands(t *testing.T, x *table.Table, id int, want api.Status) {
	t.Helper()
	if got, e := x.Status(id); got != want || e != api.OK {
		t.Errorf("Status(%d): %+v, %d; want %+v", id, got, e, want)
	}
}

func talkOf(t *testing.T, x *table.Table, id int) api.Talk {
	t.Helper()
	y, e := x.Talk(id)
	if e != api.OK {
		t.Fatalf("Talk(%d): %d", id, e)
	}
	return y
}

// sameList: nil and empty lists are one.
func sameList[T comparable](a, b []T) bool {
	return len(a) == len(b) && (len(a) == 0 || reflect.DeepEqual(a, b))
}

func watches(t *testing.T, x *table.Table, id, from, most int, want ...api.Happen) {
	t.Helper()
	if got, e := x.Watch(id, from, most); !sameList(got, want) || e != api.OK {
		t.Errorf("Watch(%d, %d, %d): %v, %d; want %v", id, from, most, got, e, want)
	}
}

func sent(s string, n int) api.Happen { return api.Happen{Kind: api.HapSend, Text: s, N: n} }

// The chapter's examples.
func TestExamples(t *testing.T) {
	x := table.New()
	asks(t, x, submit(1, 1, dialogue), api.Result{Talk: 1})
	asks(t, x, submit(1, 1, dialogue), api.Result{Talk: 1})
	_, fault := compile.Of("q")
	asks(t, x, submit(1, 2, "q"), api.Result{Err: fault.Err, At: fault.At})
	stands(t, x, 1, api.Status{State: api.TalkRuns, Sends: 1, History: 1})
	watches(t, x, 1, 0, 9, sent("x", 1))
	tells(t, x, ack(1, 1))
	tells(t, x, output(1, 0, "nook"))
	stands(t, x, 1, api.Status{State: api.TalkEnded, Sends: 1, Acked: 1, Got: 4, Turn: 1, History: 3, Code: 7})
	asks(t, x, cancel(1, 3, 1), api.Result{Talk: 1, Err: api.ErrState})
	answers(t, x, cancel(1, 2, 1), api.Result{Client: 1, Request: 2, Op: api.OpCancel, Err: api.ErrOld})
	asks(t, x, cancel(0, 1, 2), api.Result{Err: api.ErrNone})
	y, e := table.Load(x.Save())
	if e != api.OK {
		t.Fatalf("Load: %d", e)
	}
	stands(t, y, 1, api.Status{State: api.TalkEnded, Sends: 1, Acked: 1, Got: 4, Turn: 1, History: 3, Code: 7})
}

// R4: of nil.
func TestNil(t *testing.T) {
	var x *table.Table
	if n := x.Len(); n != 0 {
		t.Errorf("Len %d", n)
	}
	if y, e := x.Talk(1); !reflect.DeepEqual(y, api.Talk{}) || e != api.ErrNil {
		t.Errorf("Talk: %+v, %d", y, e)
	}
	if y, e := x.Auto(1); !reflect.DeepEqual(y, api.Auto{}) || e != api.ErrNil {
		t.Errorf("Auto: %+v, %d", y, e)
	}
	if y, e := x.Status(1); y != (api.Status{}) || e != api.ErrNil {
		t.Errorf("Status: %+v, %d", y, e)
	}
	if y, e := x.Watch(1, -1, -1); len(y) != 0 || e != api.ErrNil {
		t.Errorf("Watch: %+v, %d", y, e)
	}
	if y := x.Last(1); y != (api.Result{}) {
		t.Errorf("Last: %+v", y)
	}
	if y, ok := x.Apply(form(t, submit(0, 1, dialogue))); y != (api.Result{}) || ok {
		t.Errorf("Apply: %+v, %v", y, ok)
	}
	if x.Save() != "" || x.Copy() != nil {
		t.Errorf("Save %q, Copy %v", x.Save(), x.Copy())
	}
}

// P24.1, P24.3, P24.4, P24.5: a new table, and what is not there.
func TestNone(t *testing.T) {
	x := table.New()
	if x == nil || x.Len() != 0 {
		t.Fatalf("New: %v, %d talks", x, x.Len())
	}
	for many := range 3 {
		if x.Len() != many {
			t.Errorf("%d talks, not %d", x.Len(), many)
		}
		for _, id := range []int{0, -1, many + 1, math.MaxInt, math.MinInt} {
			if y, e := x.Talk(id); !reflect.DeepEqual(y, api.Talk{}) || e != api.ErrNone {
				t.Errorf("Talk(%d): %+v, %d", id, y, e)
			}
			if y, e := x.Auto(id); !reflect.DeepEqual(y, api.Auto{}) || e != api.ErrNone {
				t.Errorf("Auto(%d): %+v, %d", id, y, e)
			}
			if y, e := x.Status(id); y != (api.Status{}) || e != api.ErrNone {
				t.Errorf("Status(%d): %+v, %d", id, y, e)
			}
			if y, e := x.Watch(id, -1, -1); len(y) != 0 || e != api.ErrNone {
				t.Errorf("Watch(%d): %+v, %d", id, y, e)
			}
		}
		asks(t, x, submit(many, 5, dialogue), api.Result{Talk: many + 1})
	}
	for _, client := range []int{2 + 1, 7, 8, -1, math.MaxInt, math.MinInt} {
		if y := x.Last(client); y != (api.Result{}) {
			t.Errorf("Last(%d): %+v", client, y)
		}
	}
}

// P24.2: a command's form, and each number at its limits, and one past them.
func TestCommands(t *testing.T) {
	c := api.Command{Op: api.OpSubmit, Client: 7, Request: 258, Talk: 3, At: 1, Data: "ab\x00"}
	want := "\x01\x00\x00\x00\x00\x00\x00\x00\x07\x00\x00\x00\x00\x00\x00\x01\x02\x00\x00\x00\x00\x00\x00\x00\x03\x00\x00\x00\x00\x00\x00\x00\x01ab\x00"
	if got := form(t, c); got != want {
		t.Errorf("Encode: %q", got)
	}
	fields := []func(*api.Command) *int{
		func(c *api.Command) *int { return &c.Client },
		func(c *api.Command) *int { return &c.Request },
		func(c *api.Command) *int { return &c.Talk },
		func(c *api.Command) *int { return &c.At },
	}
	for op := range 256 {
		c := api.Command{Op: uint8(op), Client: 7, Request: 1}
		if op < 1 || op > 5 {
			refuses(t, c, api.ErrArg)
			continue
		}
		back(t, c)
		for i, field := range fields {
			most := 1 << 49
			if i == 0 {
				most = 7
			}
			least := 0
			if i == 1 && op <= 2 {
				least = 1
			}
			d := c
			for _, n := range []int{least, most} {
				*field(&d) = n
				back(t, d)
			}
			for _, n := range []int{least - 1, most + 1, math.MaxInt, math.MinInt} {
				*field(&d) = n
				refuses(t, d, api.ErrArg)
				d.Data = strings.Repeat("x", 3001)
				refuses(t, d, api.ErrArg)
				d.Data = ""
			}
		}
		most := 3000
		if op == 4 {
			most = 64
		}
		c.Data = strings.Repeat("y", most)
		back(t, c)
		c.Data += "y"
		refuses(t, c, api.ErrLong)
	}
}

// back: a command that may be, there and back.
func back(t *testing.T, c api.Command) {
	t.Helper()
	if e := table.Check(c); e != api.OK {
		t.Errorf("Check(%+v): %d", c, e)
	}
	s := form(t, c)
	if len(s) != 33+len(c.Data) {
		t.Errorf("%d bytes", len(s))
	}
	if got, e := table.Decode(s); got != c || e != api.OK {
		t.Errorf("Decode: %+v, %d; want %+v", got, e, c)
	}
}

func refuses(t *testing.T, c api.Command, want api.Errno) {
	t.Helper()
	if e := table.Check(c); e != want {
		t.Errorf("Check(%+v): %d, want %d", c, e, want)
	}
	if s, e := table.Encode(c); s != "" || e != want {
		t.Errorf("Encode(%+v): %q, %d; want %d", c, s, e, want)
	}
}

// wrongForms: of a command that may be, bytes that are no command's form.
func wrongForms(s string) []string {
	l := []string{"", s[:32], s[:1], "\x00" + s[1:], "\x06" + s[1:], "\xff" + s[1:]}
	for i := 1; i < 33; i += 8 {
		l = append(l, s[:i]+"\x80"+s[i+1:], s[:i]+strings.Repeat("\xff", 8)+s[i+8:])
	}
	l = append(l, s[:1]+"\x00\x00\x00\x00\x00\x00\x00\x08"+s[9:], s[:17]+"\x00\x02\x00\x00\x00\x00\x00\x01"+s[25:], s[:25]+"\x00\x02\x00\x00\x00\x00\x00\x01"+s[33:])
	if s[0] <= 2 {
		return append(l, s[:9]+strings.Repeat("\x00", 8)+s[17:], s+strings.Repeat("x", 3001))
	}
	return l
}

// P24.2, P24.6: bytes that are no command's form are refused, and change nothing.
func TestDecodeWrong(t *testing.T) {
	x := table.New()
	asks(t, x, submit(0, 1, dialogue), api.Result{Talk: 1})
	long := form(t, output(1, 0, strings.Repeat("x", 64))) + "x"
	l := append(wrongForms(form(t, submit(1, 1, dialogue))), long)
	l = append(append(l, wrongForms(form(t, output(1, 0, "ok")))...), wrongForms(form(t, cancel(1, 1, 1)))...)
	for _, s := range l {
		if c, e := table.Decode(s); c != (api.Command{}) || e != api.ErrBytes {
			t.Errorf("Decode(%q): %+v, %d", s, c, e)
		}
		idle(t, x, s)
	}
}

// P24.3: the talk as it is told, and its automaton.
func TestTalk(t *testing.T) {
	x := table.New()
	text := lines(`a:/inc n/send "x"/send "y"/expect {/"ok" goto b/}/b:/inc m/expect {/"z" goto a/}`)
	asks(t, x, submit(3, 9, text), api.Result{Talk: 1})
	tells(t, x, output(1, 0, "an ok!"))
	tells(t, x, ack(1, 1))
	want := api.Talk{Id: 1, Client: 3, Text: text, State: api.TalkRuns, Sends: []string{"x", "y"}, Acked: 1, Got: 6,
		Config:  api.Config{Node: 5, Counts: []int{1, 1}, Buffer: "!", Sends: 2, Turn: 1},
		History: []api.Happen{sent("x", 1), sent("y", 2), {Kind: api.HapMatch, Text: "an ok"}}}
	if got := talkOf(t, x, 1); !reflect.DeepEqual(got, want) {
		t.Errorf("Talk: %+v, want %+v", got, want)
	}
	a, fault := compile.Of(text)
	if got, e := x.Auto(1); !reflect.DeepEqual(got, a) || e != api.OK || fault.Err != api.OK {
		t.Errorf("Auto: %+v, %d; want %+v", got, e, a)
	}
}

// P24.4: from each place, so many.
func TestWatch(t *testing.T) {
	x := table.New()
	asks(t, x, submit(0, 1, lines(`a:/send "1"/send "2"/send "3"/expect {/timeout 1 goto a/}`)), api.Result{Talk: 1})
	all := []api.Happen{sent("1", 1), sent("2", 2), sent("3", 3)}
	for from := range 4 {
		for most := range 5 {
			watches(t, x, 1, from, most, all[from:min(from+most, 3)]...)
		}
		watches(t, x, 1, from, math.MaxInt, all[from:]...)
	}
	for _, w := range [][2]int{{-1, 1}, {4, 1}, {4, 0}, {0, -1}, {math.MinInt, 1}, {math.MaxInt, 1}, {0, math.MinInt}} {
		if l, e := x.Watch(1, w[0], w[1]); len(l) != 0 || e != api.ErrRange {
			t.Errorf("Watch(1, %d, %d): %v, %d", w[0], w[1], l, e)
		}
	}
}

// P24.6: submits are refused with compile's error at its place, and then when there is no room; the error goes ahead.
func TestSubmit(t *testing.T) {
	x := table.New()
	wrong := []string{"", "q", lines("a:/goto b"), lines("a:/exit 0/b:/goto b"), lines("a:/exit"), strings.Repeat(" ", 2049), strings.Repeat(" ", 3000)}
	for many := range 10 {
		for i, text := range wrong {
			_, fault := compile.Of(text)
			if fault.Err == api.OK {
				t.Errorf("%q is right", text)
			}
			asks(t, x, submit(1, many*10+i+1, text), api.Result{Err: fault.Err, At: fault.At})
		}
		if many < 8 {
			asks(t, x, submit(0, many+1, dialogue), api.Result{Talk: many + 1})
			continue
		}
		asks(t, x, submit(0, many+1, dialogue), api.Result{Err: api.ErrFull})
		if x.Len() != 8 {
			t.Errorf("%d talks", x.Len())
		}
	}
}

// P24.6, P24.9: the same request is answered once more, whatever it asks then; one below it is told to be old.
func TestRequests(t *testing.T) {
	x := table.New()
	asks(t, x, submit(2, 7, dialogue), api.Result{Talk: 1})
	was := x.Save()
	first := api.Result{Client: 2, Request: 7, Op: api.OpSubmit, Talk: 1}
	for _, c := range []api.Command{submit(2, 7, dialogue), submit(2, 7, "q"), cancel(2, 7, 1), cancel(2, 7, 9)} {
		answers(t, x, c, first)
	}
	for _, c := range []api.Command{submit(2, 6, dialogue), submit(2, 1, "q"), cancel(2, 6, 1)} {
		answers(t, x, c, api.Result{Client: 2, Request: c.Request, Op: c.Op, Err: api.ErrOld})
	}
	if x.Save() != was {
		t.Error("something has changed")
	}
	asks(t, x, cancel(2, 8, 9), api.Result{Err: api.ErrNone})
	asks(t, x, submit(3, 1, dialogue), api.Result{Talk: 2})
	asks(t, x, cancel(2, 1<<49, 1), api.Result{Talk: 1})
	answers(t, x, cancel(2, 1<<49-1, 2), api.Result{Client: 2, Request: 1<<49 - 1, Op: api.OpCancel, Err: api.ErrOld})
	if y := x.Last(3); y != (api.Result{Client: 3, Request: 1, Op: api.OpSubmit, Talk: 2}) {
		t.Errorf("Last(3): %+v", y)
	}
}

// P24.6, P24.10: a talk is cancelled just once, and just while it goes on; nothing happens in it then.
func TestCancel(t *testing.T) {
	x := table.New()
	asks(t, x, submit(0, 1, dialogue), api.Result{Talk: 1})
	for _, id := range []int{0, 2, 1 << 49} {
		asks(t, x, cancel(0, 2+id%7, id), api.Result{Err: api.ErrNone})
	}
	asks(t, x, cancel(1, 1, 1), api.Result{Talk: 1})
	stands(t, x, 1, api.Status{State: api.TalkCancelled, Sends: 1, History: 1})
	idle(t, x, form(t, output(1, 0, "ok")))
	idle(t, x, form(t, timeout(1, 0)))
	asks(t, x, cancel(1, 2, 1), api.Result{Talk: 1, Err: api.ErrState})
	tells(t, x, ack(1, 1))
	stands(t, x, 1, api.Status{State: api.TalkCancelled, Sends: 1, Acked: 1, History: 1})
}

// P24.6: sends are taken up to where they were meant, and stay so.
func TestAck(t *testing.T) {
	x := table.New()
	asks(t, x, submit(0, 1, lines(`a:/send "1"/send "2"/send "3"/exit 0`)), api.Result{Talk: 1})
	for _, at := range []int{0, 4, 1 << 49} {
		idle(t, x, form(t, ack(1, at)))
	}
	for _, c := range [][2]int{{2, 2}, {1, 2}, {0, 2}, {4, 2}, {3, 3}, {2, 3}} {
		tells(t, x, ack(1, c[0]))
		stands(t, x, 1, api.Status{State: api.TalkEnded, Sends: 3, Acked: c[1], History: 4})
	}
	idle(t, x, form(t, ack(2, 0)))
	idle(t, x, form(t, ack(0, 0)))
}

// P24.6: of output only what is new is fed; all, if some is wanting.
func TestOutput(t *testing.T) {
	x := table.New()
	asks(t, x, submit(0, 1, lines(`a:/expect {/"ok" goto b/}/b:/exit 7`)), api.Result{Talk: 1})
	holds := func(got int, buffer string) {
		t.Helper()
		if y := talkOf(t, x, 1); y.Got != got || y.Config.Buffer != buffer {
			t.Errorf("got %d, %q; want %d, %q", y.Got, y.Config.Buffer, got, buffer)
		}
	}
	tells(t, x, output(1, 0, "abc"))
	holds(3, "abc")
	for _, c := range []api.Command{output(1, 0, "abc"), output(1, 0, ""), output(1, 3, ""), output(1, 2, "c"), output(1, 1, "x"), output(2, 0, "abcd"), output(0, 0, "abcd")} {
		idle(t, x, form(t, c))
	}
	tells(t, x, output(1, 1, "BCd"))
	holds(4, "abcd")
	tells(t, x, output(1, 4, "e"))
	holds(5, "abcde")
	tells(t, x, output(1, 9, "j"))
	holds(10, "abcdej")
	tells(t, x, output(1, 12, ""))
	holds(12, "abcdej")
	tells(t, x, output(1, 1<<49, strings.Repeat("z", 64)))
	holds(1<<49+64, "abcdej"+strings.Repeat("z", 64))
	idle(t, x, form(t, output(1, 12, "ok")))

	x = table.New()
	asks(t, x, submit(0, 1, dialogue), api.Result{Talk: 1})
	tells(t, x, output(1, 0, "look!"))
	stands(t, x, 1, api.Status{State: api.TalkEnded, Sends: 1, Got: 5, Turn: 1, History: 3, Code: 7})
	idle(t, x, form(t, output(1, 5, "more")))
}

// P24.6: a timeout is of its turn alone.
func TestTimeout(t *testing.T) {
	x := table.New()
	asks(t, x, submit(0, 1, lines(`a:/expect {/"y" goto b/timeout 5 goto a/}/b:/expect {/"z" goto c/}/c:/exit 1`)), api.Result{Talk: 1})
	for turn := range 3 {
		for _, other := range []int{turn - 1, turn + 1, 1 << 49} {
			if other >= 0 {
				idle(t, x, form(t, timeout(1, other)))
			}
		}
		tells(t, x, timeout(1, turn))
		stands(t, x, 1, api.Status{State: api.TalkRuns, Turn: turn + 1, History: turn + 1})
	}
	idle(t, x, form(t, timeout(2, 3)))
	tells(t, x, output(1, 0, "y"))
	idle(t, x, form(t, timeout(1, 4))) // its expect has no timeout
	tells(t, x, output(1, 1, "z"))
	stands(t, x, 1, api.Status{State: api.TalkEnded, Got: 2, Turn: 5, History: 6, Code: 1})
	idle(t, x, form(t, timeout(1, 5)))
}

// P24.6: a talk of which no more is kept is stopped; just MaxHistory happenings are kept, and no end behind them is seen.
func TestStopped(t *testing.T) {
	for sends := 62; sends <= 66; sends++ {
		x := table.New()
		asks(t, x, submit(0, 1, lines("a:/"+strings.Repeat(`send "s"/`, sends)+"exit 3")), api.Result{Talk: 1})
		want := api.Status{State: api.TalkEnded, Sends: sends, History: sends + 1, Code: 3}
		if sends >= 64 {
			want = api.Status{State: api.TalkStopped, Sends: 64, History: 64, Code: 3}
		}
		stands(t, x, 1, want)
		y := talkOf(t, x, 1)
		if y.Config.Sends != sends || !y.Config.Ended {
			t.Errorf("the configuration %+v", y.Config)
		}
		asks(t, x, cancel(0, 2, 1), api.Result{Talk: 1, Err: api.ErrState})
		back, e := table.Load(x.Save())
		if e != api.OK || back.Save() != x.Save() {
			t.Errorf("Load: %d", e)
		}
	}
	x := table.New()
	asks(t, x, submit(0, 1, lines(`a:/send "s"/expect {/timeout 1 goto a/}`)), api.Result{Talk: 1})
	for turn := range 40 {
		tells(t, x, timeout(1, turn))
	}
	// The 65th happening is that of the 32nd timeout's send: the timeouts 0 to 30 came with theirs, of the next one only itself.
	stands(t, x, 1, api.Status{State: api.TalkStopped, Sends: 32, Turn: 32, History: 64})
	idle(t, x, form(t, timeout(1, 32)))
	idle(t, x, form(t, output(1, 0, "x")))
	tells(t, x, ack(1, 32))
	idle(t, x, form(t, ack(1, 33)))
}

// R3: what is answered is new memory.
func TestNew(t *testing.T) {
	x := table.New()
	asks(t, x, submit(0, 1, lines(`a:/inc n/send "s"/expect {/"x" goto a/timeout 1 goto a/}`)), api.Result{Talk: 1})
	was := x.Save()
	y := talkOf(t, x, 1)
	y.Config.Counts[0], y.Sends[0], y.History[0] = 9, "t", api.Happen{}
	_ = append(y.Sends[:0], "u", "v")
	l, _ := x.Watch(1, 0, 1)
	l[0] = api.Happen{}
	a, _ := x.Auto(1)
	a.Nodes[2].Arms[0].To = 9
	a.Nodes[0] = api.AutoNode{}
	if b, _ := x.Auto(1); x.Save() != was || !reflect.DeepEqual(b.Nodes[2].Arms, []api.AutoArm{{Pattern: api.Pattern{Kind: 1, Text: "x"}}}) || b.Nodes[0].Op != api.LineInc {
		t.Error("what was answered is not its own")
	}
	tells(t, x, output(1, 0, "x"))
	if z := talkOf(t, x, 1); !reflect.DeepEqual(z.Sends, []string{"s", "s"}) || z.Config.Counts[0] != 2 {
		t.Errorf("%+v", z)
	}
	if e := run.Check(a, y.Config); e == api.OK {
		t.Error("nothing was changed here")
	}
}

// P24.8: a copy goes on by itself.
func TestCopy(t *testing.T) {
	x := table.New()
	asks(t, x, submit(0, 1, lines(`a:/inc n/send "s"/expect {/"x" goto a/}`)), api.Result{Talk: 1})
	y := x.Copy()
	was := y.Save()
	if was != x.Save() {
		t.Error("a copy is another one")
	}
	tells(t, x, output(1, 0, "xx"))
	asks(t, x, submit(4, 1, dialogue), api.Result{Talk: 2})
	if y.Save() != was {
		t.Error("a copy has changed with its origin")
	}
	changed := x.Save()
	tells(t, y, output(1, 0, "x--"))
	asks(t, y, cancel(0, 2, 1), api.Result{Talk: 1})
	if x.Save() != changed {
		t.Error("an origin has changed with its copy")
	}
}
