package console_test

import (
	"math"
	"reflect"
	"slices"
	"strconv"
	"strings"
	"testing"

	"dragoman/api"
	"dragoman/cluster"
	"dragoman/console"
	"dragoman/pattern"
)

// line: an act has this line, and the line tells the act.
func line(t *testing.T, a api.Act, want string) {
	t.Helper()
	if got, e := console.Line(a); got != want || e != api.OK {
		t.Errorf("Line(%+v): %q, %d; want %q", a, got, e, want)
	}
	reads(t, want, a)
}

func reads(t *testing.T, s string, want api.Act) {
	t.Helper()
	got, fault := console.Read(s)
	if fault != (api.Spot{}) || !same(got, want) {
		t.Errorf("Read(%q): %+v, %v; want %+v", s, got, fault, want)
	}
}

// same: whether acts are the same; empty lists are one.
func same(a, b api.Act) bool {
	if !slices.Equal(a.Keep, b.Keep) {
		return false
	}
	a.Keep, b.Keep = nil, nil
	return reflect.DeepEqual(a, b)
}

// wrong: a line tells no act, by this fault; a console answers it so, too.
func wrong(t *testing.T, s string, e api.Errno, at int) {
	t.Helper()
	if a, fault := console.Read(s); fault != (api.Spot{Err: e, At: at}) || !reflect.DeepEqual(a, api.Act{}) {
		t.Errorf("Read(%q): %+v, %v; want %d at %d", s, a, fault, e, at)
	}
	c := console.New()
	answers(t, c, s, "error "+strconv.Itoa(int(e))+" at "+strconv.Itoa(at))
	if c.World().Acts() != 0 {
		t.Errorf("Do(%q) does an act", s)
	}
}

func noLine(t *testing.T, a api.Act, want api.Errno) {
	t.Helper()
	if got, e := console.Line(a); got != "" || e != want {
		t.Errorf("Line(%+v): %q, %d; want %d", a, got, e, want)
	}
}

func answers(t *testing.T, c *console.Console, s, want string) {
	t.Helper()
	if got := c.Do(s); got != want {
		t.Errorf("Do(%q): %q, want %q", s, got, want)
	}
}

// The chapter's examples.
func TestExamples(t *testing.T) {
	line(t, api.Act{Kind: api.ActPeer, N: 1, Text: "ok\n"}, `peer 1 "ok\n"`)
	reads(t, "cut 1 3 # a remark", api.Act{Kind: api.ActCut, Node: 1, N: 3})
	wrong(t, "tick 07", api.ErrText, 5)
	wrong(t, "round 1", api.ErrText, 6)
	if a, fault := console.Read(""); fault != (api.Spot{Err: api.ErrText}) || a.Kind != 0 {
		t.Errorf("Read of no byte: %+v, %v", a, fault)
	}
	wrong(t, "tick 9223372036854775808", api.ErrRange, 5)
	c := console.New()
	answers(t, c, "round", "ok")
	answers(t, c, "up", "up up up up")
	answers(t, c, "acts", "1")
	answers(t, c, "boot 0", "error 9")
	answers(t, c, "taken", "none")
	answers(t, c, "# x", "")
	answers(t, c, "said", "error 6 at 4")
	answers(t, c, "jump", "error 6 at 0")
	if got := console.New().Run("crash 0 0\nup\nsaid 1"); got != "ok\ndown up up up\n\"\"\n" {
		t.Errorf("Run: %q", got)
	}
}

// R4: of nil.
func TestNil(t *testing.T) {
	var c *console.Console
	answers(t, c, "round", "")
	answers(t, c, "jump", "")
	if c.Run("round\nup") != "" || c.World() != nil {
		t.Errorf("Run %q, World %v", c.Run("round\nup"), c.World())
	}
}

// P30.1, P30.2: each kind of act.
func TestLine(t *testing.T) {
	for _, c := range []struct {
		a    api.Act
		want string
	}{
		{api.Act{Kind: api.ActTick, N: 1000}, "tick 1000"},
		{api.Act{Kind: api.ActDeliver, N: math.MaxInt}, "deliver 9223372036854775807"},
		{api.Act{Kind: api.ActDrop, N: math.MinInt}, "drop -9223372036854775808"},
		{api.Act{Kind: api.ActTwice, N: -1}, "twice -1"},
		{api.Act{Kind: api.ActRate, Node: 2, N: 900}, "rate 2 900"},
		{api.Act{Kind: api.ActCut, Node: 0, N: 15}, "cut 0 15"},
		{api.Act{Kind: api.ActHeal, Node: 15}, "heal 15 0"},
		{api.Act{Kind: api.ActPower, Node: 3, N: -7}, "power 3 -7"},
		{api.Act{Kind: api.ActDraw, Node: 1, N: 19}, "draw 1 19"},
		{api.Act{Kind: api.ActCrash, Node: 1}, "crash 1 0"},
		{api.Act{Kind: api.ActCrash, Node: 1, N: 9, Keep: []int{3}}, "crash 1 9 3"},
		{api.Act{Kind: api.ActCrash, Node: 1, N: 9, Keep: []int{3, 0, -4, 10, math.MaxInt}}, "crash 1 9 3 0 -4 10 9223372036854775807"},
		{api.Act{Kind: api.ActBoot, Node: 3}, "boot 3"},
		{api.Act{Kind: api.ActPeer, N: 8}, `peer 8 ""`},
		{api.Act{Kind: api.ActPeer, N: 8, Text: "a \"b\" # \\ \x00\xff\t"}, `peer 8 "a \"b\" # \\ \x00\xff\t"`},
		{api.Act{Kind: api.ActCall, Node: 7, To: 2, Op: api.OpSubmit, Text: "a:\nexit 0"}, `call 7 2 submit 0 0 "a:\nexit 0"`},
		{api.Act{Kind: api.ActCall, Op: api.OpCancel, Talk: 3}, `call 0 0 cancel 3 0 ""`},
		{api.Act{Kind: api.ActCall, To: 1, Op: api.OpStatus, Talk: -3}, `call 0 1 status -3 0 ""`},
		{api.Act{Kind: api.ActCall, Node: 1, Op: api.OpWatch, Talk: 3, At: 5}, `call 1 0 watch 3 5 ""`},
		{api.Act{Kind: api.ActRetry, Node: 4, To: 2}, "retry 4 2"},
		{api.Act{Kind: api.ActRound}, "round"},
	} {
		line(t, c.a, c.want)
	}
}

// P30.1: what has no line: another kind, another Op, a field that is none of its kind's.
func TestNoLine(t *testing.T) {
	for _, kind := range []int{0, -1, 16, math.MaxInt, math.MinInt} {
		noLine(t, api.Act{Kind: kind}, api.ErrArg)
	}
	for op := range 256 {
		a := api.Act{Kind: api.ActCall, Op: uint8(op)}
		if op != 1 && op != 2 && op != 6 && op != 7 {
			noLine(t, a, api.ErrArg)
		}
	}
	const fields = "Node To N Keep Op Talk At Text"
	has := [16]string{
		api.ActTick: "N", api.ActRate: "Node N", api.ActDeliver: "N", api.ActDrop: "N", api.ActTwice: "N", api.ActCut: "Node N", api.ActHeal: "Node N", api.ActPower: "Node N",
		api.ActCrash: "Node N Keep", api.ActBoot: "Node", api.ActPeer: "N Text", api.ActCall: "Node To Op Talk At Text", api.ActRetry: "Node To", api.ActDraw: "Node N",
	}
	for kind := api.ActTick; kind <= api.ActRound; kind++ {
		for _, field := range strings.Fields(fields) {
			a := api.Act{Kind: kind}
			if kind == api.ActCall {
				a.Op = api.OpStatus
			}
			switch x := reflect.ValueOf(&a).Elem().FieldByName(field); field {
			case "Keep":
				a.Keep = []int{0}
			case "Op":
				a.Op = api.OpSubmit
			case "Text":
				a.Text = "x"
			default:
				x.SetInt(1)
			}
			if slices.Contains(strings.Fields(has[kind]), field) {
				s, e := console.Line(a)
				if e != api.OK {
					t.Errorf("Line(%+v): %d", a, e)
				}
				reads(t, s, a)
			} else {
				noLine(t, a, api.ErrArg)
			}
		}
		if kind != api.ActCrash {
			// An empty list is none.
			a := api.Act{Kind: kind, Keep: []int{}}
			if kind == api.ActCall {
				a.Op = api.OpStatus
			}
			if _, e := console.Line(a); e != api.OK {
				t.Errorf("Line(%+v): %d", a, e)
			}
		}
	}
}

// P30.1, P30.2: a line of as many bytes as may be, and one of more.
func TestLong(t *testing.T) {
	fits := strings.Repeat("x", 1<<16-len(`peer 1 ""`))
	line(t, api.Act{Kind: api.ActPeer, N: 1, Text: fits}, `peer 1 "`+fits+`"`)
	noLine(t, api.Act{Kind: api.ActPeer, N: 1, Text: fits + "x"}, api.ErrLong)
	noLine(t, api.Act{Kind: api.ActPeer, N: 1, Node: 1, Text: fits + "x"}, api.ErrArg)
	noLine(t, api.Act{Kind: api.ActPeer, N: 1, Text: fits[1:] + "\n"}, api.ErrLong)
	keep := make([]int, (1<<16-len("crash 1 10"))/2)
	line(t, api.Act{Kind: api.ActCrash, Node: 1, N: 10, Keep: keep}, "crash 1 10"+strings.Repeat(" 0", len(keep)))
	noLine(t, api.Act{Kind: api.ActCrash, Node: 1, N: 10, Keep: append(keep, 0)}, api.ErrLong)
	wrong(t, `peer 1 "`+fits+`x"`, api.ErrLong, 1<<16)
	wrong(t, "jump\n"+fits+"123456789", api.ErrLong, 1<<16)
	wrong(t, strings.Repeat(" ", 1<<16+1), api.ErrLong, 1<<16)
	wrong(t, "up"+strings.Repeat(" ", 1<<16), api.ErrLong, 1<<16)
	reads(t, "round"+strings.Repeat(" ", 1<<16-5), api.Act{Kind: api.ActRound})
	c := console.New()
	answers(t, c, strings.Repeat(" ", 1<<16), "")
	answers(t, c, "acts"+strings.Repeat(" ", 1<<16-4), "0")
}

// P30.2: blanks and remarks.
func TestBlanks(t *testing.T) {
	cut := api.Act{Kind: api.ActCut, Node: 1, N: 3}
	for _, s := range []string{"cut 1 3", " cut 1 3", "cut\t1\t\t3 ", "\t cut  1 \t3\t", "cut 1 3 #", "cut 1 3 #x", "cut 1 3\t# 4 \"", "cut 1 3 ##"} {
		reads(t, s, cut)
	}
	reads(t, `peer 1 " # " # "`, api.Act{Kind: api.ActPeer, N: 1, Text: " # "})
	reads(t, "peer 1 \"x\"\t", api.Act{Kind: api.ActPeer, N: 1, Text: "x"})
	reads(t, "round\t#1", api.Act{Kind: api.ActRound})
}

// P30.2: what is wrong, and where.
func TestWrong(t *testing.T) {
	for s, at := range map[string]int{
		// No word that there is.
		"jump 1": 0, " jump": 1, "Tick 1": 0, "tick# 1": 0, "ticks 1": 0, "tic 1": 0, `"tick" 1`: 0, "1": 0, "submit": 0, "\x00": 0, "tick\r 1": 0, "\vtick 1": 0,
		// None where one must stand.
		"tick": 4, "tick ": 5, "tick # 1": 8, "cut 1": 5, "cut 1 ": 6, "cut 1 # 3": 9, "crash 1": 7, "peer 1": 6, "peer 1 # x": 10, "call 0 0": 8, "call 0 0 status": 15, "call 0 0 status 1": 17, "call 0 0 status 1 1 \t": 21, "retry": 5,
		// No number.
		"tick x": 5, "tick 00": 5, "tick 01": 5, "tick -0": 5, "tick -": 5, "tick -01": 5, "tick --1": 5, "tick +1": 5, "tick 1x": 5, "tick 1-": 5, "tick 1_0": 5, "tick 0x1": 5, "tick 1#": 5, `tick "1"`: 5, "tick 1.5": 5, "tick ٣": 5, "cut x y": 4, "cut 1 y": 6, "crash 1 0 1 x 2 y": 12, "crash 1 x": 8, "crash 1 # 1": 11,
		// Not what a client asks.
		"call 0 0 1 0 0 \"\"": 9, "call 0 0 ack 0 0 \"\"": 9, "call 0 0 Status 0 0 \"\"": 9, `call 0 0 "status" 0 0 ""`: 9,
		// No text.
		"peer 1 ok": 7, `peer 1 x"ok"`: 7, `peer 1 "ok`: 10, `peer 1 "o\k"`: 10, `peer 1 "\x41"`: 10, `peer 1 "`: 8, "peer 1 \"\t\"": 8, "peer 1 \"\xff\"": 8,
		// More behind a text.
		`peer 1 "ok"x`: 11, `peer 1 "ok"#`: 11, `peer 1 "ok""x"`: 11, `peer 1 "ok" x`: 12, `peer 1 "ok" "x"`: 12, "peer 1 \"ok\"\v": 11,
		// One word too many.
		"tick 1 2": 7, "cut 1 3 x # 4": 8, "round x": 6, `round "`: 6, "boot 1 0": 7, "retry 1 2 3": 10, `call 0 0 status 0 0 "" 5`: 23,
	} {
		wrong(t, s, api.ErrText, at)
	}
	// The first wrong word alone is told.
	wrong(t, "cut x 99999999999999999999", api.ErrText, 4)
	wrong(t, "cut 99999999999999999999 x", api.ErrRange, 4)
	wrong(t, "cut 1 -9223372036854775809 x", api.ErrRange, 6)
	wrong(t, "crash 0 0 1 99999999999999999999 x", api.ErrRange, 12)
	wrong(t, "crash 0 0 1 x 99999999999999999999", api.ErrText, 12)
	wrong(t, `call 0 0 ack 99999999999999999999 0 "`, api.ErrText, 9)
	// A byte 10 goes ahead of them.
	wrong(t, "\n", api.ErrText, 0)
	wrong(t, "jump\n", api.ErrText, 4)
	wrong(t, "round # \n \n", api.ErrText, 8)
	wrong(t, "peer 1 \"\n\"", api.ErrText, 8)
	wrong(t, "up\n", api.ErrText, 2)
}

// P30.3: of a line without a word there is no answer; Read tells what is wanting.
func TestNoWord(t *testing.T) {
	c := console.New()
	for _, s := range []string{"", " ", "\t \t", "#", "# round", "  #x", "#round"} {
		answers(t, c, s, "")
		if _, fault := console.Read(s); fault != (api.Spot{Err: api.ErrText, At: len(s)}) {
			t.Errorf("Read(%q): %v", s, fault)
		}
	}
	if c.World().Acts() != 0 {
		t.Errorf("%d acts", c.World().Acts())
	}
}

// P30.2, P30.3: questions are no acts; what stands behind them.
func TestQuestions(t *testing.T) {
	for s, want := range map[string]string{
		"up": "up up up up", "taken": "none", "calls": "none", "flight": "none", "acts": "0", "said 1": `""`, "said 0": `""`, "said -9": `""`, "said 9223372036854775807": `""`,
		" up ": "up up up up", "\tup # now": "up up up up", "acts #": "0", " said\t1\t#2": `""`,
		"up 1": "error 6 at 3", "up x": "error 6 at 3", "taken 1 2": "error 6 at 6", "calls \"": "error 6 at 6", "flight -": "error 6 at 7", "acts 0": "error 6 at 5",
		"said": "error 6 at 4", "said # 1": "error 6 at 8", "said x": "error 6 at 5", "said 01": "error 6 at 5", `said "1"`: "error 6 at 5", "said 1 2": "error 6 at 7", "said 9223372036854775808": "error 5 at 5", "said 9223372036854775808 x": "error 5 at 5", "said x 9223372036854775808": "error 6 at 5",
		"Up": "error 6 at 0", "ups": "error 6 at 0", "up#": "error 6 at 0", "none": "error 6 at 0",
	} {
		answers(t, console.New(), s, want)
	}
	for _, s := range []string{"up", "taken", "said 1", "calls", "flight", "acts"} {
		if a, fault := console.Read(s); fault != (api.Spot{Err: api.ErrText}) || a.Kind != 0 {
			t.Errorf("Read(%q): %+v, %v", s, a, fault)
		}
	}
}

// numbers: with a blank between two.
func numbers(l ...int) string {
	var words []string
	for _, n := range l {
		words = append(words, strconv.Itoa(n))
	}
	return strings.Join(words, " ")
}

// P30.3: what can be seen of a world in which something was done.
func TestAnswers(t *testing.T) {
	c := console.New()
	acts := 0
	does := func(lines ...string) {
		t.Helper()
		for _, s := range lines {
			answers(t, c, s, "ok")
			acts++
		}
	}
	rounds := func(many int) {
		t.Helper()
		does(slices.Repeat([]string{"round"}, many)...)
	}
	rounds(20)
	if l := c.World().Flight(); len(l) != 2 {
		t.Fatalf("%d letters", len(l))
	} else {
		answers(t, c, "flight", numbers(l[0].Id, l[0].From, l[0].To, len(l[0].Bytes))+"; "+numbers(l[1].Id, l[1].From, l[1].To, len(l[1].Bytes)))
	}
	answers(t, c, "flight", "3 1 0 133; 4 2 0 133")
	rounds(10)
	does(`call 0 0 submit 0 0 "a:\nsend \"x\"\nsend \"\\x00\"\nexpect {\n\"ok\" goto b\n}\nb:\nexit 7"`)
	rounds(12)
	does(`call 3 0 submit 0 0 "?"`, `call 3 1 watch 1 0 ""`)
	answers(t, c, "calls", "0 1 1 31 35 0 1; 3 1 1 44 0 0 0; 3 2 7 45 0 0 0")
	answers(t, c, "taken", `1 1 1 1 "x"; 1 2 1 1 "\x00"`)
	rounds(8)
	l := c.World().Calls()
	answers(t, c, "calls", "0 1 1 31 35 0 1; "+numbers(3, 1, 1, 44, l[1].Ended, 6, 0)+"; "+numbers(3, 2, 7, 45, l[2].Ended, 0, 1))
	if l[1].Ended == 0 || l[2].Ended == 0 {
		t.Errorf("%+v", l)
	}
	does(`peer 1 "\"ok\""`, `peer 1 "\n"`, "crash 3 0", "crash 1 9 1 2 3")
	answers(t, c, "said 1", `"\"ok\"\n"`)
	answers(t, c, "said 2", `""`)
	answers(t, c, "up", "up down up down")
	answers(t, c, "taken", "none")
	answers(t, c, "acts", strconv.Itoa(acts))
	// An act that is refused is one, too; a question is none.
	for s, want := range map[string]string{"tick 1001": "error 2", "boot 0": "error 9", "deliver 9999": "error 4", "rate 0 1": "error 5", "draw 1 1": "error 40", `peer 1 "` + strings.Repeat("x", 1025) + `"`: "error 3", "retry 0 0": "error 9", `call 9 9 watch 0 0 ""`: "error 2"} {
		answers(t, c, s, want)
		acts++
	}
	answers(t, c, "acts", strconv.Itoa(acts))
	if c.World().Acts() != acts {
		t.Errorf("%d acts", c.World().Acts())
	}
}

// P30.3: what stands in World is what is done.
func TestWorld(t *testing.T) {
	c := console.New()
	w := c.World()
	if w == nil || w != c.World() || w.Acts() != 0 || w == console.New().World() {
		t.Fatal("not a new world of its own")
	}
	w.Do(api.Act{Kind: api.ActPeer, N: 4, Text: "hello"})
	answers(t, c, "said 4", `"hello"`)
	answers(t, c, `peer 4 " you"`, "ok")
	if w.Said(4) != "hello you" {
		t.Errorf("Said: %q", w.Said(4))
	}
}

// dice are numbers that look thrown, and are the same in each run.
type dice uint64

func (d *dice) below(n int) int {
	*d ^= *d << 13
	*d ^= *d >> 7
	*d ^= *d << 17
	return int(uint64(*d) >> 11 % uint64(n))
}

func (d *dice) number() int {
	switch d.below(6) {
	case 0:
		return -d.below(2000)
	case 1:
		return math.MaxInt - d.below(3)
	case 2:
		return math.MinInt + d.below(3)
	}
	return d.below(12)
}

func (d *dice) text() string {
	b := make([]byte, d.below(9))
	for i := range b {
		b[i] = byte(d.below(256))
		if d.below(2) == 0 {
			b[i] = "ok \"\\#\n\t"[d.below(8)]
		}
	}
	return string(b)
}

// act: some act that has a line.
func (d *dice) act() api.Act {
	a := api.Act{Kind: 1 + d.below(15)}
	for _, e := console.Line(a); e != api.OK; _, e = console.Line(a) {
		a.Op = uint8(d.below(8))
	}
	// What may not stand behind its word stays zero.
	try := func(change func(*api.Act)) {
		b := a
		change(&b)
		if _, e := console.Line(b); e == api.OK {
			a = b
		}
	}
	try(func(a *api.Act) { a.Node = d.number() })
	try(func(a *api.Act) { a.To = d.number() })
	try(func(a *api.Act) { a.N = d.number() })
	try(func(a *api.Act) { a.Talk = d.number() })
	try(func(a *api.Act) { a.At = d.number() })
	try(func(a *api.Act) { a.Text = d.text() })
	for range d.below(5) {
		try(func(a *api.Act) { a.Keep = append(a.Keep, d.number()) })
	}
	return a
}

// P30.4: there and back.
func TestBack(t *testing.T) {
	d := dice(30)
	for range 20000 {
		a := d.act()
		s, e := console.Line(a)
		if e != api.OK {
			t.Fatalf("Line(%+v): %d", a, e)
		}
		reads(t, s, a)
		if t.Failed() {
			return
		}
		told(t, s)
		// The same words, otherwise parted, and spoilt now and then.
		b := []byte(s)
		for range d.below(3) {
			b = slices.Insert(b, d.below(len(b)+1), " \t#\"1x0-"[d.below(8)])
		}
		told(t, string(b))
	}
}

// told: of what is read there is a line, of no more bytes, which tells the same; of what is not there is an error, at a place.
func told(t *testing.T, s string) {
	t.Helper()
	a, fault := console.Read(s)
	if fault.Err != api.OK {
		if fault.At < 0 || fault.At > len(s) || !reflect.DeepEqual(a, api.Act{}) {
			t.Fatalf("Read(%q): %+v, %v", s, a, fault)
		}
		return
	}
	again, e := console.Line(a)
	if e != api.OK || len(again) > len(s) {
		t.Fatalf("Line of Read(%q): %q, %d", s, again, e)
	}
	reads(t, again, a)
}

// P30.5: at once, in parts, one by one; and whenever.
func TestParts(t *testing.T) {
	d := dice(5)
	for seed := range 40 {
		var lines []string
		for range 60 {
			s := []string{"up", "taken", "calls", "flight", "acts", "said 1", "", "# remark", "jump", "round 1", "round", "round", "round", "round", "tick 3"}[d.below(15)]
			if d.below(3) == 0 {
				s, _ = console.Line(d.small())
			}
			lines = append(lines, s)
		}
		text := strings.Join(lines, "\n")
		whole := console.New()
		want := whole.Run(text)
		if again := console.New().Run(text); again != want {
			t.Fatalf("seed %d: run again: %q, want %q", seed, again, want)
		}
		one, all := console.New(), ""
		for _, s := range lines {
			if answer := one.Do(s); answer != "" {
				all += answer + "\n"
			}
		}
		if all != want {
			t.Fatalf("seed %d: one by one: %q, want %q", seed, all, want)
		}
		parts, all := console.New(), ""
		for i := 0; i < len(lines); {
			n := min(1+d.below(9), len(lines)-i)
			all += parts.Run(strings.Join(lines[i:i+n], "\n"))
			i += n
		}
		if all != want {
			t.Fatalf("seed %d: in parts: %q, want %q", seed, all, want)
		}
		for _, q := range []string{"up", "taken", "calls", "flight", "acts", "said 1"} {
			if whole.Do(q) != one.Do(q) || whole.Do(q) != parts.Do(q) {
				t.Fatalf("seed %d: %s: %q, %q, %q", seed, q, whole.Do(q), one.Do(q), parts.Do(q))
			}
		}
	}
}

// small: an act that a world may well do.
func (d *dice) small() api.Act {
	switch d.below(6) {
	case 0:
		return api.Act{Kind: api.ActCall, Node: d.below(3), To: d.below(3), Op: api.OpSubmit, Text: "a:\nsend \"x\"\nexit 1"}
	case 1:
		return api.Act{Kind: api.ActPeer, N: 1 + d.below(3), Text: d.text()}
	case 2:
		return api.Act{Kind: api.ActCrash, Node: d.below(4), N: d.below(20), Keep: []int{d.below(3), d.below(3)}}
	case 3:
		return api.Act{Kind: api.ActDeliver, N: d.below(40)}
	}
	return api.Act{Kind: api.ActBoot, Node: d.below(4)}
}

// P30.3: a console that is told acts line by line comes to what a world comes to that does them.
func TestAsWorld(t *testing.T) {
	d := dice(9)
	for range 20 {
		c, w := console.New(), cluster.New()
		for range 120 {
			a := api.Act{Kind: api.ActRound}
			if d.below(3) == 0 {
				a = d.small()
			}
			s, _ := console.Line(a)
			want := "ok"
			if e := w.Do(a); e != api.OK {
				want = "error " + strconv.Itoa(int(e))
			}
			answers(t, c, s, want)
		}
		var l []string
		for _, x := range w.Taken() {
			l = append(l, numbers(x.Talk, x.Seq, x.Token.Term, x.Token.Epoch)+" "+pattern.Quote(x.Text))
		}
		if len(l) == 0 {
			l = []string{"none"}
		}
		answers(t, c, "taken", strings.Join(l, "; "))
		if !reflect.DeepEqual(c.World().Flight(), w.Flight()) || !reflect.DeepEqual(c.World().Calls(), w.Calls()) {
			t.Error("another world")
		}
	}
}

// P30.3: Run answers each line that has an answer, and a byte 10 behind it.
func TestRun(t *testing.T) {
	for text, want := range map[string]string{
		"": "", "\n": "", "\n\n# x\n  \n": "", "acts": "0\n", "acts\n": "0\n", "\nacts\n\nround\nacts\n": "0\nok\n1\n", "jump\r\nacts": "error 6 at 0\n0\n", "peer 1 \"a\nacts": "error 6 at 9\n0\n",
		"x" + strings.Repeat(" ", 1<<16) + "\nacts": "error 3 at 65536\n0\n",
	} {
		if got := console.New().Run(text); got != want {
			t.Errorf("Run(%q): %q, want %q", text, got, want)
		}
	}
}
