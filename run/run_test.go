package run_test

import (
	"math"
	"reflect"
	"strings"
	"testing"

	"dragoman/api"
	"dragoman/compile"
	"dragoman/run"
)

// auto: the automaton of lines with / for the byte 10.
func auto(t *testing.T, text string) api.Auto {
	t.Helper()
	a, f := compile.Of(strings.ReplaceAll(text, "/", "\n"))
	if f.Err != api.OK {
		t.Fatalf("Of(%s): %v", text, f)
	}
	return a
}

func sent(s string, n int) api.Happen    { return api.Happen{Kind: api.HapSend, Text: s, N: n} }
func matched(s string, n int) api.Happen { return api.Happen{Kind: api.HapMatch, Text: s, N: n} }
func exited(n int) api.Happen            { return api.Happen{Kind: api.HapExit, N: n} }
func timeout() api.Happen                { return api.Happen{Kind: api.HapTimeout} }

// same: whether configurations are the same; empty lists are one.
func same(c, d api.Config) bool {
	if len(c.Counts) == 0 && len(d.Counts) == 0 {
		c.Counts, d.Counts = nil, nil
	}
	return reflect.DeepEqual(c, d)
}

// goes: what a call answered is that configuration, and what happened is that; the configuration may stand so.
func goes(t *testing.T, what string, a api.Auto, c api.Config, h []api.Happen, e api.Errno, want api.Config, l ...api.Happen) {
	t.Helper()
	if e != api.OK || !same(c, want) || !reflect.DeepEqual(append([]api.Happen{}, h...), append([]api.Happen{}, l...)) {
		t.Errorf("%s: %+v, %v, %d; want %+v, %v", what, c, h, e, want, l)
	}
	if e := run.Check(a, c); e != api.OK {
		t.Errorf("%s: Check %d of %+v", what, e, c)
	}
}

func begins(t *testing.T, a api.Auto, want api.Config, l ...api.Happen) {
	t.Helper()
	c, h, e := run.Begin(a)
	goes(t, "Begin", a, c, h, e, want, l...)
}

func feeds(t *testing.T, a api.Auto, c api.Config, s string, want api.Config, l ...api.Happen) {
	t.Helper()
	d, h, e := run.Feed(a, c, s)
	goes(t, "Feed of "+s, a, d, h, e, want, l...)
}

func times(t *testing.T, a api.Auto, c api.Config, want api.Config, l ...api.Happen) {
	t.Helper()
	d, h, e := run.Timeout(a, c)
	goes(t, "Timeout", a, d, h, e, want, l...)
}

// refuses: all calls answer that error, and nothing else.
func refuses(t *testing.T, what string, a api.Auto, c api.Config, want api.Errno) {
	t.Helper()
	if e := run.Check(a, c); e != want {
		t.Errorf("%s: Check %d, want %d", what, e, want)
	}
	noTimeout(t, what, a, c, want)
	d, h, e := run.Feed(a, c, "xok")
	if !reflect.DeepEqual(d, api.Config{}) || len(h) != 0 || e != want {
		t.Errorf("%s: Feed %+v, %v, %d; want %d", what, d, h, e, want)
	}
}

// noTimeout: Timeout answers that error, and Waits nothing.
func noTimeout(t *testing.T, what string, a api.Auto, c api.Config, want api.Errno) {
	t.Helper()
	d, h, e := run.Timeout(a, c)
	if !reflect.DeepEqual(d, api.Config{}) || len(h) != 0 || e != want {
		t.Errorf("%s: Timeout %+v, %v, %d; want %d", what, d, h, e, want)
	}
	waits(t, what, a, c, 0)
}

// waits: Waits answers that; 0: nothing.
func waits(t *testing.T, what string, a api.Auto, c api.Config, want int) {
	t.Helper()
	if n, ok := run.Waits(a, c); n != want || ok != (want > 0) {
		t.Errorf("%s: Waits %d, %v; want %d", what, n, ok, want)
	}
}

// The chapter's examples.
func TestExamples(t *testing.T) {
	a := auto(t, `a:/send "x"/expect {/"ok" goto b/}/b:/exit 7`)
	at := api.Config{Node: 1, Sends: 1}
	begins(t, a, at, sent("x", 1))
	no := api.Config{Node: 1, Sends: 1, Buffer: "no,"}
	feeds(t, a, at, "no,", no)
	feeds(t, a, no, "ok!", api.Config{Node: 2, Sends: 1, Turn: 1, Ended: true, Code: 7}, matched("no,ok", 0), exited(7))
	noTimeout(t, "at the node 1", a, at, api.ErrState)
	refuses(t, "ok in Buffer", a, api.Config{Node: 1, Sends: 1, Buffer: "ok"}, api.ErrState)
	refuses(t, "no node", api.Auto{}, at, api.ErrArg)
	b := auto(t, `a:/expect {/timeout 5 goto b/}/b:/send "y"/exit 1`)
	waits(t, "an expect with a timeout", b, api.Config{}, 5)
	times(t, b, api.Config{}, api.Config{Node: 2, Sends: 1, Turn: 1, Ended: true, Code: 1}, timeout(), sent("y", 1), exited(1))
}

// P16.1: all kinds of nodes.
func TestBegin(t *testing.T) {
	begins(t, auto(t, "a:/exit 0"), api.Config{Ended: true}, exited(0))
	begins(t, auto(t, "a:/exit 255"), api.Config{Ended: true, Code: 255}, exited(255))
	begins(t, auto(t, "a:/expect {/timeout 1 goto a/}"), api.Config{})
	a := auto(t, `a:/send ""/set n 3/inc n/inc m/if n < 4 goto no/if n < 5 goto b/exit 1/no:/exit 2/b:/send "b"/if m < 1 goto no/if m < 2 goto c/exit 3/c:/goto d/d:/set n 255/inc n/inc n/if n < 255 goto no/set m 0/if m < 1 goto e/exit 4/e:/send "e"/expect {/"x" goto e/}`)
	begins(t, a, api.Config{Node: 21, Counts: []int{255, 0}, Sends: 3}, sent("", 1), sent("b", 2), sent("e", 3))
	for _, bad := range []api.Auto{{}, {Nodes: []api.AutoNode{{Op: api.LineGoto, Late: -1}}}, {Nodes: []api.AutoNode{{Op: api.LineExit, Late: -1}}, Counts: 1}, {Nodes: make([]api.AutoNode, 1000)}} {
		if c, h, e := run.Begin(bad); !reflect.DeepEqual(c, api.Config{}) || len(h) != 0 || e != api.ErrArg {
			t.Errorf("Begin(%v): %v, %v, %d", bad, c, h, e)
		}
		for _, c := range []api.Config{{}, {Node: -1}, {Ended: true}, {Counts: []int{0}}} {
			refuses(t, "an automaton that may not be", bad, c, api.ErrArg)
		}
	}
}

// P16.5: how it may stand, and how not.
func TestCheck(t *testing.T) {
	a := auto(t, `a:/inc n/set m 3/expect {/"ok" goto b/re "x+y" goto b/}/b:/exit 7/c:/expect {/timeout 9 goto a/}`)
	big := strings.Repeat("k", 256)
	for _, c := range []api.Config{
		{Node: 2, Counts: []int{0, 0}}, {Node: 2, Counts: []int{255, 255}, Buffer: "o", Sends: 1 << 30, Turn: 1 << 30}, {Node: 2, Counts: []int{0, 0}, Buffer: big}, {Node: 4, Counts: []int{1, 2}, Buffer: "okxy"},
		{Node: 3, Counts: []int{0, 0}, Ended: true, Code: 7}, {Node: 3, Counts: []int{0, 9}, Ended: true, Code: 7, Buffer: "ok"},
	} {
		if e := run.Check(a, c); e != api.OK {
			t.Errorf("%+v: %d", c, e)
		}
	}
	n := []int{0, 0}
	for _, c := range []api.Config{
		{Node: 2}, {Node: 2, Counts: []int{0}}, {Node: 2, Counts: []int{0, 0, 0}}, {Node: 2, Counts: []int{-1, 0}}, {Node: 2, Counts: []int{0, 256}}, {Node: 2, Counts: []int{0, math.MaxInt}}, {Node: 2, Counts: make([]int, 1<<16)},
		{Node: 2, Counts: n, Buffer: big + "k"}, {Node: 4, Counts: n, Buffer: big + "k"}, {Node: 3, Counts: n, Ended: true, Code: 7, Buffer: big + "k"},
		{Node: 2, Counts: n, Sends: -1}, {Node: 2, Counts: n, Sends: 1<<30 + 1}, {Node: 2, Counts: n, Turn: -1}, {Node: 2, Counts: n, Turn: 1<<30 + 1}, {Node: 3, Counts: n, Ended: true, Code: 7, Turn: math.MinInt},
		{Node: 2, Counts: n, Code: 1}, {Node: 2, Counts: n, Ended: true}, {Node: 2, Counts: n, Buffer: "ok"}, {Node: 2, Counts: n, Buffer: "zokz"}, {Node: 2, Counts: n, Buffer: "xxy"}, {Node: 2, Counts: n, Code: 7},
		{Node: 3, Counts: n}, {Node: 3, Counts: n, Code: 7}, {Node: 3, Counts: n, Ended: true}, {Node: 3, Counts: n, Ended: true, Code: 8}, {Node: 3, Counts: n, Ended: true, Code: -1},
		{Node: 0, Counts: n}, {Node: 1, Counts: n}, {Node: -1, Counts: n}, {Node: 5, Counts: n}, {Node: math.MaxInt, Counts: n}, {Node: math.MinInt, Counts: n, Ended: true},
	} {
		refuses(t, "how it may not stand", a, c, api.ErrState)
	}
}

// P16.2: what comes in, byte by byte; one that has ended stays as it is.
func TestFeed(t *testing.T) {
	a := auto(t, `a:/expect {/"ab" goto b/glob "b?" goto a/timeout 3 goto b/}/b:/inc n/send "s"/if n < 3 goto c/exit 9/c:/expect {/"b" goto b/re "[xy]+z" goto a/}`)
	start := api.Config{Counts: []int{0}}
	feeds(t, a, start, "", start)
	feeds(t, a, start, "xxa", api.Config{Counts: []int{0}, Buffer: "xxa"})
	feeds(t, a, start, "xb", api.Config{Counts: []int{0}, Buffer: "xb"})
	feeds(t, a, start, "xbab", api.Config{Counts: []int{0}, Buffer: "b", Turn: 1}, matched("xba", 1))
	feeds(t, a, start, "abxz", api.Config{Counts: []int{1}, Sends: 1, Turn: 2}, matched("ab", 0), sent("s", 1), matched("xz", 1))
	feeds(t, a, start, "ab.b.b", api.Config{Node: 4, Counts: []int{3}, Sends: 3, Turn: 3, Ended: true, Code: 9}, matched("ab", 0), sent("s", 1), matched(".b", 0), sent("s", 2), matched(".b", 0), sent("s", 3), exited(9))
	ended := api.Config{Node: 4, Counts: []int{3}, Sends: 3, Turn: 3, Ended: true, Code: 9, Buffer: "ab"}
	feeds(t, a, ended, "ab", ended)
	feeds(t, a, ended, "", ended)
	noTimeout(t, "ended", a, ended, api.ErrState)
	// Behind the end nothing is taken.
	c, _, _ := run.Feed(a, api.Config{Node: 5, Counts: []int{2}}, "bbab")
	if !same(c, api.Config{Node: 4, Counts: []int{3}, Sends: 1, Turn: 1, Ended: true, Code: 9}) {
		t.Errorf("ended, with more behind: %+v", c)
	}
}

// P16.2: what is kept are MaxBuffer bytes; an expect without arms only waits.
func TestFeedMuch(t *testing.T) {
	x := strings.Repeat("x", 255)
	a := auto(t, `a:/expect {/glob "a*z" goto b/"yy" goto b/}/b:/exit 0`)
	feeds(t, a, api.Config{}, "a"+x, api.Config{Buffer: "a" + x})
	feeds(t, a, api.Config{}, "a"+x+"z", api.Config{Buffer: x + "z"})
	feeds(t, a, api.Config{Buffer: "a" + x}, "z", api.Config{Buffer: x + "z"})
	feeds(t, a, api.Config{Buffer: "a" + x[1:]}, "zz", api.Config{Node: 1, Turn: 1, Ended: true}, matched("a"+x[1:]+"z", 0), exited(0))
	feeds(t, a, api.Config{}, "a"+x+x+"yyz", api.Config{Node: 1, Turn: 1, Ended: true}, matched(x[1:]+"yy", 1), exited(0))
	b := auto(t, "a:/expect {/timeout 1000 goto a/}")
	feeds(t, b, api.Config{Buffer: "b"}, "c", api.Config{Buffer: "bc"})
	feeds(t, b, api.Config{Buffer: "b"}, "c"+x, api.Config{Buffer: "c" + x})
	feeds(t, b, api.Config{Buffer: "b"}, x+x+"cd", api.Config{Buffer: x[1:] + "cd"})
	waits(t, "no arms", b, api.Config{Buffer: x}, 1000)
	times(t, b, api.Config{Buffer: x}, api.Config{Buffer: x, Turn: 1}, timeout())
}

// P16.3: behind a timeout it settles, with what is there.
func TestTimeout(t *testing.T) {
	a := auto(t, `a:/expect {/"no" goto b/timeout 2 goto b/}/b:/send "s"/expect {/"x" goto c/"y" goto b/}/c:/inc n/if n < 2 goto b/expect {/glob "?" goto d/timeout 7 goto d/}/d:/exit 1`)
	start := api.Config{Counts: []int{0}, Buffer: "kyxk"}
	waits(t, "the first expect", a, start, 2)
	times(t, a, start, api.Config{Node: 2, Counts: []int{1}, Buffer: "k", Sends: 3, Turn: 3}, timeout(), sent("s", 1), matched("ky", 1), sent("s", 2), matched("x", 0), sent("s", 3))
	start.Buffer = "xxkk"
	times(t, a, start, api.Config{Node: 6, Counts: []int{2}, Buffer: "k", Sends: 2, Turn: 4, Ended: true, Code: 1}, timeout(), sent("s", 1), matched("x", 0), sent("s", 2), matched("x", 0), matched("k", 0), exited(1))
	start.Buffer = "xx"
	c, _, _ := run.Timeout(a, start)
	waits(t, "the last expect", a, c, 7)
	times(t, a, c, api.Config{Node: 6, Counts: []int{2}, Sends: 2, Turn: 4, Ended: true, Code: 1}, timeout(), exited(1))
	noTimeout(t, "no timeout", a, api.Config{Node: 2, Counts: []int{0}}, api.ErrState)
}

// Numbers stay at the greatest one.
func TestMost(t *testing.T) {
	a := auto(t, `a:/expect {/"x" goto b/timeout 1 goto b/}/b:/inc n/send "s"/send "t"/goto a`)
	most := api.Config{Counts: []int{254}, Sends: api.MaxTurns - 1, Turn: api.MaxTurns - 1}
	end := api.Config{Counts: []int{255}, Sends: api.MaxTurns, Turn: api.MaxTurns}
	feeds(t, a, most, "x", end, matched("x", 0), sent("s", api.MaxTurns), sent("t", api.MaxTurns))
	times(t, a, most, end, timeout(), sent("s", api.MaxTurns), sent("t", api.MaxTurns))
	feeds(t, a, end, "x", end, matched("x", 0), sent("s", api.MaxTurns), sent("t", api.MaxTurns))
	times(t, a, end, end, timeout(), sent("s", api.MaxTurns), sent("t", api.MaxTurns))
}

// R3: what is handed in is not changed, and not kept.
func TestNew(t *testing.T) {
	a := auto(t, `a:/expect {/"x" goto b/timeout 1 goto b/}/b:/inc n/inc m/goto a`)
	room := []int{1, 2, 3, 4}
	c := api.Config{Counts: room[:2]}
	d, _, _ := run.Feed(a, c, "x")
	e, _, _ := run.Timeout(a, c)
	same, _, _ := run.Feed(a, c, "")
	for _, l := range [][]int{d.Counts, e.Counts, same.Counts} {
		l = l[:cap(l)]
		for i := range l {
			l[i] = 99
		}
	}
	if !reflect.DeepEqual(room, []int{1, 2, 3, 4}) {
		t.Errorf("changed: %v", room)
	}
}
