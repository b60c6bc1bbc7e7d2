package compile_test

import (
	"fmt"
	"math/rand"
	"reflect"
	"slices"
	"strings"
	"testing"

	"dragoman/api"
	"dragoman/check"
	"dragoman/compile"
	"dragoman/parse"
	"dragoman/pattern"
)

// text: lines with / for the byte 10.
func text(s string) string { return strings.ReplaceAll(s, "/", "\n") }

func of(t *testing.T, s string) api.Auto {
	t.Helper()
	a, f := compile.Of(text(s))
	if f != (api.Spot{}) {
		t.Fatalf("Of(%s): %v", s, f)
	}
	return a
}

func compiles(t *testing.T, s string, want api.Auto) {
	t.Helper()
	if a := of(t, s); !reflect.DeepEqual(a, want) {
		t.Errorf("Of(%s): %v, want %v", s, a, want)
	}
}

func refuses(t *testing.T, s string, e api.Errno, at int) {
	t.Helper()
	if a, f := compile.Of(text(s)); !reflect.DeepEqual(a, api.Auto{}) || f != (api.Spot{Err: e, At: at}) {
		t.Errorf("Of(%s): %v, %v; want the error %d at %d", s, a, f, e, at)
	}
}

func tells(t *testing.T, a api.Auto, want string) {
	t.Helper()
	if got := compile.Text(a); got != text(want) || !compile.Right(a) {
		t.Errorf("Text(%v): %q, %v; want %q", a, got, compile.Right(a), text(want))
	}
}

func notRight(t *testing.T, what string, a api.Auto) {
	t.Helper()
	if compile.Right(a) || compile.Text(a) != "" {
		t.Errorf("%s: %v is right: %q", what, a, compile.Text(a))
	}
}

func auto(counts int, l ...api.AutoNode) api.Auto { return api.Auto{Nodes: l, Counts: counts} }

func send(s string) api.AutoNode   { return api.AutoNode{Op: api.LineSend, Text: s, Late: -1} }
func set(c, n int) api.AutoNode    { return api.AutoNode{Op: api.LineSet, C: c, N: n, Late: -1} }
func inc(c int) api.AutoNode       { return api.AutoNode{Op: api.LineInc, C: c, Late: -1} }
func gotoNode(to int) api.AutoNode { return api.AutoNode{Op: api.LineGoto, To: to, Late: -1} }
func exit(n int) api.AutoNode      { return api.AutoNode{Op: api.LineExit, N: n, Late: -1} }
func ifNode(c, n, to int) api.AutoNode {
	return api.AutoNode{Op: api.LineIf, C: c, N: n, To: to, Late: -1}
}

func expect(wait, late int, arms ...api.AutoArm) api.AutoNode {
	return api.AutoNode{Op: api.LineExpect, Arms: arms, Wait: wait, Late: late}
}

func arm(kind int, s string, to int) api.AutoArm {
	return api.AutoArm{Pattern: api.Pattern{Kind: kind, Text: s}, To: to}
}

// The chapter's examples.
func TestExamples(t *testing.T) {
	a := auto(1, inc(0), gotoNode(2), exit(3))
	compiles(t, "top:/inc tries/goto end/end:/exit 3", a)
	tells(t, a, "a:/inc a/goto b/b:/exit 3")
	refuses(t, "a:/goto b", api.ErrName, 0)
	refuses(t, "a:/exit 0/b:/goto b", api.ErrRound, 1)
	refuses(t, "a:/exit", api.ErrText, 7)
	compiles(t, `a:/expect {/glob "x*" goto a/timeout 7 goto a/}`, auto(0, expect(7, 0, arm(2, "x*", 0))))
	notRight(t, "no nodes", api.Auto{})
}

// whole has every kind of node.
const wholeText = `first:/send ""/send "a\n\x00"/set n 0/set m 255/inc k/if m < 0 goto third/if n < 255 goto second/inc n/goto last/` +
	`second:/if k < 7 goto third/expect {/"x" goto first/glob "?" goto third/re "(a|b)+" goto second/}/` +
	`third:/expect {/"y" goto last/timeout 1000 goto third/}/` +
	`late:/expect {/timeout 1 goto first/}/last:/exit 255`

func whole() api.Auto {
	return auto(3, send(""), send("a\n\x00"), set(0, 0), set(1, 255), inc(2), ifNode(1, 0, 11), ifNode(0, 255, 9), inc(0), gotoNode(13),
		ifNode(2, 7, 11), expect(0, -1, arm(1, "x", 0), arm(2, "?", 11), arm(3, "(a|b)+", 9)), expect(1000, 11, arm(1, "y", 13)), expect(1, 0), exit(255))
}

// P15.1, P15.3: every kind of line.
func TestOf(t *testing.T) {
	compiles(t, wholeText, whole())
	tells(t, whole(), `a:/send ""/send "a\n\x00"/set a 0/set b 255/inc c/if b < 0 goto c/if a < 255 goto b/inc a/goto e/`+
		`b:/if c < 7 goto c/expect {/"x" goto a/glob "?" goto c/re "(a|b)+" goto b/}/`+
		`c:/expect {/"y" goto e/timeout 1000 goto c/}/d:/expect {/timeout 1 goto a/}/e:/exit 255`)
	compiles(t, "x:/exit 0", auto(0, exit(0)))
}

// P15.1: what parse.Program and check.Check tell.
func TestOfWrong(t *testing.T) {
	for _, s := range []string{"", "a:", "a:/exit 256", "if:/exit 0", "a:/exit 0/exit 0", "a:/expect {/re \"(\" goto a/}", "A", "a:/exit 12345", strings.Repeat(" ", 2049)} {
		_, f := parse.Program(text(s))
		if f.Err == api.OK {
			t.Errorf("%q is right", s)
		}
		refuses(t, s, f.Err, f.At)
	}
	refuses(t, "a:/exit 0/b:/exit 1/b:/exit 2", api.ErrTwice, 2)
	refuses(t, "a:/exit 0/b:/send \"x\"/expect {/\"x\" goto a/glob \"*\" goto a/}", api.ErrEmpty, 1)
	refuses(t, "a:/exit 0/b:/exit 0/c:/inc a/inc b/inc c/inc d/inc e/inc f/inc g/inc h/inc i/exit 0", api.ErrCounter, 2)
	refuses(t, "a:/goto a/b:/goto c", api.ErrName, 1)
	refuses(t, "a:/goto b/b:/if n < 1 goto c/exit 0/c:/goto b", api.ErrRound, 1)
}

// P15.2: what is wrong with some node.
func TestRightNode(t *testing.T) {
	long := strings.Repeat("x", 65)
	end := exit(0)
	for i, n := range []api.AutoNode{
		{}, {Op: -1, Late: -1}, {Op: 8, Late: -1}, send(long), {Op: api.LineSend}, {Op: api.LineSend, C: 1, Late: -1}, {Op: api.LineSend, N: 1, Late: -1}, {Op: api.LineSend, To: 1, Late: -1}, {Op: api.LineSend, Wait: 1, Late: -1},
		{Op: api.LineSend, Arms: []api.AutoArm{arm(1, "x", 0)}, Late: -1}, {Op: api.LineSend, Late: 1}, {Op: api.LineSend, Late: -2},
		set(0, -1), set(0, 256), set(1, 0), set(-1, 0), {Op: api.LineSet, Text: "x", Late: -1}, {Op: api.LineSet, To: 2, Late: -1}, {Op: api.LineSet, Late: 0},
		inc(-1), inc(1), inc(8), {Op: api.LineInc, N: 1, Late: -1}, {Op: api.LineInc, To: 2, Late: -1}, {Op: api.LineInc, Text: "x", Late: -1},
		ifNode(0, -1, 2), ifNode(0, 256, 2), ifNode(0, 0, 1), ifNode(0, 0, -1), ifNode(0, 0, 3), ifNode(1, 0, 2), ifNode(0, 0, 0), {Op: api.LineIf, To: 2}, {Op: api.LineIf, To: 2, Text: "x", Late: -1}, {Op: api.LineIf, To: 2, Wait: 1, Late: -1},
	} {
		for counts := range 3 {
			notRight(t, fmt.Sprint("node ", i), auto(counts, n, end, end))
		}
	}
	for i, n := range []api.AutoNode{
		gotoNode(1), gotoNode(-1), gotoNode(4), gotoNode(2), {Op: api.LineGoto, To: 3}, {Op: api.LineGoto, To: 3, N: 1, Late: -1}, {Op: api.LineGoto, To: 3, C: 1, Late: -1}, {Op: api.LineGoto, To: 3, Text: "x", Late: -1},
		exit(-1), exit(256), {Op: api.LineExit}, {Op: api.LineExit, To: 3, Late: -1}, {Op: api.LineExit, C: 1, Late: -1}, {Op: api.LineExit, Wait: 1, Late: -1},
		expect(0, -1), expect(0, 0), expect(1, -1), expect(1001, 0), expect(-1, 0), expect(1, 1), expect(1, -2), expect(1, 4), expect(5, -1, arm(1, "x", 0)), expect(0, 0, arm(1, "x", 0)), expect(0, 3, arm(1, "x", 0)),
		expect(1, 0, arm(0, "x", 0)), expect(1, 0, arm(3, "(", 0)), expect(1, 0, arm(1, long, 0)), expect(1, 0, arm(1, "", 0)), expect(1, 0, arm(3, "x*", 0)), expect(1, 0, arm(1, "x", 1)), expect(1, 0, arm(1, "x", 0), arm(1, "x", -1)),
		expect(1, 0, arm(1, "x", 0), arm(2, "*", 0)), {Op: api.LineExpect, Wait: 1, Text: "x"}, {Op: api.LineExpect, Wait: 1, N: 1}, {Op: api.LineExpect, Wait: 1, C: 1}, {Op: api.LineExpect, Wait: 1, To: 3},
		expect(0, -1, slices.Repeat([]api.AutoArm{arm(1, "x", 0)}, 9)...),
	} {
		for counts := range 3 {
			notRight(t, fmt.Sprint("last node ", i), auto(counts, inc(0), send("x"), n, end))
			notRight(t, fmt.Sprint("last node ", i), auto(counts, inc(0), send("x"), end, n))
		}
	}
	notRight(t, "a send at the end", auto(0, exit(0), send("x")))
	notRight(t, "an inc at the end", auto(1, inc(0)))
	notRight(t, "an if at the end", auto(1, exit(0), ifNode(0, 1, 0)))
	// An empty list is none.
	if !compile.Right(auto(0, api.AutoNode{Op: api.LineExit, Arms: []api.AutoArm{}, Late: -1})) {
		t.Error("an exit with an empty list of arms is not right")
	}
	if !compile.Right(auto(0, expect(0, -1, slices.Repeat([]api.AutoArm{arm(1, "x", 0)}, 8)...))) {
		t.Error("an expect of eight arms is not right")
	}
}

// P15.2: counters come in order, and there are Counts of them.
func TestRightCounters(t *testing.T) {
	all := []api.AutoNode{inc(0), set(1, 5), inc(2), set(1, 0), inc(3), set(4, 5), inc(5), inc(6), inc(7), inc(0), exit(0)}
	tells(t, auto(8, all...), "a:/inc a/set b 5/inc c/set b 0/inc d/set e 5/inc f/inc g/inc h/inc a/exit 0")
	for _, counts := range []int{-1, 0, 7, 9, 1 << 40} {
		notRight(t, "counts", auto(counts, all...))
	}
	notRight(t, "nine", auto(9, append([]api.AutoNode{inc(0), inc(1), inc(2), inc(3), inc(4), inc(5), inc(6), inc(7), inc(8)}, exit(0))...))
	notRight(t, "not in order", auto(2, inc(1), inc(0), exit(0)))
	notRight(t, "a gap", auto(3, inc(0), inc(2), exit(0)))
	notRight(t, "none", auto(1, exit(0)))
}

// P15.2: ways round, heads, and the most of all.
func TestRightWays(t *testing.T) {
	notRight(t, "goto itself", auto(0, gotoNode(0)))
	notRight(t, "later goto itself", auto(0, exit(0), gotoNode(1)))
	notRight(t, "back", auto(0, send("x"), gotoNode(2), send("y"), gotoNode(0)))
	notRight(t, "back by an if", auto(1, inc(0), ifNode(0, 1, 0), exit(0)))
	notRight(t, "back from behind an if", auto(1, ifNode(0, 1, 2), exit(0), send("x"), gotoNode(0)))
	tells(t, auto(1, ifNode(0, 1, 3), ifNode(0, 2, 4), exit(0), gotoNode(4), expect(3, 0, arm(1, "x", 4))),
		`a:/if a < 1 goto b/if a < 2 goto c/exit 0/b:/goto c/c:/expect {/"x" goto c/timeout 3 goto a/}`)
	var l []api.AutoNode
	for range 31 {
		l = append(l, exit(0))
	}
	if a := auto(0, append(l, exit(1))...); !compile.Right(a) || !strings.HasSuffix(compile.Text(a), text("z:/exit 0/ba:/exit 0/bb:/exit 0/bc:/exit 0/bd:/exit 0/be:/exit 0/bf:/exit 1")) {
		t.Errorf("32 blocks: %q", compile.Text(a))
	}
	notRight(t, "33 blocks", auto(0, append(l, exit(0), exit(0))...))
	l = slices.Repeat([]api.AutoNode{inc(0)}, 127)
	if a := auto(1, append(l, exit(0))...); !compile.Right(a) || len(compile.Text(a)) != 2+127*6+7 {
		t.Errorf("128 nodes: %q", compile.Text(a))
	}
	notRight(t, "129 nodes", auto(1, append(l, inc(0), exit(0))...))
	notRight(t, "many nodes", auto(0, make([]api.AutoNode, 1<<16)...))
}

// P15.3: a text of MaxText bytes, and one of more: that automaton may be, and has no text.
func TestTextLong(t *testing.T) {
	var l []api.AutoNode
	for range 28 {
		l = append(l, send(strings.Repeat("y", 64)))
	}
	left := api.MaxText - len(compile.Text(auto(0, append(l, send(""), exit(0))...)))
	a := auto(0, append(l, send(strings.Repeat("y", left)), exit(0))...)
	if s := compile.Text(a); len(s) != api.MaxText || !compile.Right(a) {
		t.Errorf("%d bytes", len(s))
	}
	a = auto(0, append(l, send(strings.Repeat("y", left+1)), exit(0))...)
	if compile.Text(a) != "" || !compile.Right(a) {
		t.Errorf("more than MaxText bytes: %d, %v", len(compile.Text(a)), compile.Right(a))
	}
}

// P15.5: names make no difference.
func TestNames(t *testing.T) {
	r := strings.NewReplacer("first", "a", "second", "z-9", "third", "b", "late", "first", "last", "sends", " n", " counter", " m", " first", " k", " n")
	compiles(t, r.Replace(wholeText), whole())
	compiles(t, "n:/inc n/goto m/m:/exit 0", auto(1, inc(0), gotoNode(2), exit(0)))
}

// asScript: the dialogue that an automaton tells, whether it may be or not; names by numbers.
func asScript(a api.Auto) api.Script {
	var s api.Script
	name := func(n int) string { return strings.ReplaceAll(fmt.Sprint("b", n), "-", "_") }
	for i, n := range a.Nodes {
		if i == 0 || a.Nodes[i-1].Op >= api.LineGoto && a.Nodes[i-1].Op <= api.LineExpect {
			s.Blocks = append(s.Blocks, api.Block{Name: name(i)})
		}
		l := api.Line{Op: n.Op, Text: n.Text, N: n.N, Wait: n.Wait}
		if n.Op == api.LineSet || n.Op == api.LineInc || n.Op == api.LineIf {
			l.Name = strings.ReplaceAll(fmt.Sprint("c", n.C), "-", "_")
		}
		if n.Op == api.LineGoto || n.Op == api.LineIf {
			l.To = name(n.To)
		}
		for _, x := range n.Arms {
			l.Arms = append(l.Arms, api.Arm{Pattern: x.Pattern, To: name(x.To)})
		}
		if n.Late != -1 {
			l.Late = name(n.Late)
		}
		b := &s.Blocks[len(s.Blocks)-1]
		b.Lines = append(b.Lines, l)
	}
	return s
}

// spoil changes a number of an automaton, perhaps to what it was.
func spoil(r *rand.Rand, a *api.Auto) {
	some := func() int { return r.Intn(len(a.Nodes)+4) - 2 }
	n := &a.Nodes[r.Intn(len(a.Nodes))]
	switch r.Intn(10) {
	case 0:
		n.Op = r.Intn(9)
	case 1:
		n.C = some()
	case 2:
		n.N = some()
	case 3, 4:
		n.To = some()
	case 5:
		n.Late = some()
	case 6:
		n.Wait = some()
	case 7:
		a.Counts = some()
	case 8:
		for i := range n.Arms {
			n.Arms[i].To = some()
		}
	case 9:
		a.Nodes = slices.Delete(a.Nodes, 0, r.Intn(len(a.Nodes)))
	}
}

// P15.2, P15.4: automata with a number or two spoilt are right, if their dialogues are compiled to them; and then their texts are.
func TestSpoilt(t *testing.T) {
	r := rand.New(rand.NewSource(15))
	right := 0
	for range 30000 {
		a := whole()
		for range 1 + r.Intn(2) {
			spoil(r, &a)
		}
		s := asScript(a)
		want := false
		if check.Check(s).Err == api.OK {
			b, f := compile.Of(parse.Print(s))
			want = f.Err == api.OK && reflect.DeepEqual(a, b)
		}
		if compile.Right(a) != want {
			t.Fatalf("%v: Right %v", a, !want)
		}
		if !want {
			notRight(t, "spoilt", a)
			continue
		}
		right++
		if b, f := compile.Of(compile.Text(a)); f.Err != api.OK || !reflect.DeepEqual(a, b) {
			t.Errorf("%v: its text %q tells %v, %v", a, compile.Text(a), b, f)
		}
	}
	if right < 500 {
		t.Errorf("only %d were right", right)
	}
}

// R3: what is handed in is not changed, what is told is new memory.
func TestNew(t *testing.T) {
	a := of(t, wholeText)
	compile.Right(a)
	compile.Text(a)
	if !reflect.DeepEqual(a, whole()) {
		t.Errorf("changed: %v", a)
	}
	for i := range a.Nodes {
		for k := range a.Nodes[i].Arms {
			a.Nodes[i].Arms[k] = arm(1, pattern.Quote("x"), 99)
		}
		a.Nodes[i] = send("z")
	}
	compiles(t, wholeText, whole())
}
