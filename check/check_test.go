package check_test

import (
	"fmt"
	"math/rand"
	"reflect"
	"slices"
	"strings"
	"testing"

	"dragoman/api"
	"dragoman/check"
	"dragoman/parse"
	"dragoman/pattern"
)

// program: the dialogue of a text with / for the byte 10.
func program(t *testing.T, text string) api.Script {
	t.Helper()
	s, f := parse.Program(strings.ReplaceAll(text, "/", "\n"))
	if f.Err != api.OK {
		t.Fatalf("%q: %v", text, f)
	}
	return s
}

func fault(e api.Errno, block, line, arm int) api.Fault {
	return api.Fault{Err: e, Block: block, Line: line, Arm: arm}
}

func faulty(t *testing.T, text string, want api.Fault) {
	t.Helper()
	if got := check.Check(program(t, text)); got != want {
		t.Errorf("Check(%s): %v, want %v", text, got, want)
	}
}

// rounds: Round of a text answers that block; none, if it is below 0.
func rounds(t *testing.T, text string, want int) {
	t.Helper()
	if got, ok := check.Round(program(t, text)); got != max(want, 0) || ok != (want >= 0) {
		t.Errorf("Round(%s): %d, %v; want %d", text, got, ok, want)
	}
}

func nine(op string) string {
	var l []string
	for i := range 9 {
		l = append(l, fmt.Sprintf(op, i))
	}
	return strings.Join(l, "/")
}

// The chapter's examples.
func TestExamples(t *testing.T) {
	faulty(t, "a:/inc n/if n < 3 goto b/exit 0/b:/goto a", fault(api.ErrRound, 0, -1, -1))
	faulty(t, "a:/expect {/timeout 3 goto a/}", api.Fault{})
	faulty(t, "a:/exit 0/a:/exit 0", fault(api.ErrTwice, 1, -1, -1))
	faulty(t, `a:/expect {/re "a*" goto b/}`, fault(api.ErrEmpty, 0, 0, 0))
	faulty(t, `a:/expect {/"a" goto b/}`, fault(api.ErrName, 0, 0, 0))
	faulty(t, "a:/"+nine("inc n%d")+"/exit 0", fault(api.ErrCounter, 0, 8, -1))
}

// notOnes are dialogues that may not be.
func notOnes(t *testing.T) []api.Script {
	t.Helper()
	twice := program(t, "a:/exit 0/a:/goto a")
	bad := program(t, "a:/inc n/inc m/goto a")
	bad.Blocks[0].Lines[0].Text = "x"
	long := api.Script{Blocks: slices.Repeat(twice.Blocks, 17)}
	open := program(t, "a:/inc n/goto a")
	open.Blocks[0].Lines = open.Blocks[0].Lines[:1]
	return []api.Script{{}, bad, long, open, {Blocks: make([]api.Block, 5)}}
}

// P14.1, P14.2, P14.3: what may not be has no counters and no way round.
func TestMayNot(t *testing.T) {
	for _, s := range notOnes(t) {
		if got := check.Check(s); got != fault(api.ErrArg, -1, -1, -1) {
			t.Errorf("Check(%v): %v", s, got)
		}
		if l := check.Counters(s); len(l) != 0 {
			t.Errorf("Counters(%v): %v", s, l)
		}
		if i, ok := check.Round(s); i != 0 || ok {
			t.Errorf("Round(%v): %d, %v", s, i, ok)
		}
	}
}

// P14.1: each counter once, in order; a wrong dialogue has them, too.
func TestCounters(t *testing.T) {
	for text, want := range map[string][]string{
		"a:/exit 0":       nil,
		"a:/inc n/exit 0": {"n"},
		"a:/if z < 1 goto a/set b 0/inc z/inc b/goto b/b:/inc a/set z 3/inc c/exit 0": {"z", "b", "a", "c"},
		"a:/send \"n\"/expect {/\"n\" goto n/timeout 1 goto m/}/a:/inc a/goto x":      {"a"},
		"a:/" + nine("set c%d 1") + "/exit 0":                                         {"c0", "c1", "c2", "c3", "c4", "c5", "c6", "c7", "c8"},
	} {
		if got := check.Counters(program(t, text)); !slices.Equal(got, want) {
			t.Errorf("Counters(%s): %v, want %v", text, got, want)
		}
	}
}

// P14.2: the first block on a way round, by ifs and gotos alone.
func TestRound(t *testing.T) {
	rounds(t, "a:/exit 0", -1)
	rounds(t, "a:/goto a", 0)
	rounds(t, "a:/if n < 1 goto a/exit 0", 0)
	rounds(t, "a:/goto b/b:/goto b", 1)
	rounds(t, "a:/goto b/b:/goto c/c:/goto b", 1)
	rounds(t, "a:/goto b/b:/goto c/c:/goto a", 0)
	rounds(t, "a:/if n < 1 goto b/if n < 1 goto c/exit 0/b:/goto d/c:/goto d/d:/exit 0", -1)
	rounds(t, "a:/goto b/b:/expect {/\"x\" goto a/timeout 1 goto a/}", -1)
	rounds(t, "a:/goto x/b:/goto a", -1)
	rounds(t, "x:/exit 0/a:/if n < 1 goto x/if n < 2 goto b/exit 1/b:/send \"y\"/inc n/goto c/c:/if n < 9 goto a/expect {/timeout 1 goto x/}", 1)
	// A name leads to its first block.
	rounds(t, "a:/goto b/b:/exit 0/b:/goto a", -1)
	rounds(t, "a:/exit 0/b:/goto a/a:/goto b", -1)
	rounds(t, "a:/goto b/b:/goto a/a:/exit 0", 0)
	rounds(t, "a:/exit 0/b:/goto b/b:/goto b", 1)
}

// P14.3: of several faults the first one.
func TestOrder(t *testing.T) {
	faulty(t, "a:/goto b/b:/goto a/a:/exit 0", fault(api.ErrTwice, 2, -1, -1))
	faulty(t, "a:/goto a/b:/goto x", fault(api.ErrName, 1, 0, -1))
	faulty(t, "a:/goto x/a:/exit 0", fault(api.ErrName, 0, 0, -1))
	faulty(t, "a:/exit 0/a:/goto x", fault(api.ErrTwice, 1, -1, -1))
	faulty(t, "a:/exit 0/b:/exit 0/c:/exit 0/b:/exit 0/a:/exit 0", fault(api.ErrTwice, 3, -1, -1))
	faulty(t, "a:/if n < 1 goto x/exit 0", fault(api.ErrName, 0, 0, -1))
	faulty(t, "a:/goto b/b:/if n < 1 goto c/inc n/goto a/c:/exit 0", fault(api.ErrRound, 0, -1, -1))
	most := strings.TrimSuffix(nine("inc n%d"), "/inc n8")
	faulty(t, "a:/"+most+"/exit 0", api.Fault{})
	faulty(t, "a:/"+most+"/if n3 < 1 goto b/exit 0/b:/set n7 1/exit 0", api.Fault{})
	faulty(t, "a:/"+most+"/goto b/b:/set n0 1/if m < 1 goto x/exit 0", fault(api.ErrCounter, 1, 1, -1))
	faulty(t, "a:/"+most+"/goto b/b:/set m 1/exit 0", fault(api.ErrCounter, 1, 0, -1))
	faulty(t, "a:/"+most+"/goto b/b:/if x < 1 goto y/inc m/exit 0", fault(api.ErrCounter, 1, 0, -1))
}

// P14.3: of an expect: arm by arm, the pattern ahead of the name; then its timeout.
func TestArms(t *testing.T) {
	faulty(t, `a:/inc n/expect {/"x" goto a/re "x*" goto y/"" goto z/timeout 5 goto z/}`, fault(api.ErrEmpty, 0, 1, 1))
	faulty(t, `a:/inc n/expect {/"x" goto a/re "x*y" goto y/"" goto z/timeout 5 goto z/}`, fault(api.ErrName, 0, 1, 1))
	faulty(t, `a:/inc n/expect {/"x" goto a/re "x*y" goto a/"" goto a/timeout 5 goto z/}`, fault(api.ErrEmpty, 0, 1, 2))
	faulty(t, `a:/inc n/expect {/"x" goto a/re "x*y" goto a/timeout 5 goto z/}`, fault(api.ErrName, 0, 1, -1))
	faulty(t, `a:/expect {/timeout 5 goto z/}`, fault(api.ErrName, 0, 0, -1))
	faulty(t, `a:/expect {/"x" goto b/timeout 5 goto c/}/b:/exit 0/c:/expect {/glob "**" goto a/}`, fault(api.ErrEmpty, 2, 0, 0))
	faulty(t, `a:/expect {/"x" goto b/timeout 5 goto c/}/b:/exit 0/c:/expect {/glob "*?" goto a/}`, api.Fault{})
}

// some: a dialogue of few names.
func some(r *rand.Rand) api.Script {
	names := []string{"a", "b", "c", "d", "e", "f"}[:2+r.Intn(5)]
	name := func() string { return names[r.Intn(len(names))] }
	counter := func() string { return string(rune('m' + r.Intn(1+r.Intn(10)))) }
	to := func() string {
		if r.Intn(40) == 0 {
			return "x"
		}
		return name()
	}
	var s api.Script
	for i := range 1 + r.Intn(len(names)) {
		b := api.Block{Name: names[i]}
		if r.Intn(40) == 0 {
			b.Name = name()
		}
		if r.Intn(10) == 0 {
			for k := range 8 {
				b.Lines = append(b.Lines, api.Line{Op: api.LineInc, Name: string(rune('n' + k))})
			}
		}
		for range r.Intn(4) {
			b.Lines = append(b.Lines, []api.Line{
				{Op: api.LineSend, Text: "s"}, {Op: api.LineSet, Name: counter(), N: 3}, {Op: api.LineInc, Name: counter()}, {Op: api.LineIf, Name: counter(), N: 2, To: to()},
			}[r.Intn(4)])
		}
		l := []api.Line{{Op: api.LineGoto, To: to()}, {Op: api.LineExit, N: 1}, {Op: api.LineExpect, Wait: 1, Late: to()}}[r.Intn(3)]
		if l.Op == api.LineExpect {
			for range r.Intn(3) {
				p := []string{"x", "x+", "x", "x+", "x", "x*"}[r.Intn(6)]
				l.Arms = append(l.Arms, api.Arm{Pattern: api.Pattern{Kind: api.PatRe, Text: p}, To: to()})
			}
		}
		b.Lines = append(b.Lines, l)
		s.Blocks = append(s.Blocks, b)
	}
	return s
}

// firstOf: the first block of a name; below 0: there is none.
func firstOf(s api.Script, name string) int {
	return slices.IndexFunc(s.Blocks, func(b api.Block) bool { return b.Name == name })
}

// roundOf: the first block of a way round, by all pairs of blocks.
func roundOf(s api.Script) int {
	n := len(s.Blocks)
	leads := make([][]bool, n)
	for i, b := range s.Blocks {
		leads[i] = make([]bool, n)
		for _, l := range b.Lines {
			if k := firstOf(s, l.To); k >= 0 {
				leads[i][k] = true
			}
		}
	}
	for by := range n {
		for from := range n {
			for to := range n {
				leads[from][to] = leads[from][to] || leads[from][by] && leads[by][to]
			}
		}
	}
	for i := range n {
		if leads[i][i] {
			return i
		}
	}
	return -1
}

// faultOf: what is wrong with a dialogue that may be, as the chapter says it.
func faultOf(s api.Script) api.Fault {
	var counters []string
	for i, b := range s.Blocks {
		if firstOf(s, b.Name) < i {
			return fault(api.ErrTwice, i, -1, -1)
		}
		for j, l := range b.Lines {
			if l.Name != "" && !slices.Contains(counters, l.Name) {
				counters = append(counters, l.Name)
			}
			if len(counters) > 8 {
				return fault(api.ErrCounter, i, j, -1)
			}
			for k, a := range l.Arms {
				if pattern.Empty(a.Pattern) {
					return fault(api.ErrEmpty, i, j, k)
				}
				if firstOf(s, a.To) < 0 {
					return fault(api.ErrName, i, j, k)
				}
			}
			for _, to := range []string{l.To, l.Late} {
				if to != "" && firstOf(s, to) < 0 {
					return fault(api.ErrName, i, j, -1)
				}
			}
		}
	}
	if i := roundOf(s); i >= 0 {
		return fault(api.ErrRound, i, -1, -1)
	}
	return api.Fault{}
}

// endsInTime: whether each way from a block on comes to an expect or an exit before it has been in so many blocks more.
func endsInTime(s api.Script, block, left int) bool {
	if left == 0 {
		return false
	}
	for _, l := range s.Blocks[block].Lines {
		if l.To != "" && !endsInTime(s, firstOf(s, l.To), left-1) {
			return false
		}
	}
	return true
}

// renamed: a dialogue with a letter more ahead of all names.
func renamed(s api.Script, blocks, counters string) api.Script {
	more := func(letter, name string) string {
		if name == "" {
			return ""
		}
		return letter + name
	}
	var n api.Script
	for _, b := range s.Blocks {
		c := api.Block{Name: more(blocks, b.Name)}
		for _, l := range b.Lines {
			l.Name, l.To, l.Late = more(counters, l.Name), more(blocks, l.To), more(blocks, l.Late)
			l.Arms = slices.Clone(l.Arms)
			for k := range l.Arms {
				l.Arms[k].To = more(blocks, l.Arms[k].To)
			}
			c.Lines = append(c.Lines, l)
		}
		n.Blocks = append(n.Blocks, c)
	}
	return n
}

// P14.2 to P14.5: many dialogues, held against the chapter; names and a block more at the end make no difference.
func TestMany(t *testing.T) {
	r := rand.New(rand.NewSource(14))
	told := map[api.Errno]int{}
	for range 8000 {
		s := some(r)
		before := renamed(s, "", "")
		want := faultOf(s)
		told[want.Err]++
		if got := check.Check(s); got != want {
			t.Fatalf("%s: %v, want %v", parse.Print(s), got, want)
		}
		if i, ok := check.Round(s); i != max(roundOf(s), 0) || ok != (roundOf(s) >= 0) {
			t.Errorf("%s: Round %d, %v", parse.Print(s), i, ok)
		}
		for i := range s.Blocks {
			if want.Err == api.OK && !endsInTime(s, i, len(s.Blocks)) {
				t.Errorf("%s: no end from the block %d on", parse.Print(s), i)
			}
		}
		other := renamed(s, "g", "z")
		if got := check.Check(other); got != want {
			t.Errorf("%s: renamed %v, want %v", parse.Print(s), got, want)
		}
		other.Blocks = append(other.Blocks, api.Block{Name: "last", Lines: []api.Line{{Op: api.LineExit}}})
		if got := check.Check(other); got != want {
			t.Errorf("%s: with a block more %v, want %v", parse.Print(s), got, want)
		}
		if !reflect.DeepEqual(s, before) {
			t.Fatalf("%v has become %v", before, s)
		}
	}
	for _, e := range []api.Errno{api.OK, api.ErrTwice, api.ErrName, api.ErrCounter, api.ErrEmpty, api.ErrRound} {
		if told[e] < 50 {
			t.Errorf("the error %d was told %d times", e, told[e])
		}
	}
}
