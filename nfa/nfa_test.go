package nfa_test

import (
	"math"
	"math/rand"
	"regexp"
	"strings"
	"sync"
	"testing"

	"dragoman/api"
	"dragoman/nfa"
	"dragoman/pattern"
)

func literal(s string) api.Pattern { return api.Pattern{Kind: api.PatLiteral, Text: s} }
func glob(s string) api.Pattern    { return api.Pattern{Kind: api.PatGlob, Text: s} }
func regular(s string) api.Pattern { return api.Pattern{Kind: api.PatRe, Text: s} }

func of(t *testing.T, p api.Pattern) *nfa.Net {
	t.Helper()
	n, e := nfa.Of(p)
	if n == nil || e != api.OK {
		t.Fatalf("Of(%v): %v, %d", p, n, e)
	}
	return n
}

// fits: whether a pattern fits these texts, by Match and by a way.
func fits(t *testing.T, p api.Pattern, want bool, texts ...string) {
	t.Helper()
	n := of(t, p)
	for _, s := range texts {
		r := through(n, s)
		if got := n.Match(s); got != want || r.Done() != want || want && r.Dead() {
			t.Errorf("%d %q and %q: Match %v, Done %v, Dead %v; want %v", p.Kind, p.Text, s, got, r.Done(), r.Dead(), want)
		}
	}
}

// through: a way that was handed a text.
func through(n *nfa.Net, s string) *nfa.Run {
	r := n.Begin()
	for i := range len(s) {
		r.Step(s[i])
	}
	return r
}

func stands(t *testing.T, what string, r *nfa.Run, done, dead bool) {
	t.Helper()
	if r.Done() != done || r.Dead() != dead {
		t.Errorf("%s: Done %v, Dead %v; want %v, %v", what, r.Done(), r.Dead(), done, dead)
	}
}

// The chapter's examples.
func TestExamples(t *testing.T) {
	for _, p := range []api.Pattern{regular("("), {Kind: 4}} {
		if n, e := nfa.Of(p); n != nil || e != api.ErrArg {
			t.Errorf("Of(%v): %v, %d", p, n, e)
		}
	}
	fits(t, regular("a+b"), true, "aab", "ab")
	fits(t, regular("a+b"), false, "b", "abb")
	n := of(t, regular("a+b"))
	stands(t, "at once", through(n, ""), false, false)
	stands(t, "behind a", through(n, "a"), false, false)
	stands(t, "behind ab", through(n, "ab"), true, false)
	stands(t, "behind b", through(n, "b"), false, true)
	n = of(t, regular("a"))
	stands(t, "a behind a", through(n, "a"), true, false)
	stands(t, "a behind aa", through(n, "aa"), false, true)
	fits(t, regular("[^\x00-\xff]|a"), true, "a")
	fits(t, regular("[^\x00-\xff]|a"), false, "b")
}

// P10.1: what pattern.Tree refuses.
func TestOfRefused(t *testing.T) {
	long := strings.Repeat("a", api.MaxPattern+1)
	for _, p := range []api.Pattern{{}, {Kind: -1, Text: "a"}, {Kind: math.MaxInt}, literal(long), glob(long), regular(long), glob(`\`), regular("*"), regular("[b-a]"), regular("(a")} {
		if n, e := nfa.Of(p); n != nil || e != api.ErrArg {
			t.Errorf("Of(%v): %v, %d", p, n, e)
		}
	}
}

// fitsTree: the ends of what a tree fits from a place of a text on, as the chapter says it.
func fitsTree(n api.Node, s string, from int) map[int]bool {
	ends := map[int]bool{}
	switch n.Op {
	case api.NodeEmpty:
		ends[from] = true
	case api.NodeSet:
		if from < len(s) && n.Set[s[from]/64]>>(s[from]%64)&1 == 1 {
			ends[from+1] = true
		}
	case api.NodeCat:
		ends[from] = true
		for _, kid := range n.Kids {
			next := map[int]bool{}
			for at := range ends {
				for end := range fitsTree(kid, s, at) {
					next[end] = true
				}
			}
			ends = next
		}
	case api.NodeAlt:
		for _, kid := range n.Kids {
			for end := range fitsTree(kid, s, from) {
				ends[end] = true
			}
		}
	case api.NodeOpt:
		ends = fitsTree(n.Kids[0], s, from)
		ends[from] = true
	case api.NodeStar, api.NodePlus:
		reached := []int{from}
		if n.Op == api.NodeStar {
			ends[from] = true
		}
		for seen := map[int]bool{from: true}; len(reached) > 0; reached = reached[1:] {
			for end := range fitsTree(n.Kids[0], s, reached[0]) {
				ends[end] = true
				if !seen[end] {
					seen[end] = true
					reached = append(reached, end)
				}
			}
		}
	}
	return ends
}

func fitsText(t *testing.T, p api.Pattern, s string) bool {
	t.Helper()
	tree, f := pattern.Tree(p)
	if f.Err != api.OK {
		t.Fatalf("Tree(%v): %v", p, f)
	}
	return fitsTree(tree, s, 0)[len(s)]
}

// texts: all texts of these letters, of at most so many bytes.
func texts(letters string, most int) []string {
	l := []string{""}
	for from, n := 0, 0; n < most; n++ {
		end := len(l)
		for _, s := range l[from:end] {
			for i := range len(letters) {
				l = append(l, s+letters[i:i+1])
			}
		}
		from = end
	}
	return l
}

// somePattern: a pattern that needs few bytes.
func somePattern(r *rand.Rand) api.Pattern {
	switch r.Intn(8) {
	case 0:
		return literal([]string{"", "a", "ab", "aab", "bx"}[r.Intn(5)])
	case 1:
		return glob([]string{"", "*", "?", "a*", "*b", "a*b", "*a?", "?*?", `\a*`, "a*b*a"}[r.Intn(10)])
	}
	return regular(someRegular(r, r.Intn(3)))
}

func someRegular(r *rand.Rand, depth int) string {
	if depth == 0 {
		return []string{"", "a", "b", ".", "[ab]", "[^b]", "[^\x00-\xff]", "a*", "ab", "x?"}[r.Intn(10)]
	}
	x, y := someRegular(r, depth-1), someRegular(r, depth-1)
	return []string{x, "(" + x + ")*", "(" + x + ")+", "(" + x + ")(" + y + ")", "(" + x + "|" + y + ")", "(" + x + ")?" + y, x + "b" + y}[r.Intn(7)]
}

// P10.1 to P10.4: of all short texts, a way that is dead is one with which no text begins that the pattern fits.
func TestFits(t *testing.T) {
	r := rand.New(rand.NewSource(10))
	all := texts("abx", 7)
	for range 150 {
		p := somePattern(r)
		n := of(t, p)
		goesOn := map[string]bool{}
		for _, s := range all {
			if fitsText(t, p, s) {
				for at := range len(s) + 1 {
					goesOn[s[:at]] = true
				}
				fits(t, p, true, s)
			} else if n.Match(s) || through(n, s).Done() {
				t.Errorf("%d %q fits %q", p.Kind, p.Text, s)
			}
		}
		// None of these patterns needs more than four bytes to go on.
		for _, s := range texts("abx", 3) {
			if w := through(n, s); w.Dead() == goesOn[s] {
				t.Errorf("%d %q behind %q: Dead %v", p.Kind, p.Text, s, w.Dead())
			}
		}
	}
}

// P10.1: what regular patterns fit, held against the library's.
func TestRegular(t *testing.T) {
	r := rand.New(rand.NewSource(11))
	all := texts("abx\n", 5)
	for range 300 {
		text := strings.ReplaceAll(someRegular(r, 2), "[^\x00-\xff]", "[^\x00-\x7f]")
		library := regexp.MustCompile("(?s)^(?:" + text + ")$")
		n := of(t, regular(text))
		for _, s := range all {
			if got, want := n.Match(s), library.MatchString(s); got != want {
				t.Errorf("%q and %q: %v, want %v", text, s, got, want)
			}
		}
	}
}

// P10.1: all bytes are bytes.
func TestBytes(t *testing.T) {
	odd, all := of(t, regular("[\x3f-\x40\x7f-\x80\xff\x00]")), of(t, glob("?"))
	for c := range 256 {
		s := string([]byte{byte(c)})
		if got := odd.Match(s); got != strings.Contains("\x3f\x40\x7f\x80\xff\x00", s) {
			t.Errorf("the set and %q: %v", s, got)
		}
		if !all.Match(s) || all.Match(s+s) {
			t.Errorf("? and %q", s)
		}
		fits(t, literal(s), true, s)
		fits(t, literal(s), false, "", s+s, string([]byte{byte(c + 1)}))
	}
}

// P10.2: copies go on by themselves.
func TestCopy(t *testing.T) {
	n := of(t, regular("a(b|c)d"))
	for _, begin := range []string{"", "a", "ab", "abd", "x"} {
		for _, more := range texts("abcd", 3) {
			r := through(n, begin)
			c := r.Copy()
			for i := range len(more) {
				r.Step(more[i])
			}
			was, want := through(n, begin), through(n, begin+more)
			stands(t, "the copy behind "+begin, c, was.Done(), was.Dead())
			stands(t, "behind "+begin+more, r, want.Done(), want.Dead())
			for i := range len(more) {
				c.Step(more[i])
			}
			stands(t, "the copy behind "+begin+more, c, want.Done(), want.Dead())
		}
	}
}

// P10.2: of what is none nothing is told.
func TestNone(t *testing.T) {
	var n *nfa.Net
	var r *nfa.Run
	if n.Match("") || n.Match("a") || n.Begin() != nil || r.Copy() != nil {
		t.Error("of no net, of no way")
	}
	r.Step('a')
	stands(t, "no way", r, false, true)
}

// P10.3: dead at once; places that lead to no end; dead for good.
func TestDead(t *testing.T) {
	no := "[^\x00-\xff]"
	for _, s := range []string{no, "a" + no, "a*" + no, "(a|b)+" + no + "?" + no, no + "|b" + no} {
		stands(t, s, through(of(t, regular(s)), ""), false, true)
		stands(t, s, through(of(t, regular(s)), "a"), false, true)
	}
	stands(t, "nothing or none", through(of(t, regular(no+"?")), ""), true, false)
	stands(t, "b then none, or ac", through(of(t, regular("b"+no+"|ac")), "b"), false, true)
	stands(t, "a then none, or ac", through(of(t, regular("a"+no+"|ac")), "a"), false, false)
	r := of(t, literal("")).Begin()
	stands(t, "the text of no byte", r, true, false)
	r.Step('a')
	for _, c := range "ab\x00" {
		stands(t, "behind the text of no byte", r, false, true)
		r.Step(byte(c))
	}
}

// P10.5: what patterns fit that are put together.
func TestTogether(t *testing.T) {
	r := rand.New(rand.NewSource(12))
	all := texts("abx", 4)
	for range 60 {
		a, b := someRegular(r, 1), someRegular(r, 1)
		x, y := of(t, regular(a)), of(t, regular(b))
		cat, alt := of(t, regular("("+a+")("+b+")")), of(t, regular("("+a+")|("+b+")"))
		opt, star, plus := of(t, regular("("+a+")?")), of(t, regular("("+a+")*")), of(t, regular("("+a+")+"))
		for _, s := range all {
			both, many := false, s == ""
			for at := range len(s) + 1 {
				both = both || x.Match(s[:at]) && y.Match(s[at:])
				many = many || at > 0 && x.Match(s[:at]) && star.Match(s[at:])
			}
			if cat.Match(s) != both || alt.Match(s) != (x.Match(s) || y.Match(s)) || opt.Match(s) != (s == "" || x.Match(s)) {
				t.Errorf("%q, %q and %q: %v, %v, %v", a, b, s, cat.Match(s), alt.Match(s), opt.Match(s))
			}
			if star.Match(s) != many || plus.Match(s) != (s != "" && many || x.Match(s)) {
				t.Errorf("%q and %q: %v, %v", a, s, star.Match(s), plus.Match(s))
			}
		}
	}
	for _, s := range all {
		fits(t, literal(s), true, s)
		fits(t, glob("*"), true, s, strings.Repeat(s, 1000))
		fits(t, glob("?"), len(s) == 1, s)
	}
}

// A tree has 64 sets at most, all of which count.
func TestMost(t *testing.T) {
	n := api.MaxPattern
	long := strings.Repeat("ab", n/2)
	for _, p := range []api.Pattern{literal(long), glob(long), regular(long)} {
		fits(t, p, true, long)
		fits(t, p, false, long[:n-1], long+"a", long[:n-1]+"c", "b"+long[1:])
	}
	fits(t, glob(strings.Repeat("?", n)), true, long)
	fits(t, glob(strings.Repeat("?", n)), false, long[1:], long+"a")
	fits(t, glob(strings.Repeat("*", n-1)+"b"), true, "b", long, strings.Repeat("a", 5000)+"b")
	fits(t, regular(strings.Repeat(".", n-1)+"+"), true, long[:n-1], long, long+long)
	fits(t, regular(strings.Repeat("a?", n/2)), true, "", strings.Repeat("a", n/2))
	fits(t, regular(strings.Repeat("a?", n/2)), false, strings.Repeat("a", n/2+1))
}

// P10.1: a net may be used by many at one time.
func TestMany(t *testing.T) {
	n := of(t, regular("(a|b)*b(a|b)"))
	var group sync.WaitGroup
	for range 8 {
		group.Go(func() {
			for _, s := range texts("ab", 8) {
				want := len(s) > 1 && s[len(s)-2] == 'b'
				if n.Match(s) != want || through(n, s).Done() != want {
					t.Errorf("%q", s)
				}
			}
		})
	}
	group.Wait()
}
