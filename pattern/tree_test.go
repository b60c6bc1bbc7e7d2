package pattern_test

import (
	"math"
	"math/rand"
	"reflect"
	"strings"
	"testing"

	"dragoman/api"
	"dragoman/pattern"
)

func literal(s string) api.Pattern { return api.Pattern{Kind: api.PatLiteral, Text: s} }
func glob(s string) api.Pattern    { return api.Pattern{Kind: api.PatGlob, Text: s} }
func regular(s string) api.Pattern { return api.Pattern{Kind: api.PatRe, Text: s} }

// set: the node of the bytes of a text.
func set(s string) api.Node {
	n := api.Node{Op: api.NodeSet}
	for i := range len(s) {
		n.Set[s[i]/64] |= 1 << (s[i] % 64)
	}
	return n
}

// but: the node of all bytes but those of a text.
func but(s string) api.Node {
	n := set(s)
	for i := range n.Set {
		n.Set[i] = ^n.Set[i]
	}
	return n
}

func nothing() api.Node                { return api.Node{Op: api.NodeEmpty} }
func cat(l ...api.Node) api.Node       { return api.Node{Op: api.NodeCat, Kids: l} }
func alt(l ...api.Node) api.Node       { return api.Node{Op: api.NodeAlt, Kids: l} }
func over(op int, n api.Node) api.Node { return api.Node{Op: op, Kids: []api.Node{n}} }
func star(n api.Node) api.Node         { return over(api.NodeStar, n) }
func plus(n api.Node) api.Node         { return over(api.NodePlus, n) }
func opt(n api.Node) api.Node          { return over(api.NodeOpt, n) }

// bytes: the nodes of a text's bytes, one behind the other.
func bytes(s string) api.Node {
	if s == "" {
		return nothing()
	}
	if len(s) == 1 {
		return set(s)
	}
	n := cat()
	for i := range len(s) {
		n.Kids = append(n.Kids, set(s[i:i+1]))
	}
	return n
}

func isTree(t *testing.T, p api.Pattern, want api.Node) {
	t.Helper()
	if n, f := pattern.Tree(p); f != (api.Spot{}) || !reflect.DeepEqual(n, want) {
		t.Errorf("Tree(%d %q): %v, %v; want %v", p.Kind, p.Text, n, f, want)
	}
}

func noTree(t *testing.T, p api.Pattern, want api.Spot) {
	t.Helper()
	if n, f := pattern.Tree(p); f != want || !reflect.DeepEqual(n, api.Node{}) {
		t.Errorf("Tree(%d %q): %v, %v; want %v", p.Kind, p.Text, n, f, want)
	}
	if pattern.Print(p) != "" || pattern.Empty(p) {
		t.Errorf("%d %q: Print %q, Empty %v of what Tree refuses", p.Kind, p.Text, pattern.Print(p), pattern.Empty(p))
	}
}

// The chapter's examples of trees.
func TestTreeExamples(t *testing.T) {
	isTree(t, glob("a*"), cat(set("a"), star(but(""))))
	noTree(t, glob(`a\`), spot(api.ErrText, 2))
	isTree(t, regular("a|b+"), alt(set("a"), plus(set("b"))))
	noTree(t, regular("a**"), spot(api.ErrText, 2))
	noTree(t, regular("(a"), spot(api.ErrText, 2))
	noTree(t, regular(")"), spot(api.ErrText, 0))
	noTree(t, regular("[b-a]"), spot(api.ErrText, 3))
	noTree(t, regular("[]"), spot(api.ErrText, 1))
	isTree(t, regular(""), nothing())
}

// P9.2: literals are their bytes.
func TestLiteral(t *testing.T) {
	for _, s := range samples() {
		if len(s) <= api.MaxPattern {
			isTree(t, literal(s), bytes(s))
		}
	}
	isTree(t, literal(`a*?\`), bytes(`a*?\`))
}

// P9.2: globs, part by part.
func TestGlob(t *testing.T) {
	any := but("")
	isTree(t, glob(""), nothing())
	isTree(t, glob("?"), any)
	isTree(t, glob("*"), star(any))
	isTree(t, glob("**"), cat(star(any), star(any)))
	isTree(t, glob("?*a"), cat(any, star(any), set("a")))
	isTree(t, glob(`\*\?\\\a\n`), bytes(`*?\an`))
	isTree(t, glob("[a]|(.)+"), bytes("[a]|(.)+"))
	isTree(t, glob("\x00\xff\\\xff"), bytes("\x00\xff\xff"))
	noTree(t, glob(`\`), spot(api.ErrText, 1))
	noTree(t, glob(`*\\\`), spot(api.ErrText, 4))
}

// P9.2: regular patterns.
func TestRegular(t *testing.T) {
	a, b, c, any := set("a"), set("b"), set("c"), but("")
	for text, want := range map[string]api.Node{
		"a":               a,
		".":               any,
		"abc":             cat(a, b, c),
		"a*b+c?":          cat(star(a), plus(b), opt(c)),
		"(a)":             a,
		"()":              nothing(),
		"(())":            nothing(),
		"()*":             star(nothing()),
		"((a)*)*":         star(star(a)),
		"(a*)+":           plus(star(a)),
		"(ab)c":           cat(cat(a, b), c),
		"a(bc)":           cat(a, cat(b, c)),
		"(a|b)|c":         alt(alt(a, b), c),
		"a|b|c":           alt(a, b, c),
		"a|bc*":           alt(a, cat(b, star(c))),
		"|":               alt(nothing(), nothing()),
		"|a|":             alt(nothing(), a, nothing()),
		"(|a)":            alt(nothing(), a),
		"()a()":           cat(nothing(), a, nothing()),
		"(a|b)?c":         cat(opt(alt(a, b)), c),
		`\*\.\(\)\|\[\]`:  bytes("*.()|[]"),
		`\a\n\\+`:         cat(a, set("n"), plus(set(`\`))),
		"a-b^{2}":         bytes("a-b^{2}"),
		"[a]":             a,
		"[abca]":          set("abc"),
		"[a-c]*":          star(set("abc")),
		"[a-a]":           a,
		"[a-bc]":          set("abc"),
		"[a-b0-2]":        set("ab012"),
		"[^a]":            but("a"),
		"[^a-c0]":         but("abc0"),
		`[\]\[\^\-\\]`:    set(`][^-\`),
		`[\a-\c]`:         set("abc"),
		`[+-\-]`:          set("+,-"),
		"[.*+?|()\"]":     set(".*+?|()\""),
		"[\x00-\xff]":     any,
		"[^\x00-\xff]":    set(""),
		"[\x3e-\x41\xbf]": set(">?@A\xbf"),
		"\x00\xff":        bytes("\x00\xff"),
	} {
		isTree(t, regular(text), want)
	}
}

// P9.2: where a regular pattern goes wrong.
func TestRegularWrong(t *testing.T) {
	for text, at := range map[string]int{
		"*": 0, "+": 0, "?": 0, "]": 0, "[": 1, "(": 1, `\`: 1, "a)": 1, "a]": 1,
		"a*+": 2, "a??": 2, "a+*b": 2, "(*)": 1, "(a)**": 4, "a|*": 2, "(|+)": 2, "(a))": 3, "((a)": 4, "(a|": 3,
		"[^]": 2, "[^^]": 2, "[a^]": 2, "[-a]": 1, "[a-]": 3, "[a-b-c]": 4, "[[]": 1, "[a[]": 2, "[a": 2, "[a-": 3, "[a-b": 4, `[\`: 2, `[a\]`: 4, `[a-\`: 4,
		`[b-\a]`: 4, "[\xff-\xfe]": 3, "[a--]": 3, "[a-[]": 3, "[^b-a]": 4, `ab\`: 3, `(\)`: 3,
	} {
		noTree(t, regular(text), spot(api.ErrText, at))
	}
}

// closers are texts one of which goes on with each regular pattern that is not wrong so far.
func closers() []string {
	var l []string
	for _, begin := range []string{"", "a", "]", "a]", "\xff]", "\\\xff]"} {
		for n := range 6 {
			l = append(l, begin+strings.Repeat(")", n))
		}
	}
	return l
}

// P9.2: of all short regular patterns: a text that is wrong at a place goes on rightly ahead of it, and not with the byte there.
func TestRegularPlace(t *testing.T) {
	ends := closers()
	right := func(s string) bool {
		_, f := pattern.Tree(regular(s))
		return f.Err == api.OK
	}
	mayGoOn := func(s string) bool {
		for _, end := range ends {
			if right(s + end) {
				return true
			}
		}
		return false
	}
	var try func(s string, left int)
	try = func(s string, left int) {
		_, f := pattern.Tree(regular(s))
		if f.Err != api.OK {
			if f.Err != api.ErrText || f.At > len(s) || !mayGoOn(s[:f.At]) || f.At < len(s) && mayGoOn(s[:f.At+1]) {
				t.Errorf("%q: %v", s, f)
			}
			if f.At < len(s) {
				return
			}
		}
		if left > 0 {
			for _, c := range "ab()|*+[]^-\\" {
				try(s+string(c), left-1)
			}
		}
	}
	try("", 5)
}

// P9.2: kinds that are none, and MaxPattern bytes.
func TestTreeRefused(t *testing.T) {
	long := strings.Repeat("a", api.MaxPattern)
	for _, kind := range []int{0, 4, -1, math.MinInt, math.MaxInt, 257} {
		for _, s := range []string{"", "a", "*", long + "a"} {
			noTree(t, api.Pattern{Kind: kind, Text: s}, spot(api.ErrArg, 0))
		}
	}
	for _, p := range []func(string) api.Pattern{literal, glob, regular} {
		isTree(t, p(long), bytes(long))
		noTree(t, p(long+"a"), spot(api.ErrLong, api.MaxPattern))
		noTree(t, p(strings.Repeat(`\`, api.MaxPattern+1)), spot(api.ErrLong, api.MaxPattern))
		noTree(t, p(strings.Repeat("(", 1<<20)), spot(api.ErrLong, api.MaxPattern))
	}
	noTree(t, regular(strings.Repeat("(", api.MaxPattern)), spot(api.ErrText, api.MaxPattern))
	isTree(t, regular(strings.Repeat("(", 31)+"ab"+strings.Repeat(")", 31)), bytes("ab"))
}

// P9.4: what may be of no byte.
func TestEmpty(t *testing.T) {
	for text, want := range map[string]bool{
		"": true, "a": false, "a*": true, "a?": true, "a+": false, "(a*)+": true, "()+": true, "(a|b*)+": true,
		"a*b*": true, "a*b": false, "a?b": false, "ab*": false, "a|b": false, "a|b*": true, "|a": true, "(|a)b": false,
		"(a*|b)(c?|d)": true, "[^\x00-\xff]": false, "[^\x00-\xff]*": true, "a|b|c|": true, "(a*b)?": true, "(a)": false,
	} {
		if got := pattern.Empty(regular(text)); got != want {
			t.Errorf("Empty of the regular %q: %v", text, got)
		}
	}
	for text, want := range map[string]bool{"": true, "*": true, "**": true, "?": false, "*a": false, `\*`: false} {
		if got := pattern.Empty(glob(text)); got != want {
			t.Errorf("Empty of the glob %q: %v", text, got)
		}
	}
	if !pattern.Empty(literal("")) || pattern.Empty(literal("*")) {
		t.Error("Empty of literals")
	}
	if pattern.Empty(regular("(")) || pattern.Empty(api.Pattern{}) || pattern.Empty(literal(strings.Repeat("a", 65))) {
		t.Error("Empty of what Tree refuses")
	}
}

// P9.6: with a \ ahead of each byte all kinds are one; without signs globs are literals.
func TestKindsAgree(t *testing.T) {
	for _, s := range samples() {
		if len(s) > api.MaxPattern {
			continue
		}
		tree, _ := pattern.Tree(literal(s))
		var b strings.Builder
		for i := range len(s) {
			b.WriteString(`\` + s[i:i+1])
		}
		if b.Len() <= api.MaxPattern {
			isTree(t, glob(b.String()), tree)
			isTree(t, regular(b.String()), tree)
		}
		if !strings.ContainsAny(s, `*?\`) {
			isTree(t, glob(s), tree)
		}
	}
}

// someRegular: a regular pattern of few bytes.
func someRegular(r *rand.Rand, depth int) string {
	if depth == 0 {
		return []string{"", "a", "b", ".", "[a-c]", "[^b]", `\*`}[r.Intn(7)]
	}
	x, y := someRegular(r, depth-1), someRegular(r, depth-1)
	return []string{x, "(" + x + ")*", "(" + x + ")+", x + y, x + "|" + y, "(" + x + ")?" + y}[r.Intn(6)]
}

// P9.7: how trees are put together.
func TestTogether(t *testing.T) {
	r := rand.New(rand.NewSource(97))
	for range 3000 {
		a, b := someRegular(r, r.Intn(3)), someRegular(r, r.Intn(3))
		if len(a)+len(b) > api.MaxPattern-5 {
			continue
		}
		x, f := pattern.Tree(regular(a))
		y, g := pattern.Tree(regular(b))
		if f.Err != api.OK || g.Err != api.OK {
			t.Fatalf("%q: %v; %q: %v", a, f, b, g)
		}
		isTree(t, regular("("+a+")"), x)
		isTree(t, regular("("+a+")*"), star(x))
		isTree(t, regular("("+a+")+"), plus(x))
		isTree(t, regular("("+a+")?"), opt(x))
		isTree(t, regular("("+a+")("+b+")"), cat(x, y))
		isTree(t, regular("("+a+")|("+b+")"), alt(x, y))
	}
}

// R3: what is answered is new memory, the room behind a list's end too.
func TestTreeNew(t *testing.T) {
	p := regular("(abc|d|e)*f|g")
	n, _ := pattern.Tree(p)
	want, _ := pattern.Tree(p)
	var spoil func(n *api.Node)
	spoil = func(n *api.Node) {
		l := n.Kids[:cap(n.Kids)]
		for i := range l {
			if i < len(n.Kids) {
				spoil(&l[i])
			}
			l[i] = api.Node{Op: -1}
		}
	}
	spoil(&n)
	isTree(t, p, want)
}
