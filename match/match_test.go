package match_test

import (
	"math/rand"
	"slices"
	"strings"
	"testing"

	"dragoman/api"
	"dragoman/match"
	"dragoman/nfa"
)

func literal(s string) api.Pattern { return api.Pattern{Kind: api.PatLiteral, Text: s} }
func glob(s string) api.Pattern    { return api.Pattern{Kind: api.PatGlob, Text: s} }
func regular(s string) api.Pattern { return api.Pattern{Kind: api.PatRe, Text: s} }

func list(l ...api.Pattern) []api.Pattern { return l }

func hit(arm, from, to int) api.Hit { return api.Hit{Arm: arm, From: from, To: to} }

func first(t *testing.T, l []api.Pattern, s string, want api.Hit, found bool) {
	t.Helper()
	if got, ok := match.First(l, s); got != want || ok != found {
		t.Errorf("First(%v, %q): %v, %v; want %v, %v", l, s, got, ok, want, found)
	}
}

func matcher(t *testing.T, l []api.Pattern) *match.Matcher {
	t.Helper()
	m, e := match.New(l)
	if m == nil || e != api.OK {
		t.Fatalf("New(%v): %v, %d", l, m, e)
	}
	return m
}

func feeds(t *testing.T, m *match.Matcher, s string, n int, want api.Hit, found bool, buffer string) {
	t.Helper()
	if got, h, ok := m.Feed(s); got != n || h != want || ok != found {
		t.Errorf("Feed(%q): %d, %v, %v; want %d, %v, %v", s, got, h, ok, n, want, found)
	}
	if got := m.Buffer(); got != buffer {
		t.Errorf("behind Feed(%q): Buffer %q, want %q", s, got, buffer)
	}
}

// The chapter's examples.
func TestExamples(t *testing.T) {
	none := api.Hit{}
	l := list(literal("b"), regular("a+"))
	first(t, l, "xab", hit(1, 1, 2), true)
	first(t, l, "xb", hit(0, 1, 2), true)
	first(t, l, "x", none, false)
	first(t, list(regular("a*")), "a", none, false)
	first(t, list(literal("ab"), literal("b")), "xab", hit(0, 1, 3), true)
	first(t, list(glob("a?"), literal("aab")), "aaab", hit(0, 0, 2), true)
	m := matcher(t, l)
	feeds(t, m, "xab", 2, hit(1, 1, 2), true, "")
	feeds(t, m, "b", 1, hit(0, 0, 1), true, "")
	feeds(t, m, "xx", 2, none, false, "xx")
	for _, no := range [][]api.Pattern{nil, slices.Repeat(l, 5)[:9], list(glob("*"))} {
		if m, e := match.New(no); m != nil || e != api.ErrArg {
			t.Errorf("New of %d: %v, %d", len(no), m, e)
		}
	}
	text := strings.Repeat("a", 44) + strings.Repeat("b", 256)
	if got := match.Keep(text); got != text[44:] {
		t.Errorf("Keep of 300 bytes: %d", len(got))
	}
	z := list(glob("a*z"))
	feeds(t, matcher(t, z), "a"+strings.Repeat("x", 254)+"z", 256, hit(0, 0, 256), true, "")
	feeds(t, matcher(t, z), "a"+strings.Repeat("x", 255)+"z", 257, none, false, strings.Repeat("x", 255)+"z")
}

// noLists may not be looked for.
func noLists() [][]api.Pattern {
	a := literal("a")
	long := strings.Repeat("a", api.MaxPattern+1)
	return [][]api.Pattern{
		nil, {}, slices.Repeat(list(a), api.MaxArms+1), slices.Repeat(list(a), 1000), {literal("")}, {a, glob("**")}, {a, regular("a*|b")}, {a, {}}, {{Kind: 4, Text: "a"}}, {{Kind: -1, Text: "a"}},
		{regular("a"), regular("(")}, {glob(`\`), a}, {literal(long)}, {a, a, a, a, a, a, a, regular("")},
	}
}

// P11.1, P11.3: which lists may be looked for.
func TestLists(t *testing.T) {
	for _, l := range noLists() {
		if m, e := match.New(l); m != nil || e != api.ErrArg {
			t.Errorf("New(%v): %v, %d", l, m, e)
		}
		first(t, l, "aab", api.Hit{}, false)
	}
	most := list(literal("1"), literal("2"), literal("3"), literal("4"), literal("5"), literal("6"), literal("7"), literal("8"))
	first(t, most, "xx8", hit(7, 2, 3), true)
	feeds(t, matcher(t, most), "xx87", 3, hit(7, 2, 3), true, "")
	// One that fits no text at all may be looked for.
	never := list(regular("[^\x00-\xff]"), literal("b"))
	first(t, never, "ab", hit(1, 1, 2), true)
	feeds(t, matcher(t, never), "ab", 2, hit(1, 1, 2), true, "")
}

// firstOf: the first match, as the chapter says it.
func firstOf(t *testing.T, l []api.Pattern, s string) (api.Hit, bool) {
	t.Helper()
	var nets []*nfa.Net
	for _, p := range l {
		n, e := nfa.Of(p)
		if e != api.OK {
			t.Fatalf("Of(%v): %d", p, e)
		}
		nets = append(nets, n)
	}
	for to := range len(s) + 1 {
		for arm, n := range nets {
			for from := range to + 1 {
				if n.Match(s[from:to]) {
					return hit(arm, from, to), true
				}
			}
		}
	}
	return api.Hit{}, false
}

// somePattern: one that is of a byte at least.
func somePattern(r *rand.Rand) api.Pattern {
	return []api.Pattern{
		literal("a"), literal("ab"), literal("aab"), literal("bab"), literal("abcab"), glob("a?"), glob("a*b"), glob("?*c"), glob("b??a"), glob("c*c"),
		regular("a+"), regular("(ab)+"), regular("a(b|c)*c"), regular("[^a]b"), regular("c.*a"), regular("(a|ab)(c|bcd)"), regular("a?b"), regular("x|abc"), regular("(a+b)+c"), regular("[^\x00-\xff]"),
	}[r.Intn(20)]
}

func someList(r *rand.Rand) []api.Pattern {
	var l []api.Pattern
	for range 1 + r.Intn(3) {
		l = append(l, somePattern(r))
	}
	return l
}

func someText(r *rand.Rand, letters string, most int) string {
	b := make([]byte, r.Intn(most+1))
	for i := range b {
		b[i] = letters[r.Intn(len(letters))]
	}
	return string(b)
}

// P11.1, P11.4: the least end, of these the least arm, of these the least beginning; what stands behind makes no difference.
func TestFirst(t *testing.T) {
	r := rand.New(rand.NewSource(11))
	for range 4000 {
		l := someList(r)
		s := someText(r, "abcx", 10)
		want, found := firstOf(t, l, s)
		first(t, l, s, want, found)
		if !found {
			continue
		}
		first(t, l, s[:want.To], want, true)
		first(t, l, s[:want.To-1], api.Hit{}, false)
		first(t, l, s[:want.To]+someText(r, "abcx", 10), want, true)
	}
	first(t, list(literal("b"), literal("ab"), regular("a*b")), "aab", hit(0, 2, 3), true)
	first(t, list(literal("ab"), literal("b"), regular("a*b")), "aab", hit(0, 1, 3), true)
	first(t, list(regular("a*b"), literal("b")), "caab", hit(0, 1, 4), true)
	first(t, list(literal("abc"), literal("b")), "abc", hit(1, 1, 2), true)
}

// P11.1: of any text, whatever bytes it has and however many.
func TestFirstLong(t *testing.T) {
	long := strings.Repeat("x", 100000)
	first(t, list(literal("b"), regular("a+")), long, api.Hit{}, false)
	first(t, list(literal("b"), regular("a+")), long+"ab", hit(1, 100000, 100001), true)
	first(t, list(glob("a*z")), "a"+long+"az", hit(0, 0, 100003), true)
	first(t, list(literal("\xff\x00")), "\xff\xff\x00", hit(0, 1, 3), true)
	first(t, list(regular("[\x80-\xff]+a")), "é\xffa", hit(0, 0, 4), true)
	first(t, list(literal("a")), "", api.Hit{}, false)
}

// P11.2: the last MaxBuffer bytes.
func TestKeep(t *testing.T) {
	var b strings.Builder
	for i := range 3 * api.MaxBuffer {
		b.WriteByte(byte(i / 3))
	}
	for n := range b.Len() + 1 {
		s := b.String()[:n]
		if got := match.Keep(s); got != s[max(0, n-256):] {
			t.Errorf("Keep of %d bytes: %d", n, len(got))
		}
	}
}

// feedOf: what Feed answers of a buffer and a text, as the chapter says it; and the buffer then.
func feedOf(l []api.Pattern, buffer, s string) (int, api.Hit, bool, string) {
	for i := range len(s) {
		buffer = match.Keep(buffer + s[i:i+1])
		if h, ok := match.First(l, buffer); ok {
			return i + 1, h, true, ""
		}
	}
	return len(s), api.Hit{}, false, buffer
}

// P11.3, P11.6: Feed, byte by byte; a match ends with the buffer.
func TestFeed(t *testing.T) {
	r := rand.New(rand.NewSource(12))
	for range 1500 {
		l := someList(r)
		m := matcher(t, l)
		buffer := ""
		for range 6 {
			s := someText(r, "abcxx", 12)
			was := buffer
			n, h, ok, behind := feedOf(l, buffer, s)
			feeds(t, m, s, n, h, ok, behind)
			if ok && h.To != len(match.Keep(was+s[:n])) {
				t.Errorf("%v in %q and %q: %v", l, was, s, h)
			}
			buffer = behind
		}
	}
}

// P11.3: what began in bytes that are not kept any more does not match; places are those of the buffer.
func TestFeedOld(t *testing.T) {
	r := rand.New(rand.NewSource(13))
	lists := [][]api.Pattern{
		list(glob("a*z")), list(regular("a.*z|z.*y")), list(literal("zz"), glob("b*z"), regular("ab+z")), list(regular("b(...)*y"), literal("xyz")), list(regular(".+z")),
	}
	for range 12 {
		for _, l := range lists {
			m := matcher(t, l)
			buffer := ""
			for range 4 {
				s := someText(r, "ab", 3) + strings.Repeat("x", 200+r.Intn(80)) + someText(r, "abxyz", 60)
				n, h, ok, behind := feedOf(l, buffer, s)
				feeds(t, m, s, n, h, ok, behind)
				buffer = behind
			}
		}
	}
	for _, n := range []int{0, 1, 253, 254} {
		feeds(t, matcher(t, list(glob("a*z"))), "a"+strings.Repeat("x", n)+"z", n+2, hit(0, 0, n+2), true, "")
	}
	m := matcher(t, list(glob("a*z"), literal("zy")))
	x := strings.Repeat("x", 250)
	feeds(t, m, x+"aa"+x, 502, api.Hit{}, false, "xxxxaa"+x)
	feeds(t, m, "xxxxx", 5, api.Hit{}, false, "a"+x+"xxxxx")
	feeds(t, m, "z", 1, api.Hit{}, false, x+"xxxxxz")
	feeds(t, m, "yz", 1, hit(1, 254, 256), true, "")
	feeds(t, m, "az", 2, hit(0, 0, 2), true, "")
}

// told is a match, and behind how many bytes of the whole text it was told.
type told struct {
	hit   api.Hit
	bytes int
}

// inPieces: all that is told of a text in pieces of at most so many bytes, and the buffer at the end.
func inPieces(t *testing.T, l []api.Pattern, s string, r *rand.Rand, most int) ([]told, string) {
	t.Helper()
	m := matcher(t, l)
	var tells []told
	for at := 0; at < len(s); {
		n, h, ok := m.Feed(s[at:min(len(s), at+1+r.Intn(most))])
		at += n
		if ok {
			tells = append(tells, told{hit: h, bytes: at})
		}
	}
	return tells, m.Buffer()
}

// P11.5: in whatever pieces.
func TestPieces(t *testing.T) {
	r := rand.New(rand.NewSource(14))
	for range 300 {
		l := someList(r)
		s := someText(r, "abcxxx", 60) + strings.Repeat("x", r.Intn(300)) + someText(r, "abcx", 60)
		want, buffer := inPieces(t, l, s, r, 1)
		for _, most := range []int{2, 7, 100, 1000} {
			if got, b := inPieces(t, l, s, r, most); !slices.Equal(got, want) || b != buffer {
				t.Errorf("%v in %q in pieces of %d: %v, %q; want %v, %q", l, s, most, got, b, want, buffer)
			}
		}
	}
}

// P11.3: copies go on by themselves.
func TestCopy(t *testing.T) {
	r := rand.New(rand.NewSource(15))
	for range 500 {
		l := someList(r)
		begin, one, two := someText(r, "abcx", 300), someText(r, "abcx", 8), someText(r, "abcx", 8)
		m := matcher(t, l)
		m.Feed(begin)
		buffer := m.Buffer()
		c := m.Copy()
		if c.Buffer() != buffer {
			t.Errorf("the copy has %q, not %q", c.Buffer(), buffer)
		}
		n, h, ok, behind := feedOf(l, buffer, one)
		feeds(t, m, one, n, h, ok, behind)
		n, h, ok, behind = feedOf(l, buffer, two)
		feeds(t, c, two, n, h, ok, behind)
	}
}

// P11.3, R3: what is handed in is not kept.
func TestNotKept(t *testing.T) {
	l := list(literal("a"), literal("b"))
	m := matcher(t, l)
	l[0], l[1] = literal("x"), literal("y")
	feeds(t, m, "xyb", 3, hit(1, 2, 3), true, "")
}

// P11.3: of a matcher that is none nothing is told.
func TestNone(t *testing.T) {
	var m *match.Matcher
	if m.Buffer() != "" || m.Copy() != nil {
		t.Error("of no matcher")
	}
	feeds(t, m, "a", 0, api.Hit{}, false, "")
	feeds(t, matcher(t, list(literal("a"))), "", 0, api.Hit{}, false, "")
}
