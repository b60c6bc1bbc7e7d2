package pattern_test

import (
	"strings"
	"testing"

	"dragoman/api"
	"dragoman/pattern"
)

func parses(t *testing.T, text string, want api.Pattern, f api.Spot) {
	t.Helper()
	if got, g := pattern.Parse(text); got != want || g != f {
		t.Errorf("Parse(%q): %v, %v; want %v, %v", text, got, g, want, f)
	}
}

func wrong(t *testing.T, text string, e api.Errno, at int) {
	t.Helper()
	parses(t, text, api.Pattern{}, spot(e, at))
}

// The chapter's examples of patterns' texts.
func TestParseExamples(t *testing.T) {
	parses(t, `re "a+"`, regular("a+"), api.Spot{})
	wrong(t, `re  "a"`, api.ErrText, 3)
	wrong(t, `re "\x00("`, api.ErrText, 9)
	if !pattern.Empty(glob("*")) || pattern.Empty(regular("a?b")) || !pattern.Empty(literal("")) {
		t.Error("Empty")
	}
}

// P9.3, P9.5: a pattern's text, and the pattern again.
func TestParse(t *testing.T) {
	for _, s := range samples() {
		for _, p := range []api.Pattern{literal(s), glob(s), regular(s)} {
			if _, f := pattern.Tree(p); f.Err != api.OK {
				continue
			}
			text := []string{1: "", 2: "glob ", 3: "re "}[p.Kind] + inQuotes(s)
			if got := pattern.Print(p); got != text {
				t.Errorf("Print(%v): %s, want %s", p, got, text)
			}
			parses(t, text, p, api.Spot{})
			for _, behind := range []string{" ", `"`, "\n", "x"} {
				wrong(t, text+behind, api.ErrText, len(text))
			}
			for at := range len(text) {
				wrong(t, text[:at], api.ErrText, at)
			}
		}
	}
}

// P9.3: the first byte that can't be.
func TestParseWrong(t *testing.T) {
	for text, at := range map[string]int{
		"": 0, "x": 0, ` "a"`: 0, "a": 0, "\x00": 0, "g": 1, "r": 1, "r\"": 1, "gl\"a\"": 2, `glob"a"`: 4, `glob  "a"`: 5, "glob\t\"a\"": 4, "glob\n\"a\"": 4,
		`re"a"`: 2, "re\t\"a\"": 2, "re": 2, "re ": 3, `Re "a"`: 0, `rE "a"`: 1, `globs "a"`: 4, `literal "a"`: 0, `re "a" `: 6, `"a`: 2, `"\x41"`: 3, `glob "\y"`: 7, `re "a""`: 6,
	} {
		wrong(t, text, api.ErrText, at)
	}
	// What stands in the quotes is told first.
	wrong(t, `re "(\`, api.ErrText, 6)
	wrong(t, `re "*" `, api.ErrText, 6)
	wrong(t, `"`+strings.Repeat("a", 100)+"\x00\"", api.ErrText, 101)
}

// P9.3: an error of the tree, where what stands for its byte begins.
func TestParseTree(t *testing.T) {
	for text, at := range map[string]int{
		`re "a**"`: 6, `re "*"`: 4, `re "\n\x00*+"`: 11, `re "\\"`: 6, `re "[\"-\n]"`: 8, `re "\xff]"`: 8, `re "("`: 5, `re "\\\\)"`: 8, `glob "\\"`: 8, `glob "\x01\\"`: 12,
	} {
		wrong(t, text, api.ErrText, at)
	}
	long := strings.Repeat("a", api.MaxPattern)
	for begin, p := range map[string]api.Pattern{`"`: literal(long), `glob "`: glob(long), `re "`: regular(long)} {
		parses(t, begin+long+`"`, p, api.Spot{})
		wrong(t, begin+long+`a"`, api.ErrLong, len(begin)+api.MaxPattern)
		wrong(t, begin+long+`\\a"`, api.ErrLong, len(begin)+api.MaxPattern)
	}
	codes := strings.Repeat(`\x00`, api.MaxPattern)
	parses(t, `"`+codes+`"`, literal(strings.Repeat("\x00", api.MaxPattern)), api.Spot{})
	wrong(t, `"`+codes+`\n"`, api.ErrLong, 1+4*api.MaxPattern)
	wrong(t, `re "`+codes+`\x01("`, api.ErrLong, 4+4*api.MaxPattern)
}
