package pattern_test

import (
	"fmt"
	"math"
	"regexp"
	"strings"
	"testing"

	"dragoman/api"
	"dragoman/pattern"
)

func spot(e api.Errno, at int) api.Spot { return api.Spot{Err: e, At: at} }

// formOf: what stands for a byte, as the chapter says it.
func formOf(c byte) string {
	switch {
	case c == '"' || c == '\\':
		return `\` + string(rune(c))
	case c == 10:
		return `\n`
	case c == 13:
		return `\r`
	case c == 9:
		return `\t`
	case c >= 32 && c <= 126:
		return string(rune(c))
	}
	return fmt.Sprintf(`\x%02x`, c)
}

// inQuotes: a text in quotes, byte by byte.
func inQuotes(s string) string {
	l := []string{`"`}
	for i := range len(s) {
		l = append(l, formOf(s[i]))
	}
	return strings.Join(append(l, `"`), "")
}

// samples are texts of all bytes.
func samples() []string {
	var all []byte
	for c := range 256 {
		all = append(all, byte(c))
	}
	l := []string{"", "a", "ab", `"`, `\`, `\"`, `\x41`, "\n\r\t", "\x00", "\xff", "é", string(all), strings.Repeat(`"`, 300)}
	for c := range 256 {
		l = append(l, string([]byte{byte(c)}), string([]byte{'a', byte(c), 'b'}), string([]byte{byte(c), '\\', byte(c)}))
	}
	return l
}

func quoted(t *testing.T, s string, most int, text string, n int, f api.Spot) {
	t.Helper()
	if got, m, g := pattern.Quoted(s, most); got != text || m != n || g != f {
		t.Errorf("Quoted(%q, %d): %q, %d, %v; want %q, %d, %v", s, most, got, m, g, text, n, f)
	}
}

func unquote(t *testing.T, s, text string, f api.Spot) {
	t.Helper()
	if got, g := pattern.Unquote(s); got != text || g != f {
		t.Errorf("Unquote(%q): %q, %v; want %q, %v", s, got, g, text, f)
	}
}

// The chapter's examples of texts in quotes.
func TestQuoteExamples(t *testing.T) {
	if got := pattern.Quote("a\"\n\x00"); got != `"a\"\n\x00"` {
		t.Errorf("Quote: %s", got)
	}
	unquote(t, `"\x41"`, "", spot(api.ErrText, 3))
	unquote(t, `"a`, "", spot(api.ErrText, 2))
	unquote(t, `"a"b`, "", spot(api.ErrText, 3))
	quoted(t, `"ab" goto c`, -1, "ab", 4, api.Spot{})
	quoted(t, `"ab"`, 1, "", 0, spot(api.ErrLong, 2))
	quoted(t, `"a`, 1, "", 0, spot(api.ErrLong, 2))
}

// P9.1, P9.5: each text has one form, which is read as it was, whatever stands behind it.
func TestQuote(t *testing.T) {
	for _, s := range samples() {
		form := inQuotes(s)
		if got := pattern.Quote(s); got != form {
			t.Errorf("Quote(%q): %s, want %s", s, got, form)
		}
		unquote(t, form, s, api.Spot{})
		for _, behind := range []string{`"`, " ", "x", "\x00", form} {
			quoted(t, form+behind, -1, s, len(form), api.Spot{})
			quoted(t, form+behind, math.MinInt, s, len(form), api.Spot{})
			unquote(t, form+behind, "", spot(api.ErrText, len(form)))
		}
	}
}

// P9.1: so many bytes are the most; the error stands where the first one too many would begin.
func TestQuotedMost(t *testing.T) {
	for _, s := range samples() {
		form := inQuotes(s)
		n := len(s)
		quoted(t, form, n, s, len(form), api.Spot{})
		quoted(t, form, n+1, s, len(form), api.Spot{})
		quoted(t, form, math.MaxInt, s, len(form), api.Spot{})
		if n == 0 {
			continue
		}
		for _, most := range []int{0, n / 2, n - 1} {
			at := len(inQuotes(s[:most])) - 1
			quoted(t, form, most, "", 0, spot(api.ErrLong, at))
			quoted(t, form[:at], most, "", 0, spot(api.ErrLong, at))
			// What can't be is not looked at any more.
			quoted(t, form[:at]+"\x00", most, "", 0, spot(api.ErrLong, at))
			quoted(t, form[:at]+`\y"`, most, "", 0, spot(api.ErrLong, at))
		}
		// One that is met ahead of that is.
		quoted(t, form[:len(form)-1]+"\x00\"", n+1, "", 0, spot(api.ErrText, len(form)-1))
		quoted(t, form[:len(form)-1], n+1, "", 0, spot(api.ErrText, len(form)-1))
	}
	quoted(t, "", 0, "", 0, spot(api.ErrText, 0))
	quoted(t, "a", 0, "", 0, spot(api.ErrText, 0))
	quoted(t, `"`, 0, "", 0, spot(api.ErrLong, 1))
	quoted(t, `""`, 0, "", 2, api.Spot{})
}

// rightQuotes and quotesBegin tell texts in quotes, and beginnings of such.
const (
	oneForm     = `(?:[ !#-\[\]-~]|\\["\\nrt]|\\x(?:0[0-8bcef]|1[0-9a-f]|7f|[89a-f][0-9a-f]))`
	rightQuotes = `^"` + oneForm + `*"$`
	quotesBegin = `^(?:"` + oneForm + `*(?:"|\\(?:x[0178-9a-f]?)?)?)?$`
)

// firstWrong: the first byte with which no right text goes on.
func firstWrong(begins *regexp.Regexp, s string) int {
	at := 0
	for at < len(s) && begins.MatchString(s[:at+1]) {
		at++
	}
	return at
}

// P9.1: the place of what is wrong, for all short texts of bytes that matter.
func TestUnquoteWrong(t *testing.T) {
	right, begins := regexp.MustCompile(rightQuotes), regexp.MustCompile(quotesBegin)
	var try func(s string, left int)
	try = func(s string, left int) {
		text, f := pattern.Unquote(s)
		if right.MatchString(s) {
			if f != (api.Spot{}) || pattern.Quote(text) != s {
				t.Errorf("Unquote(%q): %q, %v", s, text, f)
			}
		} else if want := spot(api.ErrText, firstWrong(begins, s)); text != "" || f != want {
			t.Errorf("Unquote(%q): %q, %v; want %v", s, text, f, want)
		}
		if left == 0 {
			return
		}
		for _, c := range []string{`"`, `\`, "x", "n", "0", "2", "7", "9", "a", "d", "f", "A", "g", "\n", "\x7f"} {
			try(s+c, left-1)
		}
	}
	try("", 2)
	try(`"`, 4)
	try(`"\x`, 3)
	for c := range 256 {
		try(`"`+string([]byte{byte(c)}), 1)
		try(`"\`+string([]byte{byte(c)}), 1)
		try(`"\x0`+string([]byte{byte(c)}), 1)
		try(`"\x`+string([]byte{byte(c)}), 1)
	}
}
