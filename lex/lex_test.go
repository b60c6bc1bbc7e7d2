package lex_test

import (
	"math/rand"
	"regexp"
	"slices"
	"strconv"
	"strings"
	"testing"

	"dragoman/api"
	"dragoman/lex"
	"dragoman/pattern"
)

func word(s string, at int) api.Token { return api.Token{Kind: api.TokWord, Text: s, At: at} }
func head(s string, at int) api.Token { return api.Token{Kind: api.TokHead, Text: s, At: at} }
func number(n, at int) api.Token      { return api.Token{Kind: api.TokNumber, N: n, At: at} }
func text(s string, at int) api.Token { return api.Token{Kind: api.TokText, Text: s, At: at} }
func sign(s string, at int) api.Token { return api.Token{Kind: api.TokSign, Text: s, At: at} }
func end(at int) api.Token            { return api.Token{Kind: api.TokEnd, At: at} }

func lexes(t *testing.T, s string, want ...api.Token) {
	t.Helper()
	if got, f := lex.Lex(s); f != (api.Spot{}) || !slices.Equal(got, want) {
		t.Errorf("Lex(%q): %v, %v; want %v", s, got, f, want)
	}
}

func wrong(t *testing.T, s string, e api.Errno, at int) {
	t.Helper()
	if got, f := lex.Lex(s); len(got) != 0 || f != (api.Spot{Err: e, At: at}) {
		t.Errorf("Lex(%q): %v, %v; want the error %d at %d", s, got, f, e, at)
	}
}

func a(n int) string { return strings.Repeat("a", n) }

// The chapter's examples.
func TestExamples(t *testing.T) {
	lexes(t, "a: # x\n if n < 12", head("a", 0), end(6), word("if", 8), word("n", 11), sign("<", 13), number(12, 15), end(17))
	lexes(t, "")
	lexes(t, "   ")
	lexes(t, "# x")
	wrong(t, "01", api.ErrText, 1)
	wrong(t, "10000", api.ErrLong, 4)
	wrong(t, "a:b", api.ErrText, 2)
	wrong(t, "A", api.ErrText, 0)
	wrong(t, `"a`, api.ErrText, 2)
	wrong(t, `"a"b`, api.ErrText, 3)
	wrong(t, "a#", api.ErrText, 1)
	wrong(t, a(17), api.ErrLong, 16)
	wrong(t, `"`+strings.Repeat(".", 65)+`"`, api.ErrLong, 65)
	for s, want := range map[string]bool{"a-1": true, "goto": false, "gotos": true, "1a": false, a(17): false} {
		if lex.Name(s) != want {
			t.Errorf("Name(%q): %v", s, !want)
		}
	}
}

// P12.1: words and heads.
func TestWords(t *testing.T) {
	for _, s := range []string{"a", "z", "a-", "a_", "a0", "z9-_a", "goto", "send", "re", a(16)} {
		n := len(s)
		lexes(t, s, word(s, 0), end(n))
		lexes(t, s+":", head(s, 0), end(n+1))
		lexes(t, "\t"+s+": \n"+s, head(s, 1), end(n+3), word(s, n+4), end(2*n+4))
		lexes(t, s+" "+s, word(s, 0), word(s, n+1), end(2*n+1))
		for _, c := range "A:<{}\"#.\x00\r\v" {
			if c != ':' {
				wrong(t, s+string(c), api.ErrText, n)
			}
			wrong(t, s+":"+string(c), api.ErrText, n+1)
		}
		wrong(t, s+":a", api.ErrText, n+1)
	}
	wrong(t, a(17)+":", api.ErrLong, 16)
	wrong(t, a(15)+"_-: ", api.ErrLong, 16)
	wrong(t, "a\n "+a(1000), api.ErrLong, 19)
	wrong(t, a(16)+"A", api.ErrText, 16)
}

// P12.1: numbers.
func TestNumbers(t *testing.T) {
	for n := range 10000 {
		s := strconv.Itoa(n)
		lexes(t, " "+s+"\t", number(n, 1), end(len(s)+2))
	}
	for s, at := range map[string]int{"00": 1, "0a": 1, "1a": 1, "12-": 2, "1:": 1, "0000": 1, "-1": 0, "+1": 0, "9999a": 4, `1"`: 1, "1#": 1, "1<": 1} {
		wrong(t, s, api.ErrText, at)
	}
	wrong(t, "99999", api.ErrLong, 4)
	wrong(t, "1000000000000000000000", api.ErrLong, 4)
	wrong(t, "1 12345", api.ErrLong, 6)
}

// P12.1: texts in quotes, and what pattern.Quoted tells of them, at its place.
func TestTexts(t *testing.T) {
	for _, s := range []string{"", "a", `"`, "\n", "#", "\x00\xff", "goto", strings.Repeat("\x00", 64), strings.Repeat("~", 64)} {
		q := pattern.Quote(s)
		lexes(t, q, text(s, 0), end(len(q)))
		lexes(t, "a "+q+" # b", word("a", 0), text(s, 2), end(len(q)+6))
		wrong(t, q+q, api.ErrText, len(q))
		wrong(t, "a\n"+q+"#", api.ErrText, len(q)+2)
		wrong(t, " "+q[:len(q)-1], map[bool]api.Errno{false: api.ErrText, true: api.ErrLong}[len(s) == 64], len(q))
	}
	wrong(t, "\"a\nb\"", api.ErrText, 2)
	wrong(t, `x "\x41"`, api.ErrText, 5)
	wrong(t, `x "\y"`, api.ErrText, 4)
	wrong(t, "\"\xff\"", api.ErrText, 1)
	wrong(t, ` "`+strings.Repeat(`\x00`, 64)+`\x00"`, api.ErrLong, 258)
}

// P12.1: signs, and bytes with which nothing begins.
func TestSigns(t *testing.T) {
	lexes(t, "<", sign("<", 0), end(1))
	lexes(t, "{ } <", sign("{", 0), sign("}", 2), sign("<", 4), end(5))
	for _, s := range []string{"<<", "{}", "}a", "<1", "{#", `{"`} {
		wrong(t, s, api.ErrText, 1)
	}
	for c := range 256 {
		s := string([]byte{byte(c)})
		if !strings.Contains("abcdefghijklmnopqrstuvwxyz0123456789\"<{}# \t\n", s) {
			wrong(t, s, api.ErrText, 0)
			wrong(t, "a\n"+s+a(17), api.ErrText, 2)
			lexes(t, "a #"+s+"\nb", word("a", 0), end(4), word("b", 5), end(6))
		}
	}
}

// P12.1: lines, blanks and remarks.
func TestLines(t *testing.T) {
	lexes(t, "\n\n")
	lexes(t, "a", word("a", 0), end(1))
	lexes(t, "a\n", word("a", 0), end(1))
	lexes(t, "a\n\n", word("a", 0), end(1))
	lexes(t, "\n a \n\t\n\tb\t", word("a", 2), end(4), word("b", 8), end(10))
	lexes(t, "# a\n#\n  # b # c\nd ##e\n", word("d", 16), end(21))
	lexes(t, "a\n#", word("a", 0), end(1))
	lexes(t, "a\n#\x00\xffA\"", word("a", 0), end(1))
	wrong(t, "a\r\nb", api.ErrText, 1)
	wrong(t, "a \r\nb", api.ErrText, 2)
}

// P12.1: MaxText bytes.
func TestLong(t *testing.T) {
	lexes(t, strings.Repeat(" ", api.MaxText))
	lexes(t, strings.Repeat("\n", api.MaxText-1)+"a", word("a", api.MaxText-1), end(api.MaxText))
	for _, s := range []string{strings.Repeat(" ", api.MaxText+1), strings.Repeat("A", api.MaxText+1), strings.Repeat("a", 1<<20)} {
		wrong(t, s, api.ErrLong, api.MaxText)
	}
	if l, f := lex.Lex(strings.Repeat("<\n", api.MaxText/2)); len(l) != api.MaxText || f.Err != api.OK {
		t.Errorf("as many tokens as can be: %d, %v", len(l), f)
	}
}

// P12.2: names.
func TestName(t *testing.T) {
	for _, s := range []string{"a", "z", "a0", "a_", "a-", "sen", "sends", "se-t", "se_t", "g", "r", "res", "i", "timeouts", a(16), "z--------------9"} {
		if !lex.Name(s) {
			t.Errorf("Name(%q) is false", s)
		}
	}
	for _, s := range []string{"", "send", "set", "inc", "if", "goto", "exit", "expect", "timeout", "glob", "re", "A", "aB", "_a", "-a", "0", "0a", "a:", "a ", " a", "a\n", "a.", "a\x00", "é", a(17), a(1 << 20)} {
		if lex.Name(s) {
			t.Errorf("Name(%q) is true", s)
		}
	}
}

// byTable: the tokens of a text, by the table of the chapter.
func byTable(s string) ([]api.Token, api.Spot) {
	words := regexp.MustCompile(`^[a-z][a-z0-9_-]*`)
	numbers := regexp.MustCompile(`^(?:0|[1-9][0-9]*)`)
	var l []api.Token
	at := 0
	for _, line := range strings.SplitAfter(s, "\n") {
		start, some := at, false
		for rest := strings.TrimSuffix(line, "\n"); ; {
			at = start + len(strings.TrimSuffix(line, "\n")) - len(rest)
			if rest == "" || rest[0] == '#' {
				break
			}
			if rest[0] == ' ' || rest[0] == '\t' {
				rest = rest[1:]
				continue
			}
			some = true
			tok, n := api.Token{At: at}, 1
			if w := words.FindString(rest); w != "" {
				if len(w) > 16 {
					return nil, api.Spot{Err: api.ErrLong, At: at + 16}
				}
				tok.Kind, tok.Text, n = api.TokWord, w, len(w)
				if strings.HasPrefix(rest[n:], ":") {
					tok.Kind, n = api.TokHead, n+1
				}
			} else if w := numbers.FindString(rest); w != "" {
				if len(w) > 4 {
					return nil, api.Spot{Err: api.ErrLong, At: at + 4}
				}
				tok.Kind, n = api.TokNumber, len(w)
				tok.N, _ = strconv.Atoi(w)
			} else if rest[0] == '"' {
				q, m, f := pattern.Quoted(s[at:], 64)
				if f.Err != api.OK {
					return nil, api.Spot{Err: f.Err, At: at + f.At}
				}
				tok.Kind, tok.Text, n = api.TokText, q, m
			} else if strings.Contains("<{}", rest[:1]) {
				tok.Kind, tok.Text = api.TokSign, rest[:1]
			} else {
				return nil, api.Spot{Err: api.ErrText, At: at}
			}
			l = append(l, tok)
			if rest = rest[n:]; rest != "" && rest[0] != ' ' && rest[0] != '\t' {
				return nil, api.Spot{Err: api.ErrText, At: at + n}
			}
		}
		at = start + len(line)
		if some {
			l = append(l, end(start+len(strings.TrimSuffix(line, "\n"))))
		}
	}
	return l, api.Spot{}
}

// someTexts are right and wrong ones.
func someTexts() []string {
	r := rand.New(rand.NewSource(12))
	parts := []string{"a", "bc", "goto", "a:", "if:", "0", "7", "12", "9999", "10000", "01", `""`, `"a b"`, `"#"`, `"\x00"`, `"x`, "<", "{", "}", "#", "# x", "A", "-", a(16), a(17), a(16) + ":", "\r"}
	between := []string{" ", " ", " ", " ", " ", "\t", "\n", "\n", "\n", "  ", " \n ", ""}
	var l []string
	for range 6000 {
		s := between[r.Intn(len(between))]
		most := 1 + r.Intn(20)
		for range r.Intn(8) {
			s += parts[r.Intn(most)+r.Intn(len(parts)-most)] + between[r.Intn(len(between))]
		}
		l = append(l, s)
	}
	var try func(s string, left int)
	try = func(s string, left int) {
		l = append(l, s)
		for _, c := range "a:0 \n\"#<" {
			if left > 0 {
				try(s+string(c), left-1)
			}
		}
	}
	try("", 4)
	return l
}

// P12.1: right and wrong texts, held against the chapter's table.
func TestByTable(t *testing.T) {
	right := 0
	for _, s := range someTexts() {
		l, f := byTable(s)
		got, g := lex.Lex(s)
		if !slices.Equal(got, l) || g != f {
			t.Errorf("Lex(%q): %v, %v; want %v, %v", s, got, g, l, f)
		}
		if f.Err == api.OK {
			right++
		}
	}
	if right < 1000 {
		t.Errorf("only %d texts are right", right)
	}
}

// written: tokens, one behind the other.
func written(l []api.Token) string {
	s, begins := "", true
	for i, x := range l {
		if x.Kind == api.TokEnd {
			if i < len(l)-1 {
				s += "\n"
			}
			begins = true
			continue
		}
		if !begins {
			s += " "
		}
		begins = false
		switch x.Kind {
		case api.TokHead:
			s += x.Text + ":"
		case api.TokNumber:
			s += strconv.Itoa(x.N)
		case api.TokText:
			s += pattern.Quote(x.Text)
		default:
			s += x.Text
		}
	}
	return s
}

// unplaced: tokens without their places.
func unplaced(l []api.Token) []api.Token {
	l = slices.Clone(l)
	for i := range l {
		l[i].At = 0
	}
	return l
}

// P12.3, P12.4: tokens that are written again are the same; blanks, remarks and empty lines make no difference.
func TestWritten(t *testing.T) {
	r := rand.New(rand.NewSource(13))
	for _, s := range someTexts() {
		l, f := lex.Lex(s)
		if f.Err != api.OK {
			continue
		}
		w := written(l)
		m, f := lex.Lex(w)
		if f.Err != api.OK || !slices.Equal(unplaced(l), unplaced(m)) || len(w) > len(s) {
			t.Errorf("%q: %v; written as %q: %v, %v", s, l, w, m, f)
		}
		var b strings.Builder
		for i, x := range m {
			begin, behind := x.At, len(w)
			if i+1 < len(m) {
				behind = m[i+1].At
			}
			if x.Kind == api.TokEnd {
				b.WriteString([]string{"", " ", " # b: \x00", "\t#", "\n", "\n\n # \"\n"}[r.Intn(6)])
			} else {
				b.WriteString([]string{"", " ", "\t \t"}[r.Intn(3)])
			}
			b.WriteString(w[begin:behind])
		}
		if k, f := lex.Lex(b.String()); f.Err != api.OK || !slices.Equal(unplaced(k), unplaced(l)) {
			t.Errorf("%q as %q: %v, %v; want %v", s, b.String(), k, f, l)
		}
	}
}

// P12.5: two texts with a byte 10 between them.
func TestTwo(t *testing.T) {
	l := someTexts()
	r := rand.New(rand.NewSource(14))
	for range 5000 {
		x, y := l[r.Intn(len(l))], l[r.Intn(len(l))]
		both, f := lex.Lex(x + "\n" + y)
		want, g := lex.Lex(x)
		if g.Err == api.OK {
			var more []api.Token
			more, g = lex.Lex(y)
			for _, m := range more {
				m.At += len(x) + 1
				want = append(want, m)
			}
			if g.Err != api.OK {
				want = nil
				g.At += len(x) + 1
			}
		}
		if f != g || !slices.Equal(both, want) {
			t.Errorf("%q and %q: %v, %v; want %v, %v", x, y, both, f, want, g)
		}
	}
}
