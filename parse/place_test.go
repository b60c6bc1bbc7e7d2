package parse_test

import (
	"math/rand"
	"reflect"
	"regexp"
	"strings"
	"testing"

	"dragoman/api"
	"dragoman/parse"
)

// Here a token is a letter, and dialogues are what an expression of such letters fits, limits aside.
const (
	armLetters     = `(?:[BR]?tGn;)`
	timeoutLetters = `(?:T#Gn;)`
	expectLetters  = `(?:P\{;(?:` + armLetters + `+` + timeoutLetters + `?|` + timeoutLetters + `)\};)`
	lineLetters    = `(?:St;|En#;|In;|Fn<#Gn;)`
	allLetters     = `^(?:h;` + lineLetters + `*(?:Gn;|X#;|` + expectLetters + `))+$`
)

// tokenText: what stands for a letter.
func tokenText(c byte) string {
	switch c {
	case 'h':
		return "head:"
	case 'k':
		return "goto:"
	case 'n':
		return "name"
	case '#':
		return "7"
	case 't':
		return `"x"`
	case ';':
		return "\n"
	case 'S':
		return "send"
	case 'E':
		return "set"
	case 'I':
		return "inc"
	case 'F':
		return "if"
	case 'G':
		return "goto"
	case 'X':
		return "exit"
	case 'P':
		return "expect"
	case 'T':
		return "timeout"
	case 'B':
		return "glob"
	case 'R':
		return "re"
	}
	return string(rune(c))
}

// spelt: the text of letters, and where each of them begins, and its end.
func spelt(letters string) (string, []int) {
	var b strings.Builder
	var at []int
	for i := range len(letters) {
		if i > 0 && letters[i] != ';' && letters[i-1] != ';' {
			b.WriteByte(' ')
		}
		at = append(at, b.Len())
		b.WriteString(tokenText(letters[i]))
	}
	return b.String(), append(at, b.Len())
}

// grammar knows which letters may go on.
type grammar struct {
	right *regexp.Regexp
	ends  []string
	known map[string]bool
}

func newGrammar() *grammar {
	g := &grammar{right: regexp.MustCompile(allLetters), known: map[string]bool{}}
	for _, line := range []string{"", ";", "t;", "n;", "#;", "n#;", "n<#Gn;", "<#Gn;", "#Gn;", "Gn;", "tGn;", "T#Gn;", "{;tGn;", ";tGn;"} {
		for _, more := range []string{"", "};", "X#;", "h;X#;"} {
			g.ends = append(g.ends, line+more)
		}
	}
	return g
}

// begins: whether a dialogue begins with these letters.
func (g *grammar) begins(letters string) bool {
	if may, ok := g.known[letters]; ok {
		return may
	}
	may := false
	for _, end := range g.ends {
		may = may || g.right.MatchString(letters+end)
	}
	g.known[letters] = may
	return may
}

// P13.1, P13.3: the first token that can't stand where it does: of right beginnings, and any token behind them.
func TestPlace(t *testing.T) {
	const letters = "hkn#t<{};SEIFGXPTBR"
	g := newGrammar()
	r := rand.New(rand.NewSource(13))
	right := 0
	for range 800 {
		walk := ""
		// As many arms as there may be are another test's.
		for range r.Intn(40) {
			if strings.Count(walk[strings.LastIndex(walk, "{")+1:], "t") == api.MaxArms-1 {
				break
			}
			var may []string
			for i := range len(letters) {
				if next := walk + letters[i:i+1]; g.begins(next) {
					may = append(may, next)
				}
			}
			walk = may[r.Intn(len(may))]
		}
		for i := range len(letters) {
			if c := letters[i : i+1]; c != ";" || walk != "" && !strings.HasSuffix(walk, ";") {
				right += g.holds(t, walk+c)
				right += g.holds(t, walk+c+"hn"[r.Intn(2):][:1])
			}
		}
	}
	if right < 100 {
		t.Errorf("only %d texts are right", right)
	}
}

// holds: Program of letters, held against the grammar; 1, if it tells a dialogue.
func (g *grammar) holds(t *testing.T, letters string) int {
	t.Helper()
	// The end of a text ends its last line, too.
	ended := strings.TrimSuffix(letters, ";") + ";"
	text, at := spelt(strings.TrimSuffix(ended, ";"))
	s, f := parse.Program(text)
	if g.right.MatchString(ended) {
		if f != (api.Spot{}) || len(s.Blocks) != strings.Count(letters, "h") {
			t.Errorf("%s: %q: %v", letters, text, f)
		}
		again(t, text)
		return 1
	}
	n := 0
	for n < len(ended) && g.begins(ended[:n+1]) {
		n++
	}
	want := api.Spot{Err: api.ErrText, At: len(text)}
	if n < len(at) {
		want.At = at[n]
	}
	if f != want || !reflect.DeepEqual(s, api.Script{}) {
		t.Errorf("%s: %q: %v, want %v", letters, text, f, want)
	}
	return 0
}

// P13.1: a sign, a word, a name: with that one.
func TestWords(t *testing.T) {
	for _, bad := range []string{"<", "}", "x", "1", `"x"`, "expect", ""} {
		wrong(t, lines("a:", "expect "+bad), api.ErrText, 10)
	}
	wrong(t, lines("a:", "expect { {"), api.ErrText, 12)
	for _, bad := range []string{"{", "}", "x", "1", "goto"} {
		wrong(t, lines("a:", "if n "+bad+" 1 goto a"), api.ErrText, 8)
	}
	for _, name := range []string{"send", "set", "inc", "if", "goto", "exit", "expect", "timeout", "glob", "re"} {
		wrong(t, name+":", api.ErrText, 0)
		wrong(t, lines("a:", "set "+name+" 1"), api.ErrText, 7)
		wrong(t, lines("a:", "inc "+name), api.ErrText, 7)
		wrong(t, lines("a:", "if "+name+" < 1"), api.ErrText, 6)
		wrong(t, lines("a:", "if n < 1 goto "+name), api.ErrText, 17)
		wrong(t, lines("a:", "goto "+name), api.ErrText, 8)
		wrong(t, lines("a:", "expect {", `"x" goto `+name), api.ErrText, 21)
		wrong(t, lines("a:", "expect {", "timeout 5 goto "+name), api.ErrText, 27)
		wrong(t, lines("a:", "exit 0", name+":", "exit 0"), api.ErrText, 10)
		if name != "goto" {
			wrong(t, lines("a:", "if n < 1 "+name+" a"), api.ErrText, 12)
			wrong(t, lines("a:", "expect {", `re "x" `+name+" a"), api.ErrText, 19)
		}
	}
}
