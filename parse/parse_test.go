package parse_test

import (
	"fmt"
	"reflect"
	"strings"
	"testing"

	"dragoman/api"
	"dragoman/parse"
	"dragoman/pattern"
)

func lines(l ...string) string { return strings.Join(l, "\n") }

func script(l ...api.Block) api.Script { return api.Script{Blocks: l} }

func block(name string, l ...api.Line) api.Block { return api.Block{Name: name, Lines: l} }

func send(s string) api.Line          { return api.Line{Op: api.LineSend, Text: s} }
func set(name string, n int) api.Line { return api.Line{Op: api.LineSet, Name: name, N: n} }
func inc(name string) api.Line        { return api.Line{Op: api.LineInc, Name: name} }
func gotoLine(to string) api.Line     { return api.Line{Op: api.LineGoto, To: to} }
func exit(n int) api.Line             { return api.Line{Op: api.LineExit, N: n} }

func ifLine(name string, n int, to string) api.Line {
	return api.Line{Op: api.LineIf, Name: name, N: n, To: to}
}

func expect(wait int, late string, arms ...api.Arm) api.Line {
	return api.Line{Op: api.LineExpect, Arms: arms, Wait: wait, Late: late}
}

func arm(kind int, text, to string) api.Arm {
	return api.Arm{Pattern: api.Pattern{Kind: kind, Text: text}, To: to}
}

// tells: a text tells a dialogue, whose text is that one.
func tells(t *testing.T, text string, want api.Script, print string) {
	t.Helper()
	s, f := parse.Program(text)
	if f != (api.Spot{}) || !reflect.DeepEqual(s, want) {
		t.Errorf("Program(%q): %v, %v; want %v", text, s, f, want)
	}
	if got := parse.Print(want); got != print || !parse.May(want) {
		t.Errorf("Print(%v): %q, %v; want %q", want, got, parse.May(want), print)
	}
}

func wrong(t *testing.T, text string, e api.Errno, at int) {
	t.Helper()
	if s, f := parse.Program(text); !reflect.DeepEqual(s, api.Script{}) || f != (api.Spot{Err: e, At: at}) {
		t.Errorf("Program(%q): %v, %v; want the error %d at %d", text, s, f, e, at)
	}
}

func mayNot(t *testing.T, s api.Script) {
	t.Helper()
	if parse.May(s) || parse.Print(s) != "" {
		t.Errorf("%v may be: %q", s, parse.Print(s))
	}
}

// The chapter's examples.
func TestExamples(t *testing.T) {
	text := lines("a:", `send "x"`, "exit 3")
	tells(t, text, script(block("a", send("x"), exit(3))), text)
	wrong(t, "", api.ErrText, 0)
	wrong(t, "exit 0", api.ErrText, 0)
	wrong(t, "a:", api.ErrText, 2)
	wrong(t, lines("a:", "exit 0", "exit 0"), api.ErrText, 10)
	wrong(t, lines("if:", "exit 0"), api.ErrText, 0)
	wrong(t, lines("a:", "expect {", "}"), api.ErrText, 12)
	text = lines("a:", "expect {", `"x" goto a`, "timeout 5 goto a", "}")
	tells(t, text, script(block("a", expect(5, "a", arm(1, "x", "a")))), text)
	wrong(t, lines("a:", "exit 256"), api.ErrRange, 8)
	wrong(t, lines("a:", "expect {", "timeout 0 goto a", "}"), api.ErrRange, 20)
	mayNot(t, api.Script{})
	mayNot(t, script(block("a")))
}

// all has every kind of line.
func all() (string, api.Script) {
	text := lines("start:", `send ""`, `send "a\n\x00\"\\"`, "set n 0", "set n-1 255", "inc n", "if n < 255 goto start", "if n < 0 goto b_2", "goto nowhere",
		"b_2:", "expect {", `"" goto start`, `glob "*\\?" goto b_2`, `re "(a|b)+\xff" goto c`, "}",
		"c:", "expect {", `"x" goto c`, "timeout 1000 goto d", "}",
		"c:", "expect {", "timeout 1 goto start", "}",
		"abcdefghijklmnop:", "exit 255", "z:", "exit 0")
	return text, script(
		block("start", send(""), send("a\n\x00\"\\"), set("n", 0), set("n-1", 255), inc("n"), ifLine("n", 255, "start"), ifLine("n", 0, "b_2"), gotoLine("nowhere")),
		block("b_2", expect(0, "", arm(1, "", "start"), arm(2, `*\?`, "b_2"), arm(3, "(a|b)+\xff", "c"))),
		block("c", expect(1000, "d", arm(1, "x", "c"))),
		block("c", expect(1, "start")),
		block("abcdefghijklmnop", exit(255)), block("z", exit(0)))
}

// P13.1, P13.2: every kind of line; blanks, remarks and empty lines say nothing.
func TestProgram(t *testing.T) {
	text, s := all()
	tells(t, text, s, text)
	tells(t, text+"\n", s, text)
	spaced := strings.ReplaceAll(strings.ReplaceAll(text, "\n", " # x\n\n\t"), " goto", "\t  goto")
	tells(t, "\n# remark\n "+spaced+" \n\n# end", s, text)
	// Each block by itself is a dialogue, too.
	for _, b := range s.Blocks {
		one := parse.Print(script(b))
		tells(t, one, script(b), one)
	}
}

// P13.1: lex.Lex's errors come ahead, wherever they stand.
func TestLexed(t *testing.T) {
	wrong(t, lines("exit 0", "a:", "A"), api.ErrText, 10)
	wrong(t, lines("a:", `send "`+strings.Repeat("x", 65)+`"`), api.ErrLong, 73)
	wrong(t, lines("goto", "goto "+strings.Repeat("a", 17)), api.ErrLong, 26)
	wrong(t, "a: 12345", api.ErrLong, 7)
	wrong(t, "if"+strings.Repeat(" ", api.MaxText), api.ErrLong, api.MaxText)
	text := lines("a:", "exit 0")
	tells(t, text+strings.Repeat(" ", api.MaxText-len(text)), script(block("a", exit(0))), text)
}

// P13.1: numbers that are too great, and no ticks.
func TestRange(t *testing.T) {
	for line, at := range map[string]int{"set n 256": 6, "set n 9999 1": 6, "if n < 256 goto a": 7, "if n < 1000 x": 7, "exit 256": 5, "exit 9999": 5} {
		wrong(t, lines("a:", "inc n", line, "exit 0"), api.ErrRange, 9+at)
	}
	for line, at := range map[string]int{"timeout 0 goto a": 8, "timeout 1001 goto a": 8, "timeout 0": 8, "timeout 9999 if": 8} {
		wrong(t, lines("a:", "expect {", line, "}"), api.ErrRange, 12+at)
	}
}

// P13.1: the tree's error, at the text in quotes.
func TestPatterns(t *testing.T) {
	for arm, at := range map[string]int{`re "(" goto a`: 3, `re  "a**"`: 4, `glob "\\" goto if`: 5, `re "ab[]"`: 3} {
		wrong(t, lines("a:", "expect {", `"x" goto a`, arm, "}"), api.ErrText, 23+at)
	}
	long := strings.Repeat("x", api.MaxPattern)
	for _, kind := range []string{"", "glob ", "re "} {
		text := lines("a:", "expect {", kind+`"`+long+`" goto a`, "}")
		if s, f := parse.Program(text); f.Err != api.OK || s.Blocks[0].Lines[0].Arms[0].Pattern.Text != long {
			t.Errorf("%q: %v", text, f)
		}
	}
}

// manyBlocks: so many blocks of so many lines each.
func manyBlocks(blocks, each int) string {
	var l []string
	for i := range blocks {
		l = append(l, fmt.Sprintf("b%d:", i))
		for range each - 1 {
			l = append(l, "inc n")
		}
		l = append(l, "exit 0")
	}
	return lines(l...)
}

// told: how many blocks a right text tells.
func told(t *testing.T, text string, blocks int) api.Script {
	t.Helper()
	s, f := parse.Program(text)
	if f.Err != api.OK || len(s.Blocks) != blocks || parse.Print(s) != text {
		t.Errorf("%d blocks: %d, %v", blocks, len(s.Blocks), f)
	}
	return s
}

// P13.1, P13.2: MaxBlocks and MaxLines, and one more.
func TestFull(t *testing.T) {
	most := manyBlocks(api.MaxBlocks, 1)
	s := told(t, most, api.MaxBlocks)
	n := len(most) + 1
	wrong(t, lines(most, "x:"), api.ErrFull, n)
	wrong(t, lines(most, "x: 1"), api.ErrFull, n)
	wrong(t, lines(most, "if:"), api.ErrText, n)
	wrong(t, lines(most, "exit 0"), api.ErrText, n)
	mayNot(t, script(append(s.Blocks, block("x", exit(0)))...))

	most = manyBlocks(api.MaxBlocks, api.MaxLines/api.MaxBlocks)
	s = told(t, most, api.MaxBlocks)
	wrong(t, lines(most, "x:"), api.ErrFull, len(most)+1)
	most = manyBlocks(2, api.MaxLines/2)
	s = told(t, most, 2)
	n = len(most) + 1
	wrong(t, lines(most, "x:"), api.ErrText, n+2)
	wrong(t, lines(most, "x:", "exit 0"), api.ErrFull, n+3)
	wrong(t, lines(most, "x:", "expect"), api.ErrFull, n+3)
	wrong(t, lines(most, "x:", "send 1"), api.ErrFull, n+3)
	for _, no := range []string{"x", "x:", "1", `"x"`, "{", "glob", "timeout", "re"} {
		wrong(t, lines(most, "x:", no), api.ErrText, n+3)
	}
	mayNot(t, script(append(s.Blocks, block("x", exit(0)))...))
	one := manyBlocks(1, api.MaxLines)
	told(t, one, 1)
	begin := strings.TrimSuffix(one, "exit 0")
	wrong(t, begin+"inc n\nexit 0", api.ErrFull, len(begin)+6)
	wrong(t, begin+"inc n\nexit 0\nif", api.ErrFull, len(begin)+6)
	wrong(t, begin+"inc n\nx: inc", api.ErrText, len(begin)+6)
	wrong(t, begin+"inc n", api.ErrText, len(begin)+5)
}

// P13.1, P13.2: MaxArms, and one more.
func TestArms(t *testing.T) {
	for _, a := range []string{`"x" goto a`, `glob "*" goto a`, `re "x" goto a`} {
		begin := lines("a:", "expect {", strings.Repeat(a+"\n", api.MaxArms))
		told(t, begin+"}", 1)
		s := told(t, begin+"timeout 1 goto a\n}", 1)
		wrong(t, begin+a+"\n}", api.ErrFull, len(begin))
		wrong(t, begin+`"x"`, api.ErrFull, len(begin))
		wrong(t, begin+"glob", api.ErrFull, len(begin))
		wrong(t, begin+`re "("`, api.ErrFull, len(begin))
		wrong(t, begin+"x", api.ErrText, len(begin))
		wrong(t, begin+"timeout 1 goto a\n"+a, api.ErrText, len(begin)+17)
		l := s.Blocks[0].Lines[0]
		l.Arms = append(l.Arms, l.Arms[0])
		mayNot(t, script(block("a", l)))
	}
}

// P13.2: a text of MaxText bytes, and of one more.
func TestTextLength(t *testing.T) {
	var l []api.Line
	for range 28 {
		l = append(l, send(strings.Repeat("y", 64)))
	}
	s := script(block("a", append(l, send(""), exit(0))...))
	left := api.MaxText - len(parse.Print(s))
	if left < 0 || left > 60 {
		t.Fatalf("%d bytes are left", left)
	}
	at := len(l)
	s.Blocks[0].Lines[at] = send(strings.Repeat("y", left))
	text := parse.Print(s)
	if len(text) != api.MaxText {
		t.Errorf("%d bytes", len(text))
	}
	tells(t, text, s, text)
	s.Blocks[0].Lines[at] = send(strings.Repeat("y", left+1))
	mayNot(t, s)
	s.Blocks[0].Lines[at] = send(strings.Repeat("y", left-1) + "\n")
	mayNot(t, s)
}

// P13.2: all fields count.
func TestMayNot(t *testing.T) {
	_, s := all()
	ends := exit(0)
	long := strings.Repeat("x", 65)
	for _, l := range []api.Line{
		{}, {Op: -1}, {Op: 8}, send(long), set("", 1), set("if", 1), set("n", -1), set("n", 256), inc(""), inc("N"), inc("set"), ifLine("", 1, "a"), ifLine("n", -1, "a"), ifLine("n", 256, "a"), ifLine("n", 1, ""), ifLine("n", 1, "re"),
		{Op: api.LineSend, Name: "a"}, {Op: api.LineSend, N: 1}, {Op: api.LineSet, Name: "n", Text: "x"}, {Op: api.LineSet, Name: "n", To: "a"}, {Op: api.LineInc, Name: "n", N: 1}, {Op: api.LineInc, Name: "n", Wait: 1},
		{Op: api.LineIf, Name: "n", To: "a", Late: "a"}, {Op: api.LineSend, Arms: []api.Arm{arm(1, "x", "a")}}, {Op: api.LineSet, Name: "n", Wait: -1},
	} {
		mayNot(t, script(append([]api.Block{block("a", l, ends)}, s.Blocks...)...))
		mayNot(t, script(block("a", l, ends)))
	}
	for _, l := range []api.Line{
		gotoLine(""), gotoLine("goto"), exit(-1), exit(256), expect(0, ""), expect(1, ""), expect(0, "a"), expect(1001, "a"), expect(-1, "a"), expect(1, "if"), expect(5, "", arm(1, "x", "a")), expect(0, "a", arm(1, "x", "a")),
		expect(1, "a", arm(0, "x", "a")), expect(1, "a", arm(4, "x", "a")), expect(1, "a", arm(3, "(", "a")), expect(1, "a", arm(1, long, "a")), expect(1, "a", arm(1, "x", "")), expect(1, "a", arm(1, "x", "a"), arm(2, `\`, "a")), expect(1, "a", arm(1, "x", "if")),
		{Op: api.LineGoto, To: "a", N: 1}, {Op: api.LineExit, To: "a"}, {Op: api.LineExit, Text: "x"}, {Op: api.LineExpect, Wait: 1, Late: "a", N: 1}, {Op: api.LineExpect, Wait: 1, Late: "a", To: "a"}, {Op: api.LineExit, Late: "a"},
		send("x"), set("n", 1), inc("n"), ifLine("n", 1, "a"),
	} {
		mayNot(t, script(block("a", l)))
		mayNot(t, script(block("a", send("x"), l), block("b", ends)))
	}
	mayNot(t, script(block("a", ends, ends)))
	mayNot(t, script(block("a", gotoLine("a"), ends)))
	mayNot(t, script(block("a", expect(1, "a"), ends)))
	mayNot(t, script(block("a", ends), block("b")))
	for _, name := range []string{"", "if", "A", "a:", strings.Repeat("a", 17)} {
		mayNot(t, script(block(name, ends)))
	}
	mayNot(t, api.Script{Blocks: make([]api.Block, 1<<16)})
	mayNot(t, script(block("a", make([]api.Line, 1<<16)...)))
	// An empty list is none.
	if !parse.May(script(block("a", api.Line{Op: api.LineExit, Arms: []api.Arm{}}))) {
		t.Error("an exit with an empty list of arms may not be")
	}
}

// P13.3: what is told is told again by its text.
func again(t *testing.T, text string) {
	t.Helper()
	s, f := parse.Program(text)
	if f.Err != api.OK {
		return
	}
	print := parse.Print(s)
	if !parse.May(s) || print == "" || len(print) > len(text) {
		t.Errorf("%q: %v, its text %q", text, s, print)
	}
	tells(t, print, s, print)
}

// P13.4: the blocks of two texts; some blocks, in any order.
func TestBlocks(t *testing.T) {
	text, s := all()
	other := lines("x:", `send "y"`, "goto x")
	o := block("x", send("y"), gotoLine("x"))
	both := lines(text, other)
	tells(t, both, script(append(s.Blocks, o)...), both)
	both = lines(other, text)
	tells(t, both, script(append([]api.Block{o}, s.Blocks...)...), both)
	n := len(s.Blocks)
	for i := range n {
		for j := range n {
			if i != j {
				print := lines(parse.Print(script(s.Blocks[i])), parse.Print(script(s.Blocks[j])))
				tells(t, print, script(s.Blocks[i], s.Blocks[j]), print)
			}
		}
		b := s.Blocks[i]
		mayNot(t, script(block(b.Name, b.Lines[:len(b.Lines)-1]...)))
	}
}

// R3: what is handed in is not changed; what is told is new memory.
func TestNew(t *testing.T) {
	text, want := all()
	s, _ := parse.Program(text)
	parse.Print(s)
	parse.May(s)
	if !reflect.DeepEqual(s, want) {
		t.Errorf("changed: %v", s)
	}
	for i := range s.Blocks {
		for j := range s.Blocks[i].Lines {
			l := &s.Blocks[i].Lines[j]
			for k := range l.Arms {
				l.Arms[k] = arm(1, pattern.Quote("x"), "x")
			}
			*l = send("z")
		}
	}
	tells(t, text, want, text)
}
