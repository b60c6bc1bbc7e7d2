package parse

import (
	"strconv"
	"strings"

	"dragoman/api"
	"dragoman/lex"
	"dragoman/pattern"
)

// Print: a dialogue's one text.
func Print(s api.Script) string {
	// Ahead of its text: what is no dialogue may be of any size, and has none.
	if !formed(s) {
		return ""
	}
	text := write(s)
	if len(text) > api.MaxText {
		return ""
	}
	return text
}

// May: may a dialogue be?
func May(s api.Script) bool { return Print(s) != "" }

// formed: whether a dialogue may be, but for how long its text is.
func formed(s api.Script) bool {
	if len(s.Blocks) == 0 || len(s.Blocks) > api.MaxBlocks {
		return false
	}
	left := api.MaxLines
	for _, b := range s.Blocks {
		left -= len(b.Lines)
		if left < 0 || !blockFormed(b) {
			return false
		}
	}
	return true
}

func blockFormed(b api.Block) bool {
	last := len(b.Lines) - 1
	for i, l := range b.Lines {
		if !lineFormed(l) || endsBlock(l.Op) != (i == last) {
			return false
		}
	}
	return last >= 0 && lex.Name(b.Name)
}

// lineFormed: whether the fields that a line has are right, and all others are zero.
func lineFormed(l api.Line) bool {
	right := false
	rest := l
	switch l.Op {
	case api.LineSend:
		right = len(l.Text) <= api.MaxSend
		rest.Text = ""
	case api.LineSet:
		right = lex.Name(l.Name) && within(l.N, 0, api.MaxCount)
		rest.Name, rest.N = "", 0
	case api.LineInc:
		right = lex.Name(l.Name)
		rest.Name = ""
	case api.LineIf:
		right = lex.Name(l.Name) && within(l.N, 0, api.MaxCount) && lex.Name(l.To)
		rest.Name, rest.N, rest.To = "", 0, ""
	case api.LineGoto:
		right = lex.Name(l.To)
		rest.To = ""
	case api.LineExit:
		right = within(l.N, 0, maxCode)
		rest.N = 0
	case api.LineExpect:
		right = expectFormed(l)
		rest.Arms, rest.Wait, rest.Late = nil, 0, ""
	}
	return right && bare(rest)
}

// expectFormed: whether the arms and the timeout of an expect are right.
func expectFormed(l api.Line) bool {
	if len(l.Arms) > api.MaxArms {
		return false
	}
	for _, a := range l.Arms {
		if _, fault := pattern.Tree(a.Pattern); fault.Err != api.OK || !lex.Name(a.To) {
			return false
		}
	}
	if l.Late == "" {
		return l.Wait == 0 && len(l.Arms) > 0
	}
	return lex.Name(l.Late) && within(l.Wait, 1, api.MaxWait)
}

// bare: whether all fields of a line are zero, but its Op.
func bare(l api.Line) bool {
	return l.Text == "" && l.Name == "" && l.N == 0 && l.To == "" && len(l.Arms) == 0 && l.Wait == 0 && l.Late == ""
}

func within(n, least, most int) bool { return n >= least && n <= most }

// writer writes lines, with a byte 10 between two of them.
type writer struct {
	strings.Builder
}

// line writes a line of these words.
func (w *writer) line(words ...string) {
	if w.Len() > 0 {
		w.WriteByte('\n')
	}
	w.WriteString(strings.Join(words, " "))
}

// write: the text of a dialogue that is formed.
func write(s api.Script) string {
	var w writer
	for _, b := range s.Blocks {
		w.line(b.Name + ":")
		for _, l := range b.Lines {
			w.scriptLine(l)
		}
	}
	return w.String()
}

func (w *writer) scriptLine(l api.Line) {
	switch l.Op {
	case api.LineSend:
		w.line(wordSend, pattern.Quote(l.Text))
	case api.LineSet:
		w.line(wordSet, l.Name, strconv.Itoa(l.N))
	case api.LineInc:
		w.line(wordInc, l.Name)
	case api.LineIf:
		w.line(wordIf, l.Name, "<", strconv.Itoa(l.N), wordGoto, l.To)
	case api.LineGoto:
		w.line(wordGoto, l.To)
	case api.LineExit:
		w.line(wordExit, strconv.Itoa(l.N))
	case api.LineExpect:
		w.expect(l)
	}
}

func (w *writer) expect(l api.Line) {
	w.line(wordExpect, "{")
	for _, a := range l.Arms {
		// In a dialogue's text a pattern stands as it does by itself.
		w.line(pattern.Print(a.Pattern), wordGoto, a.To)
	}
	if l.Late != "" {
		w.line(wordTimeout, strconv.Itoa(l.Wait), wordGoto, l.Late)
	}
	w.line("}")
}
