package console

import (
	"strconv"
	"strings"

	"dragoman/api"
	"dragoman/pattern"
)

// The letters of what stands behind a word.
const (
	letterNode = 'i'
	letterTo   = 't'
	letterN    = 'n'
	letterTalk = 'd'
	letterAt   = 'a'
	letterKeep = 'k' // some numbers, or none
	letterOp   = 'o'
	letterText = 'x'
)

// shape is the word of a kind of act, and a letter for each thing that stands behind it.
type shape struct {
	kind         int
	word, fields string
}

var shapes = [...]shape{
	{api.ActTick, "tick", "n"},
	{api.ActRate, "rate", "in"},
	{api.ActDeliver, "deliver", "n"},
	{api.ActDrop, "drop", "n"},
	{api.ActTwice, "twice", "n"},
	{api.ActCut, "cut", "in"},
	{api.ActHeal, "heal", "in"},
	{api.ActPower, "power", "in"},
	{api.ActCrash, "crash", "ink"},
	{api.ActBoot, "boot", "i"},
	{api.ActPeer, "peer", "nx"},
	{api.ActCall, "call", "itodax"},
	{api.ActRetry, "retry", "it"},
	{api.ActDraw, "draw", "in"},
	{api.ActRound, "round", ""},
}

// opWord is what stands for what a client asks.
type opWord struct {
	op   uint8
	word string
}

var opWords = [...]opWord{
	{api.OpSubmit, "submit"},
	{api.OpCancel, "cancel"},
	{api.OpStatus, "status"},
	{api.OpWatch, "watch"},
}

// Line: an act's line.
func Line(a api.Act) (string, api.Errno) {
	s, ok := shapeOf(a.Kind)
	if !ok {
		return "", api.ErrArg
	}
	words := []string{s.word}
	put := func(l ...int) {
		for _, n := range l {
			words = append(words, strconv.Itoa(n))
		}
	}
	rest := a // what no word tells
	rest.Kind = 0
	for _, letter := range s.fields {
		switch letter {
		case letterKeep:
			put(a.Keep...)
			rest.Keep = nil
		case letterOp:
			word, ok := wordOf(a.Op)
			if !ok {
				return "", api.ErrArg
			}
			words = append(words, word)
			rest.Op = 0
		case letterText:
			words = append(words, pattern.Quote(a.Text))
			rest.Text = ""
		default:
			n := number(&rest, letter)
			put(*n)
			*n = 0
		}
	}
	if !isZero(rest) {
		return "", api.ErrArg
	}
	line := strings.Join(words, " ")
	if len(line) > api.MaxLine {
		return "", api.ErrLong
	}
	return line, api.OK
}

// Read: a line's act.
func Read(line string) (api.Act, api.Spot) {
	if fault := unfit(line); fault.Err != api.OK {
		return api.Act{}, fault
	}
	r := reader{line: line}
	word, at := r.word()
	for _, s := range shapes {
		if s.word == word {
			a, fault := r.fields(s.fields)
			if fault.Err != api.OK {
				return api.Act{}, fault
			}
			a.Kind = s.kind
			return a, fault
		}
	}
	return api.Act{}, api.Spot{Err: api.ErrText, At: at}
}

// unfit: why a text can't be a line at all, if so.
func unfit(line string) api.Spot {
	if len(line) > api.MaxLine {
		return api.Spot{Err: api.ErrLong, At: api.MaxLine}
	}
	if at := strings.IndexByte(line, '\n'); at >= 0 {
		return api.Spot{Err: api.ErrText, At: at}
	}
	return api.Spot{}
}

// shapeOf: the shape of a kind of act.
func shapeOf(kind int) (shape, bool) {
	for _, s := range shapes {
		if s.kind == kind {
			return s, true
		}
	}
	return shape{}, false
}

// wordOf: what stands for what a client asks.
func wordOf(op uint8) (string, bool) {
	for _, x := range opWords {
		if x.op == op {
			return x.word, true
		}
	}
	return "", false
}

// number: the number of an act that a letter tells.
func number(a *api.Act, letter rune) *int {
	switch letter {
	case letterNode:
		return &a.Node
	case letterTo:
		return &a.To
	case letterTalk:
		return &a.Talk
	case letterAt:
		return &a.At
	}
	return &a.N
}

// isZero: whether an act has nothing.
func isZero(a api.Act) bool {
	return a.Kind == 0 && a.Node == 0 && a.To == 0 && a.N == 0 && len(a.Keep) == 0 && a.Op == 0 && a.Talk == 0 && a.At == 0 && a.Text == ""
}
