package console

import (
	"strconv"

	"dragoman/api"
	"dragoman/pattern"
)

// reader goes through a line from the left, up to its first fault.
type reader struct {
	line  string
	at    int
	fault api.Spot
}

// word: the next word, up to a blank, and its place; no bytes and the line's length, if there is none.
func (r *reader) word() (word string, at int) {
	if !r.seek() {
		return "", len(r.line)
	}
	at = r.at
	for r.at < len(r.line) && !isBlank(r.line[r.at]) {
		r.at++
	}
	return r.line[at:r.at], at
}

// seek goes to the next word, if there is one.
func (r *reader) seek() bool {
	for r.at < len(r.line) && isBlank(r.line[r.at]) {
		r.at++
	}
	// A remark, and all behind it, says nothing.
	return r.at < len(r.line) && r.line[r.at] != '#'
}

// fail: the fault of a reader that had none.
func (r *reader) fail(e api.Errno, at int) {
	if r.fault.Err == api.OK {
		r.fault = api.Spot{Err: e, At: at}
	}
}

// fields: an act with what stands behind its word, to the line's end.
func (r *reader) fields(letters string) (api.Act, api.Spot) {
	var a api.Act
	for _, letter := range letters {
		switch letter {
		case letterKeep:
			for r.fault.Err == api.OK && r.seek() {
				a.Keep = append(a.Keep, r.number())
			}
		case letterOp:
			a.Op = r.op()
		case letterText:
			a.Text = r.text()
		default:
			*number(&a, letter) = r.number()
		}
	}
	if word, at := r.word(); word != "" {
		r.fail(api.ErrText, at)
	}
	return a, r.fault
}

// number: a number.
func (r *reader) number() int {
	word, at := r.word()
	if !isNumber(word) {
		r.fail(api.ErrText, at)
		return 0
	}
	n, err := strconv.Atoi(word)
	if err != nil {
		r.fail(api.ErrRange, at)
		return 0
	}
	return n
}

// op: what a client asks.
func (r *reader) op() uint8 {
	word, at := r.word()
	for _, x := range opWords {
		if x.word == word {
			return x.op
		}
	}
	r.fail(api.ErrText, at)
	return 0
}

// text: a text in quotes.
func (r *reader) text() string {
	if !r.seek() {
		r.fail(api.ErrText, len(r.line))
		return ""
	}
	text, n, fault := pattern.Quoted(r.line[r.at:], -1)
	if fault.Err != api.OK {
		r.fail(fault.Err, r.at+fault.At)
		return ""
	}
	r.at += n
	if r.at < len(r.line) && !isBlank(r.line[r.at]) {
		r.fail(api.ErrText, r.at)
	}
	return text
}

func isBlank(c byte) bool { return c == ' ' || c == '\t' }

// isNumber: whether a word has the form of a number.
func isNumber(word string) bool {
	digits := word
	if word != "" && word[0] == '-' {
		digits = word[1:]
	}
	if digits == "" || digits[0] == '0' && word != "0" {
		return false
	}
	for i := range len(digits) {
		if digits[i] < '0' || digits[i] > '9' {
			return false
		}
	}
	return true
}
