package pattern

import (
	"strings"

	"dragoman/api"
)

const (
	firstPlain = 32
	lastPlain  = 126
	digits     = "0123456789abcdef"
)

// Quote: a text in quotes.
func Quote(s string) string {
	var b strings.Builder
	b.WriteByte('"')
	for i := range len(s) {
		writeForm(&b, s[i])
	}
	b.WriteByte('"')
	return b.String()
}

// Quoted: the text in quotes with which a text begins, of at most so many bytes (below 0: of any number), and how many bytes that takes.
func Quoted(s string, most int) (text string, n int, fault api.Spot) {
	r := &reader{text: s}
	fault = guard(func() { text = r.quoted(most) })
	if fault.Err != api.OK {
		return "", 0, fault
	}
	return text, r.at, fault
}

// Unquote: the text that stands in quotes.
func Unquote(s string) (string, api.Spot) {
	text, n, fault := Quoted(s, -1)
	if fault.Err != api.OK {
		return "", fault
	}
	if n < len(s) {
		return "", api.Spot{Err: api.ErrText, At: n}
	}
	return text, api.Spot{}
}

// writeForm writes what stands for a byte.
func writeForm(b *strings.Builder, c byte) {
	if letter := short(c); letter != 0 {
		b.WriteByte('\\')
		b.WriteByte(letter)
		return
	}
	if plain(c) {
		b.WriteByte(c)
		return
	}
	b.WriteString(`\x`)
	b.WriteByte(digits[c>>4])
	b.WriteByte(digits[c&15])
}

// plain: whether a byte is one of those that can be seen.
func plain(c byte) bool { return c >= firstPlain && c <= lastPlain }

// short: what stands behind a \ for a byte that has a form of two bytes; 0 for any other one.
func short(c byte) byte {
	switch c {
	case '"', '\\':
		return c
	case '\n':
		return 'n'
	case '\r':
		return 'r'
	case '\t':
		return 't'
	}
	return 0
}

// byDigits: whether two digits stand for a byte.
func byDigits(c byte) bool { return short(c) == 0 && !plain(c) }

// quoted: the text whose form in quotes stands next, of at most so many bytes.
func (r *reader) quoted(most int) string {
	r.take('"')
	var b strings.Builder
	for !r.skips('"') {
		if b.Len() == most {
			refuse(api.ErrLong, r.at)
		}
		b.WriteByte(r.form())
	}
	return b.String()
}

// form: the byte whose form stands next.
func (r *reader) form() byte {
	c := r.next()
	if c != '\\' {
		if !plain(c) {
			r.refuseLast()
		}
		return c
	}
	switch c = r.next(); c {
	case '"', '\\':
		return c
	case 'n':
		return '\n'
	case 'r':
		return '\r'
	case 't':
		return '\t'
	case 'x':
		return r.twoDigits()
	}
	r.refuseLast()
	return 0
}

// twoDigits: the byte for which the next two digits stand.
func (r *reader) twoDigits() byte {
	high := r.digit() << 4
	if !mayBegin(high) {
		r.refuseLast()
	}
	c := high | r.digit()
	if !byDigits(c) {
		r.refuseLast()
	}
	return c
}

// mayBegin: whether two digits stand for some byte that begins with these high bits.
func mayBegin(high byte) bool {
	for low := range len(digits) {
		if byDigits(high | byte(low)) {
			return true
		}
	}
	return false
}

// digit: the number of the next digit.
func (r *reader) digit() byte {
	n := strings.IndexByte(digits, r.next())
	if n < 0 {
		r.refuseLast()
	}
	return byte(n)
}
