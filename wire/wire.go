// Package wire is layer 1: numbers and texts as bytes of fixed widths, the highest byte first, and a reader that stops at the first thing that is wrong. See shared/doc/01-wire.md.
package wire

import (
	"strings"

	"dragoman/api"
)

// How many bytes the numbers have.
const (
	width8  = 1
	width32 = 4
	width64 = 8
)

// U8: the byte of a number.
func U8(n uint8) string { return number(uint64(n), width8) }

// U32: the four bytes of a number.
func U32(n uint32) string { return number(uint64(n), width32) }

// U64: the eight bytes of a number.
func U64(n uint64) string { return number(n, width64) }

// Bool: the byte of a truth.
func Bool(b bool) string {
	if b {
		return U8(1)
	}
	return U8(0)
}

// Text: a text's length, and the text.
func Text(s string) (string, api.Errno) {
	if len(s) > api.MaxFile {
		return "", api.ErrLong
	}
	return length(s) + s, api.OK
}

// Texts: how many texts there are, and each one's bytes.
func Texts(l ...string) (string, api.Errno) {
	if len(l) > api.MaxFile || !fit(l) {
		return "", api.ErrLong
	}
	var b strings.Builder
	b.WriteString(U32(uint32(len(l))))
	for _, s := range l {
		b.WriteString(length(s))
		b.WriteString(s)
	}
	return b.String(), api.OK
}

// number: the lowest width bytes of n, the highest of them first.
func number(n uint64, width int) string {
	b := make([]byte, width)
	for i := width - 1; i >= 0; i-- {
		b[i] = byte(n)
		n >>= 8
	}
	return string(b)
}

// length: the bytes of how many bytes a text has.
func length(s string) string { return U32(uint32(len(s))) }

// fit: whether texts have together at most MaxFile bytes.
func fit(l []string) bool {
	left := api.MaxFile
	for _, s := range l {
		if len(s) > left {
			return false
		}
		left -= len(s)
	}
	return true
}

// Reader reads bytes from the front on, up to its first fault.
type Reader struct {
	text  string
	at    int
	fault api.Spot
}

// New: a reader of these bytes.
func New(s string) *Reader { return &Reader{text: s} }

// U8: a number of one byte.
func (r *Reader) U8() uint8 { return uint8(r.number(width8)) }

// U32: a number of four bytes.
func (r *Reader) U32() uint32 { return uint32(r.number(width32)) }

// U64: a number of eight bytes.
func (r *Reader) U64() uint64 { return r.number(width64) }

// Bool: a truth.
func (r *Reader) Bool() bool {
	n := r.U8()
	if n > 1 {
		r.fail(api.ErrBytes, r.at-width8)
	}
	return n == 1
}

// Text: a text of at most so many bytes.
func (r *Reader) Text(most int) string {
	n, start, ok := r.head(most)
	if !ok {
		return ""
	}
	// n is held against what is left as an int64: an int may be too narrow for it.
	if int64(n) > int64(len(r.text)-r.at) {
		r.fail(api.ErrBytes, start)
		return ""
	}
	from := r.at
	r.at += int(n)
	return r.text[from:r.at]
}

// Texts: at most count texts of at most so many bytes each.
func (r *Reader) Texts(count, most int) []string {
	n, _, ok := r.head(count)
	if !ok {
		return nil
	}
	// No room is made ahead: n is only what the bytes claim.
	var l []string
	for range n {
		l = append(l, r.Text(most))
		if !r.whole() {
			return nil
		}
	}
	return l
}

// Fault: what went wrong, and where.
func (r *Reader) Fault() api.Spot {
	if r == nil {
		return api.Spot{Err: api.ErrNil}
	}
	return r.fault
}

// Rest: the bytes that were not read yet.
func (r *Reader) Rest() string {
	if !r.whole() {
		return ""
	}
	return r.text[r.at:]
}

// End: the fault, or that bytes are left.
func (r *Reader) End() api.Spot {
	if r.whole() && r.at < len(r.text) {
		return api.Spot{Err: api.ErrBytes, At: r.at}
	}
	return r.Fault()
}

// whole: whether there is a reader, and it has not failed.
func (r *Reader) whole() bool { return r != nil && r.fault.Err == api.OK }

// fail: the fault of a reader that had none.
func (r *Reader) fail(e api.Errno, at int) { r.fault = api.Spot{Err: e, At: at} }

// number: the next width bytes as a number.
func (r *Reader) number(width int) uint64 {
	if !r.whole() {
		return 0
	}
	if len(r.text)-r.at < width {
		r.fail(api.ErrBytes, r.at)
		return 0
	}
	var n uint64
	for range width {
		n = n<<8 | uint64(r.text[r.at])
		r.at++
	}
	return n
}

// head: the number with which a text or texts begin, which may not be above most, and where it stands; ok: it could be read.
func (r *Reader) head(most int) (n uint32, start int, ok bool) {
	if !r.whole() {
		return 0, 0, false
	}
	start = r.at
	n = r.U32()
	if r.whole() && int64(n) > int64(most) {
		r.fail(api.ErrLong, start)
	}
	return n, start, r.whole()
}
