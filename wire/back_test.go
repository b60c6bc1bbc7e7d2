package wire_test

import (
	"slices"
	"strings"
	"testing"

	"dragoman/api"
	"dragoman/wire"
)

// part is something that was written: what it is, and how it is read again.
type part struct {
	bytes string
	same  func(*wire.Reader) bool
}

// dice are numbers that look thrown, and are the same in each run.
type dice uint64

func (d *dice) next() uint64 {
	*d ^= *d << 13
	*d ^= *d >> 7
	*d ^= *d << 17
	return uint64(*d)
}

func (d *dice) text() string {
	b := make([]byte, d.next()%9)
	for i := range b {
		b[i] = byte(d.next())
	}
	return string(b)
}

func (d *dice) part(t *testing.T) part {
	n := d.next() >> (d.next() % 64)
	switch d.next() % 6 {
	case 0:
		return part{wire.U8(uint8(n)), func(r *wire.Reader) bool { return r.U8() == uint8(n) }}
	case 1:
		return part{wire.U32(uint32(n)), func(r *wire.Reader) bool { return r.U32() == uint32(n) }}
	case 2:
		return part{wire.U64(n), func(r *wire.Reader) bool { return r.U64() == n }}
	case 3:
		b := n&1 == 1
		return part{wire.Bool(b), func(r *wire.Reader) bool { return r.Bool() == b }}
	case 4:
		s := d.text()
		return part{putText(t, s), func(r *wire.Reader) bool { return r.Text(len(s)) == s }}
	}
	l := make([]string, d.next()%4)
	for i := range l {
		l[i] = d.text()
	}
	return part{putTexts(t, l...), func(r *wire.Reader) bool { return slices.Equal(r.Texts(len(l), 8), l) }}
}

// P1.7: what was written is read as it was, in its order, whatever stands behind it.
func TestThereAndBack(t *testing.T) {
	d := dice(20)
	for range 2000 {
		var all strings.Builder
		parts := make([]part, d.next()%8)
		for i := range parts {
			parts[i] = d.part(t)
			all.WriteString(parts[i].bytes)
		}
		behind := d.text()
		all.WriteString(behind)
		r := wire.New(all.String())
		for i, p := range parts {
			if !p.same(r) {
				t.Fatalf("part %d of % x is read as another one: %v", i, all.String(), r.Fault())
			}
		}
		stands(t, "behind all parts", r, all.String(), behind)
	}
}

// P1.7: of what was written and is cut just the parts ahead of the cut are read.
func TestThereAndCut(t *testing.T) {
	d := dice(7)
	for range 500 {
		ahead, last := d.part(t), d.part(t)
		for n := range len(last.bytes) {
			r := wire.New(ahead.bytes + last.bytes[:n])
			if !ahead.same(r) {
				t.Fatalf("% x is read as another one", ahead.bytes)
			}
			last.same(r)
			if f := r.Fault(); f.Err != api.ErrBytes || f.At < len(ahead.bytes) || f.At > len(ahead.bytes)+n {
				t.Fatalf("% x, cut at %d: %v", last.bytes, n, f)
			}
		}
	}
}

// P1.7: texts at the limits go there and back, too.
func TestThereAndBackAtLimits(t *testing.T) {
	most := strings.Repeat("m", api.MaxFile)
	r := wire.New(putText(t, most) + putTexts(t, "", most[1:], "y") + wire.U8(9))
	if r.Text(api.MaxFile) != most {
		t.Error("a text of MaxFile bytes")
	}
	if l := r.Texts(3, api.MaxFile-1); len(l) != 3 || l[0] != "" || l[1] != most[1:] || l[2] != "y" {
		t.Error("texts of MaxFile bytes")
	}
	if r.U8() != 9 || r.End() != spot(api.OK, 0) {
		t.Error("the byte behind them", r.End())
	}
}

// The chapter's examples.
func TestExamples(t *testing.T) {
	if wire.U8(7)+wire.U32(258)+wire.U64(1)+wire.Bool(true) != "\x07\x00\x00\x01\x02\x00\x00\x00\x00\x00\x00\x00\x01\x01" {
		t.Error("numbers")
	}
	if putText(t, "ab") != "\x00\x00\x00\x02ab" || putTexts(t, "a", "") != "\x00\x00\x00\x02\x00\x00\x00\x01a\x00\x00\x00\x00" {
		t.Error("texts")
	}
	r := wire.New("\x00\x00\x00\x02abc")
	if r.Text(2) != "ab" || r.Rest() != "c" || r.End() != spot(api.ErrBytes, 6) {
		t.Error("Text(2)", r.Rest(), r.End())
	}
	r = wire.New("\x00\x00\x00\x02abc")
	if r.Text(1) != "" || r.Fault() != spot(api.ErrLong, 0) || r.U8() != 0 {
		t.Error("Text(1)", r.Fault())
	}
	r = wire.New("\x00\x00\x00\x09a")
	if r.Text(99) != "" || r.Fault() != spot(api.ErrBytes, 0) {
		t.Error("Text(99)", r.Fault())
	}
	r = wire.New("\x02")
	if r.Bool() || r.Fault() != spot(api.ErrBytes, 0) {
		t.Error("Bool", r.Fault())
	}
	r = wire.New("\x00\x00\x00\x01\x00\x00\x00\x01")
	if len(r.Texts(1, 9)) != 0 || r.Fault() != spot(api.ErrBytes, 4) {
		t.Error("Texts(1, 9)", r.Fault())
	}
	if len(r.Texts(0, 9)) != 0 || r.Fault() != spot(api.ErrBytes, 4) {
		t.Error("Texts(0, 9)", r.Fault())
	}
}
