package wire_test

import (
	"strings"
	"testing"

	"dragoman/api"
	"dragoman/wire"
)

func want(t *testing.T, what, got, want string) {
	t.Helper()
	if got != want {
		t.Errorf("%s: % x, want % x", what, got, want)
	}
}

// P1.1: the highest byte first, at every place of a number.
func TestNumbers(t *testing.T) {
	want(t, "U8(0)", wire.U8(0), "\x00")
	want(t, "U8(7)", wire.U8(7), "\x07")
	want(t, "U8(128)", wire.U8(128), "\x80")
	want(t, "U8(255)", wire.U8(255), "\xff")
	want(t, "U32(0)", wire.U32(0), "\x00\x00\x00\x00")
	want(t, "U32(258)", wire.U32(258), "\x00\x00\x01\x02")
	want(t, "U32", wire.U32(0x81828384), "\x81\x82\x83\x84")
	want(t, "U32 greatest", wire.U32(1<<32-1), "\xff\xff\xff\xff")
	want(t, "U64(0)", wire.U64(0), "\x00\x00\x00\x00\x00\x00\x00\x00")
	want(t, "U64(1)", wire.U64(1), "\x00\x00\x00\x00\x00\x00\x00\x01")
	want(t, "U64", wire.U64(0x8182838485868788), "\x81\x82\x83\x84\x85\x86\x87\x88")
	want(t, "U64 greatest", wire.U64(1<<64-1), "\xff\xff\xff\xff\xff\xff\xff\xff")
	for n := range 256 {
		want(t, "U8", wire.U8(uint8(n)), string([]byte{byte(n)}))
	}
	for k := range 8 {
		b := make([]byte, 8)
		b[7-k] = 0xa5
		want(t, "U64 shifted", wire.U64(0xa5<<(8*k)), string(b))
		if k < 4 {
			want(t, "U32 shifted", wire.U32(0xa5<<(8*k)), string(b[4:]))
		}
	}
}

// P1.1: a truth is 1 or 0.
func TestBool(t *testing.T) {
	want(t, "Bool(true)", wire.Bool(true), "\x01")
	want(t, "Bool(false)", wire.Bool(false), "\x00")
}

func putText(t *testing.T, s string) string {
	t.Helper()
	b, e := wire.Text(s)
	if e != api.OK {
		t.Fatalf("Text of %d bytes: %d", len(s), e)
	}
	return b
}

func putTexts(t *testing.T, l ...string) string {
	t.Helper()
	b, e := wire.Texts(l...)
	if e != api.OK {
		t.Fatalf("Texts of %d: %d", len(l), e)
	}
	return b
}

// P1.2: a text's length and the text, whatever bytes it has.
func TestText(t *testing.T) {
	want(t, "Text of nothing", putText(t, ""), "\x00\x00\x00\x00")
	want(t, "Text(ab)", putText(t, "ab"), "\x00\x00\x00\x02ab")
	want(t, "Text of bytes", putText(t, "\xff\x00\xc3\xa9"), "\x00\x00\x00\x04\xff\x00\xc3\xa9")
	long := strings.Repeat("x", 258)
	want(t, "Text of 258", putText(t, long), "\x00\x00\x01\x02"+long)
}

// P1.2: MaxFile bytes are the most of a text.
func TestTextLong(t *testing.T) {
	most := strings.Repeat("m", api.MaxFile)
	if b := putText(t, most); b != "\x00\x10\x00\x00"+most {
		t.Errorf("Text of MaxFile bytes: %d bytes, or others", len(b))
	}
	for _, n := range []int{1, 2, api.MaxFile} {
		if b, e := wire.Text(most + most[:n]); e != api.ErrLong || b != "" {
			t.Errorf("Text of MaxFile + %d bytes: %d bytes, %d", n, len(b), e)
		}
	}
}

// P1.2: how many texts, and each one's bytes.
func TestTexts(t *testing.T) {
	want(t, "Texts of none", putTexts(t), "\x00\x00\x00\x00")
	want(t, "Texts of a nil list", putTexts(t, []string(nil)...), "\x00\x00\x00\x00")
	want(t, "Texts of an empty list", putTexts(t, []string{}...), "\x00\x00\x00\x00")
	want(t, "Texts of nothing", putTexts(t, ""), "\x00\x00\x00\x01\x00\x00\x00\x00")
	want(t, "Texts(a, nothing)", putTexts(t, "a", ""), "\x00\x00\x00\x02\x00\x00\x00\x01a\x00\x00\x00\x00")
	want(t, "Texts(bc, nothing, \xff)", putTexts(t, "bc", "", "\xff"), "\x00\x00\x00\x03\x00\x00\x00\x02bc\x00\x00\x00\x00\x00\x00\x00\x01\xff")
	l := make([]string, 258)
	want(t, "Texts of 258", putTexts(t, l...), "\x00\x00\x01\x02"+strings.Repeat("\x00", 4*258))
}

// P1.2: MaxFile bytes are the most of texts together; their lengths do not count.
func TestTextsLong(t *testing.T) {
	most := strings.Repeat("m", api.MaxFile)
	half := most[:api.MaxFile/2]
	if b := putTexts(t, most); b != "\x00\x00\x00\x01\x00\x10\x00\x00"+most {
		t.Errorf("one text of MaxFile bytes: %d bytes, or others", len(b))
	}
	if b := putTexts(t, half, "", half); b != "\x00\x00\x00\x03\x00\x08\x00\x00"+half+"\x00\x00\x00\x00\x00\x08\x00\x00"+half {
		t.Errorf("three texts of MaxFile bytes: %d bytes, or others", len(b))
	}
	for _, l := range [][]string{{most + "m"}, {most, "m"}, {"m", most}, {half, half, "m"}, {"m", "", half, half}, {most, most}} {
		if b, e := wire.Texts(l...); e != api.ErrLong || b != "" {
			t.Errorf("%d texts of more than MaxFile bytes: %d bytes, %d", len(l), len(b), e)
		}
	}
}

// P1.2: MaxFile is the most of how many texts there are.
func TestTextsMany(t *testing.T) {
	l := make([]string, api.MaxFile+1)
	if b := putTexts(t, l[1:]...); b != "\x00\x10\x00\x00"+strings.Repeat("\x00", 4*api.MaxFile) {
		t.Errorf("MaxFile texts: %d bytes, or others", len(b))
	}
	if b, e := wire.Texts(l...); e != api.ErrLong || b != "" {
		t.Errorf("MaxFile + 1 texts: %d bytes, %d", len(b), e)
	}
	for i := range l {
		l[i] = "x"
	}
	b := putTexts(t, l[1:]...)
	if len(b) != 4+5*api.MaxFile || b[:14] != "\x00\x10\x00\x00\x00\x00\x00\x01x\x00\x00\x00\x01x" {
		t.Errorf("MaxFile texts of a byte: %d bytes, or others", len(b))
	}
	if b, e := wire.Texts(l...); e != api.ErrLong || b != "" {
		t.Errorf("MaxFile + 1 texts of a byte: %d bytes, %d", len(b), e)
	}
	r := wire.New(b)
	if got := r.Texts(api.MaxFile, 1); len(got) != api.MaxFile || got[api.MaxFile-1] != "x" || r.End() != (api.Spot{}) {
		t.Errorf("MaxFile texts read: %d, %v", len(got), r.End())
	}
}

// R3: the list that is handed in stays as it is, the room behind its end too.
func TestTextsKeepsItsList(t *testing.T) {
	room := []string{"a", "b", "c", "d"}
	putTexts(t, room[:2]...)
	if strings.Join(room, " ") != "a b c d" {
		t.Errorf("the list was changed: %q", room)
	}
}
