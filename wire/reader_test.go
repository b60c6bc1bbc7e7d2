package wire_test

import (
	"math"
	"slices"
	"strings"
	"testing"

	"dragoman/api"
	"dragoman/wire"
)

func spot(e api.Errno, at int) api.Spot { return api.Spot{Err: e, At: at} }

// stands: a reader without a fault, of which just rest is left, at its place in all bytes of its text.
func stands(t *testing.T, what string, r *wire.Reader, all, rest string) {
	t.Helper()
	end := spot(api.OK, 0)
	if rest != "" {
		end = spot(api.ErrBytes, len(all)-len(rest))
	}
	if r.Fault() != spot(api.OK, 0) || r.Rest() != rest || r.End() != end {
		t.Errorf("%s: fault %v, rest %q, end %v; want rest %q, end %v", what, r.Fault(), r.Rest(), r.End(), rest, end)
	}
}

// failed: a reader with that fault, of which nothing can be read any more.
func failed(t *testing.T, what string, r *wire.Reader, fault api.Spot) {
	t.Helper()
	if r.Fault() != fault || r.End() != fault || r.Rest() != "" {
		t.Errorf("%s: fault %v, end %v, rest %q; want %v", what, r.Fault(), r.End(), r.Rest(), fault)
	}
	if r.U8() != 0 || r.U32() != 0 || r.U64() != 0 || r.Bool() || r.Text(9) != "" || len(r.Texts(9, 9)) != 0 || r.Text(-1) != "" || len(r.Texts(-1, -1)) != 0 {
		t.Errorf("%s: something is read behind a fault", what)
	}
	if r.Fault() != fault || r.End() != fault || r.Rest() != "" {
		t.Errorf("%s: another fault behind a fault: %v, %v, %q", what, r.Fault(), r.End(), r.Rest())
	}
}

// reads are the reader's calls, each answering whether it answered zero.
func reads() map[string]func(*wire.Reader) bool {
	return map[string]func(*wire.Reader) bool{
		"U8":    func(r *wire.Reader) bool { return r.U8() == 0 },
		"U32":   func(r *wire.Reader) bool { return r.U32() == 0 },
		"U64":   func(r *wire.Reader) bool { return r.U64() == 0 },
		"Bool":  func(r *wire.Reader) bool { return !r.Bool() },
		"Text":  func(r *wire.Reader) bool { return r.Text(math.MaxInt) == "" },
		"Texts": func(r *wire.Reader) bool { return len(r.Texts(math.MaxInt, math.MaxInt)) == 0 },
	}
}

// P1.3: a reader of these bytes, each one with a place of its own.
func TestNew(t *testing.T) {
	stands(t, "New of nothing", wire.New(""), "", "")
	stands(t, "New(abc)", wire.New("abc"), "abc", "abc")
	a, b := wire.New("ab"), wire.New("ab")
	a.U8()
	stands(t, "one reader", a, "ab", "b")
	stands(t, "the other one", b, "ab", "ab")
	a.U32()
	stands(t, "the other one behind a fault", b, "ab", "ab")
}

// P1.4: the number, and the place is behind it.
func TestReadNumbers(t *testing.T) {
	all := "\x81\x82\x83\x84\x85\x86\x87\x88\x89\x8a\x8b\x8c\x8dz"
	r := wire.New(all)
	if n := r.U8(); n != 0x81 {
		t.Errorf("U8: %x", n)
	}
	stands(t, "U8", r, all, all[1:])
	if n := r.U32(); n != 0x82838485 {
		t.Errorf("U32: %x", n)
	}
	stands(t, "U32", r, all, all[5:])
	if n := r.U64(); n != 0x868788898a8b8c8d {
		t.Errorf("U64: %x", n)
	}
	stands(t, "U64", r, all, "z")
	if n := r.U8(); n != 'z' {
		t.Errorf("the last U8: %x", n)
	}
	stands(t, "all", r, all, "")
	if n := wire.New("\xff\xff\xff\xff\xff\xff\xff\xff").U64(); n != 1<<64-1 {
		t.Errorf("the greatest U64: %x", n)
	}
	if n := wire.New("\xff\xff\xff\xff").U32(); n != 1<<32-1 {
		t.Errorf("the greatest U32: %x", n)
	}
}

// P1.4: with fewer bytes than a number has it fails at its place, wherever that is.
func TestReadNumbersTooShort(t *testing.T) {
	widths := map[string]int{"U8": 1, "U32": 4, "U64": 8, "Bool": 1}
	for name, width := range widths {
		for left := range width {
			for ahead := range 3 {
				r := wire.New(strings.Repeat("\xff", ahead) + strings.Repeat("\x01", left))
				for range ahead {
					r.U8()
				}
				if !reads()[name](r) {
					t.Errorf("%s of %d bytes answers something", name, left)
				}
				failed(t, name, r, spot(api.ErrBytes, ahead))
			}
		}
		all := strings.Repeat("\x01", width)
		r := wire.New(all)
		if reads()[name](r) {
			t.Errorf("%s of %d bytes answers zero", name, width)
		}
		stands(t, name, r, all, "")
	}
}

// P1.4: 0 and 1 are the truths; another byte fails at its place.
func TestReadBool(t *testing.T) {
	for c := range 256 {
		all := "\xff" + string([]byte{byte(c)}) + "\x01"
		r := wire.New(all)
		r.U8()
		if b := r.Bool(); b != (c == 1) {
			t.Errorf("Bool of %d: %v", c, b)
		}
		if c <= 1 {
			stands(t, "Bool", r, all, "\x01")
		} else {
			failed(t, "Bool", r, spot(api.ErrBytes, 1))
		}
	}
}

// P1.5: a text of at most so many bytes.
func TestReadText(t *testing.T) {
	all := "\xff\x00\x00\x00\x03a\x00\xffrest"
	for _, most := range []int{3, 4, 1 << 40, math.MaxInt} {
		r := wire.New(all)
		r.U8()
		if s := r.Text(most); s != "a\x00\xff" {
			t.Errorf("Text(%d): %q", most, s)
		}
		stands(t, "Text", r, all, "rest")
	}
	for _, most := range []int{2, 1, 0, -1, math.MinInt} {
		r := wire.New(all)
		r.U8()
		if s := r.Text(most); s != "" {
			t.Errorf("Text(%d): %q", most, s)
		}
		failed(t, "Text above most", r, spot(api.ErrLong, 1))
	}
}

// P1.5: of nothing too the length is read; a most below 0 takes not even that.
func TestReadTextOfNothing(t *testing.T) {
	all := "\x00\x00\x00\x00a"
	for _, most := range []int{0, 1, math.MaxInt} {
		r := wire.New(all)
		if s := r.Text(most); s != "" {
			t.Errorf("Text(%d) of nothing: %q", most, s)
		}
		stands(t, "Text of nothing", r, all, "a")
	}
	for _, most := range []int{-1, -2, math.MinInt} {
		r := wire.New(all)
		if s := r.Text(most); s != "" {
			t.Errorf("Text(%d) of nothing: %q", most, s)
		}
		failed(t, "Text of most below 0", r, spot(api.ErrLong, 0))
	}
}

// P1.5: bytes that end too early, in the length or in the text: at the place where the text's bytes begin, with whatever most.
func TestReadTextTooShort(t *testing.T) {
	whole := "\x00\x00\x00\x03abc"
	for n := range len(whole) {
		r := wire.New("\xff" + whole[:n])
		r.U8()
		if s := r.Text(3); s != "" {
			t.Errorf("Text of %d bytes: %q", n, s)
		}
		failed(t, "Text cut", r, spot(api.ErrBytes, 1))
	}
	for n := range 4 {
		r := wire.New("\xff" + whole[:n])
		r.U8()
		r.Text(-1)
		failed(t, "Text(-1) without a length", r, spot(api.ErrBytes, 1))
	}
	for _, huge := range []string{"\xff\xff\xff\xff", "\x7f\xff\xff\xff", "\x80\x00\x00\x00"} {
		r := wire.New(huge + "abc")
		r.Text(math.MaxInt)
		failed(t, "Text of a huge length", r, spot(api.ErrBytes, 0))
	}
}

// P1.5, R2: above most goes ahead of bytes that are not left.
func TestReadTextLongFirst(t *testing.T) {
	for _, s := range []string{"\x00\x00\x00\x09a", "\x00\x00\x00\x09", "\xff\xff\xff\xff", "\x80\x00\x00\x00a"} {
		r := wire.New("\xff" + s)
		r.U8()
		r.Text(8)
		failed(t, "Text above most, and cut", r, spot(api.ErrLong, 1))
	}
}

// P1.5: texts, at most so many of at most so many bytes.
func TestReadTexts(t *testing.T) {
	l := []string{"ab", "", "c\xff"}
	all := "\xff" + putTexts(t, l...) + "rest"
	for _, count := range []int{3, 4, math.MaxInt} {
		for _, most := range []int{2, 3, math.MaxInt} {
			r := wire.New(all)
			r.U8()
			if got := r.Texts(count, most); !slices.Equal(got, l) {
				t.Errorf("Texts(%d, %d): %q", count, most, got)
			}
			stands(t, "Texts", r, all, "rest")
		}
	}
	for _, count := range []int{2, 0, -1, math.MinInt} {
		for _, most := range []int{-1, 1, 2} {
			r := wire.New(all)
			r.U8()
			if got := r.Texts(count, most); len(got) != 0 {
				t.Errorf("Texts(%d, %d): %q", count, most, got)
			}
			failed(t, "Texts above count", r, spot(api.ErrLong, 1))
		}
	}
}

// P1.5: a text of texts that is above most fails where its own bytes begin, and nothing is answered.
func TestReadTextsAboveMost(t *testing.T) {
	all := "\xff" + putTexts(t, "", "a", "bc", "d")
	for most, at := range map[int]int{1: 14, 0: 9, -1: 5, math.MinInt: 5} {
		r := wire.New(all)
		r.U8()
		if got := r.Texts(4, most); len(got) != 0 {
			t.Errorf("Texts(4, %d): %q", most, got)
		}
		failed(t, "Texts above most", r, spot(api.ErrLong, at))
	}
}

// P1.5: of no texts only the count counts.
func TestReadNoTexts(t *testing.T) {
	all := "\x00\x00\x00\x00a"
	for _, count := range []int{0, 1, math.MaxInt} {
		for _, most := range []int{math.MinInt, -1, 0, 1} {
			r := wire.New(all)
			if got := r.Texts(count, most); len(got) != 0 {
				t.Errorf("Texts(%d, %d) of none: %q", count, most, got)
			}
			stands(t, "Texts of none", r, all, "a")
		}
	}
	for _, count := range []int{-1, math.MinInt} {
		r := wire.New(all)
		if got := r.Texts(count, 9); len(got) != 0 {
			t.Errorf("Texts(%d, 9) of none: %q", count, got)
		}
		failed(t, "Texts of a count below 0", r, spot(api.ErrLong, 0))
	}
}

// P1.5: bytes that end too early: in the count at its place, later where the text begins that is not there whole.
func TestReadTextsTooShort(t *testing.T) {
	ahead := "\xff"
	whole := putTexts(t, "ab", "", "c")
	starts := []int{0, 4, 10, 14}
	for n := range len(whole) {
		r := wire.New(ahead + whole[:n])
		r.U8()
		if got := r.Texts(3, 2); len(got) != 0 {
			t.Errorf("Texts of %d bytes: %q", n, got)
		}
		at := 0
		for _, start := range starts {
			if n >= start {
				at = start
			}
		}
		failed(t, "Texts cut", r, spot(api.ErrBytes, len(ahead)+at))
	}
	for n := range 4 {
		r := wire.New(ahead + whole[:n])
		r.U8()
		r.Texts(-1, -1)
		failed(t, "Texts(-1, -1) without a count", r, spot(api.ErrBytes, 1))
	}
}

// R1, P1.5: a huge count takes no more than there is.
func TestReadTextsHugeCount(t *testing.T) {
	all := "\xff\xff\xff\xff" + strings.Repeat("\x00", 4*3) + "\x00\x00"
	r := wire.New(all)
	if got := r.Texts(math.MaxInt, math.MaxInt); len(got) != 0 {
		t.Errorf("a huge count: %q", got)
	}
	failed(t, "a huge count", r, spot(api.ErrBytes, 16))
	r = wire.New(all)
	r.Texts(api.MaxFile, math.MaxInt)
	failed(t, "a huge count above count", r, spot(api.ErrLong, 0))
}

// R3: what is answered is new memory.
func TestReadTextsNewMemory(t *testing.T) {
	s := putTexts(t, "a", "b")
	r := wire.New(s + s)
	one := r.Texts(2, 1)
	one[0], one[1] = "x", "y"
	_ = append(one, "z")
	two := r.Texts(2, 1)
	again := wire.New(s).Texts(2, 1)
	if !slices.Equal(two, []string{"a", "b"}) || !slices.Equal(again, []string{"a", "b"}) || !slices.Equal(one, []string{"x", "y"}) {
		t.Errorf("lists share memory: %q %q %q", one, two, again)
	}
}

// P1.4 to P1.6: behind a fault each call reads nothing and answers zero; the first fault stays.
func TestBehindFault(t *testing.T) {
	good := "\x00\x00\x00\x01\x00\x00\x00\x01\x01\x01\x01\x01"
	for name, read := range reads() {
		r := wire.New("\x02" + good)
		r.Bool()
		if !read(r) {
			t.Errorf("%s behind a fault answers something", name)
		}
		failed(t, name+" behind a truth that is none", r, spot(api.ErrBytes, 0))
		r = wire.New("\x07" + good)
		r.U8()
		r.Text(0)
		if !read(r) {
			t.Errorf("%s behind a fault answers something", name)
		}
		failed(t, name+" behind a text that is too long", r, spot(api.ErrLong, 1))
		r = wire.New("\x01\x01\x01")
		r.U32()
		if !read(r) {
			t.Errorf("%s behind a fault answers something", name)
		}
		failed(t, name+" behind a number that is not there", r, spot(api.ErrBytes, 0))
	}
}

// P1.6: asking changes nothing; bytes that are left are no fault yet.
func TestEnd(t *testing.T) {
	r := wire.New("ab")
	for range 2 {
		stands(t, "at first", r, "ab", "ab")
	}
	if r.U8() != 'a' {
		t.Error("End has read something")
	}
	for range 2 {
		stands(t, "in the midst", r, "ab", "b")
	}
	if r.U8() != 'b' {
		t.Error("End is a fault")
	}
	for range 2 {
		stands(t, "at the end", r, "ab", "")
	}
	r.U8()
	failed(t, "behind the end", r, spot(api.ErrBytes, 2))
}

// P1.6, R4: a nil reader has ErrNil at 0, and answers zeros.
func TestNilReader(t *testing.T) {
	for name, read := range reads() {
		var r *wire.Reader
		if !read(r) {
			t.Errorf("%s of nil answers something", name)
		}
		failed(t, name+" of nil", r, spot(api.ErrNil, 0))
	}
}
