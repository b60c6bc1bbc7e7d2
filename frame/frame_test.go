package frame_test

import (
	"hash/crc32"
	"slices"
	"strings"
	"testing"

	"dragoman/api"
	"dragoman/frame"
)

// framed: the frame of a payload, as the chapter says it.
func framed(payload string) string {
	n := len(payload)
	return summed(string([]byte{byte(n >> 24), byte(n >> 16), byte(n >> 8), byte(n)})) + summed(payload)
}

// summed: bytes, and the four bytes of their sum.
func summed(s string) string {
	n := crc32.Checksum([]byte(s), crc32.MakeTable(crc32.Castagnoli))
	return s + string([]byte{byte(n >> 24), byte(n >> 16), byte(n >> 8), byte(n)})
}

func put(t *testing.T, payload string) string {
	t.Helper()
	s, e := frame.Put(payload)
	if e != api.OK {
		t.Fatalf("Put of %d bytes: the error %d", len(payload), e)
	}
	return s
}

func takes(t *testing.T, what, s, payload string, n int) {
	t.Helper()
	got, m, e := frame.Take(s)
	if got != payload || m != n || e != api.OK {
		t.Errorf("%s: Take answers %q, %d, %d; want %q, %d", what, got, m, e, payload, n)
	}
}

func refuses(t *testing.T, what, s string, want api.Errno) {
	t.Helper()
	if got, n, e := frame.Take(s); got != "" || n != 0 || e != want {
		t.Errorf("%s: Take answers %q, %d, %d; want the error %d", what, got, n, e, want)
	}
}

// tells: All and Scan tell just these payloads, each at the end of those ahead of it.
func tells(t *testing.T, what, s string, want ...string) {
	t.Helper()
	i, place := 0, 0
	for at, payload := range frame.All(s) {
		if i >= len(want) || at != place || payload != want[i] {
			t.Fatalf("%s: All tells %q at %d as frame %d of %d, want it at %d", what, payload, at, i, len(want), place)
		}
		place += 12 + len(payload)
		i++
	}
	if i != len(want) {
		t.Errorf("%s: All tells %d frames, want %d", what, i, len(want))
	}
	if payloads, good := frame.Scan(s); !slices.Equal(payloads, want) || good != place {
		t.Errorf("%s: Scan tells %q, %d; want %q, %d", what, payloads, good, want, place)
	}
}

func most() string { return strings.Repeat("\x00m", api.MaxFrame/2) }

// payloads are some of all lengths that matter.
func payloads() []string {
	return []string{"", "a", "ab", "\x00", "\xff\xff\xff\xff", strings.Repeat("x", 255), strings.Repeat("y", 256), most()[1:], most()}
}

// The chapter's examples.
func TestExamples(t *testing.T) {
	ab := put(t, "ab")
	if len(ab) != 14 {
		t.Errorf("Put(ab) has %d bytes", len(ab))
	}
	takes(t, "Put(ab) and x", ab+"x", "ab", 14)
	refuses(t, "7 bytes", ab[:7], api.ErrShort)
	refuses(t, "13 bytes", ab[:13], api.ErrShort)
	refuses(t, "the first byte 1", "\x01"+ab[1:], api.ErrBytes)
	tells(t, "Put(a), Put of nothing, and two bytes", put(t, "a")+put(t, "")+"\x00\x00", "a", "")
	if l, good := frame.Scan(put(t, "a") + put(t, "") + "zz"); len(l) != 2 || good != 25 {
		t.Errorf("Scan: %q, %d", l, good)
	}
}

// P3.1: a payload's frame, byte by byte.
func TestPut(t *testing.T) {
	if got := put(t, ""); got != "\x00\x00\x00\x00\x48\x67\x4b\xc7\x00\x00\x00\x00" {
		t.Errorf("Put of nothing: % x", got)
	}
	for _, payload := range payloads() {
		if got := put(t, payload); got != framed(payload) {
			t.Errorf("Put of %d bytes is another frame: %d bytes", len(payload), len(got))
		}
	}
}

// P3.1: MaxFrame bytes are the most.
func TestPutLong(t *testing.T) {
	if got := put(t, most()); got != framed(most()) {
		t.Errorf("Put of MaxFrame bytes is another frame: %d bytes", len(got))
	}
	for _, more := range []string{"m", "mm", most(), strings.Repeat("m", 1<<20)} {
		if s, e := frame.Put(most() + more); s != "" || e != api.ErrLong {
			t.Errorf("Put of MaxFrame and %d bytes: %d bytes, %d", len(more), len(s), e)
		}
	}
}

// P3.2: the front is taken, whatever stands behind it.
func TestTake(t *testing.T) {
	for _, payload := range payloads() {
		for _, behind := range []string{"", "x", "\x00\x00\x00\x00", framed("other"), most()} {
			takes(t, "a frame", framed(payload)+behind, payload, len(payload)+12)
		}
	}
}

// P3.2: fewer bytes than a head has, whatever they are.
func TestTakeOfAlmostNothing(t *testing.T) {
	for _, s := range []string{"\x00\x00\x00\x02abc", "\xff\xff\xff\xff\xff\xff\xff", strings.Repeat("\x00", 7)} {
		for n := range 8 {
			refuses(t, "too few bytes", s[:n], api.ErrShort)
		}
	}
}

// P3.2: a length of more than MaxFrame, though its sum is right; MaxFrame itself only wants its bytes.
func TestTakeLength(t *testing.T) {
	for _, head := range []string{"\x00\x00\x10\x01", "\x00\x01\x00\x00", "\x7f\xff\xff\xff", "\x80\x00\x00\x00", "\xff\xff\xff\xff"} {
		refuses(t, "a long length", summed(head), api.ErrBytes)
		refuses(t, "a long length, and bytes", summed(head)+summed(most()+"m"), api.ErrBytes)
	}
	refuses(t, "a length of MaxFrame", summed("\x00\x00\x10\x00"), api.ErrShort)
}

// P3.2: a length whose sum is another one is no length, also where there are too few bytes for it.
func TestTakeHeadSum(t *testing.T) {
	whole := framed("abc")
	for at := range 8 {
		for change := 1; change < 256; change++ {
			b := []byte(whole)
			b[at] ^= byte(change)
			refuses(t, "a spoilt head", string(b), api.ErrBytes)
			refuses(t, "a spoilt head alone", string(b[:8]), api.ErrBytes)
			refuses(t, "a spoilt head, and a part", string(b[:14]), api.ErrBytes)
		}
	}
}

// P3.2: a payload whose sum is another one is refused, but only when all of it is there.
func TestTakePayloadSum(t *testing.T) {
	for _, payload := range []string{"", "abc", most()} {
		whole := framed(payload)
		for at := 8; at < len(whole); at += 1 + len(whole)/40 {
			b := []byte(whole)
			b[at] ^= 0x10
			refuses(t, "a spoilt payload", string(b), api.ErrBytes)
			refuses(t, "a spoilt payload, and more", string(b)+"more", api.ErrBytes)
			refuses(t, "a spoilt payload, cut", string(b[:len(b)-1]), api.ErrShort)
		}
	}
}

// P3.3: frames up to the first one that Take refuses, and none behind it.
func TestAllStops(t *testing.T) {
	a, b, c := framed("a"), framed(""), framed("ccc")
	spoilt := []byte(b)
	spoilt[11] ^= 1
	tells(t, "nothing", "")
	tells(t, "one", a, "a")
	tells(t, "three", a+b+c, "a", "", "ccc")
	tells(t, "a spoilt one in the midst", a+string(spoilt)+c, "a")
	tells(t, "a spoilt one in front", string(spoilt)+a+c)
	tells(t, "a byte in front", "x"+a+c)
	tells(t, "a byte in the midst", a+b+"x"+c, "a", "")
	tells(t, "a long length in the midst", a+summed("\x00\x00\x10\x01")+c, "a")
	tells(t, "a frame in a frame", framed(a+b)+c, a+b, "ccc")
}

// P3.3, R6: an iterator may be left early, and gone through again, by two at one time.
func TestAllAgain(t *testing.T) {
	all := frame.All(framed("a") + framed("b") + framed("c"))
	for range 2 {
		for leave := 1; leave <= 3; leave++ {
			var got []string
			for _, payload := range all {
				got = append(got, payload)
				if len(got) == leave {
					break
				}
			}
			if !slices.Equal(got, []string{"a", "b", "c"}[:leave]) {
				t.Errorf("left behind %d: %q", leave, got)
			}
		}
	}
	pairs := ""
	for _, x := range all {
		for _, y := range all {
			pairs += x + y + " "
		}
	}
	if pairs != "aa ab ac ba bb bc ca cb cc " {
		t.Errorf("one in the other: %q", pairs)
	}
}

// R3: what Scan answers is new memory.
func TestScanNewMemory(t *testing.T) {
	s := framed("a") + framed("b")
	one, _ := frame.Scan(s)
	one[0] = "x"
	_ = append(one[:1], "y")
	if two, _ := frame.Scan(s); !slices.Equal(two, []string{"a", "b"}) {
		t.Errorf("two lists share memory: %q", two)
	}
}

// P3.4: frames are told as they were put.
func TestBack(t *testing.T) {
	var all strings.Builder
	var l []string
	for n := range 300 {
		payload := strings.Repeat(string([]byte{byte(n), byte(n >> 1)}), n*n%50)
		if n%60 == 0 {
			payload = most()[n%2:]
		}
		l = append(l, payload)
		all.WriteString(put(t, payload))
		if n%30 == 0 {
			tells(t, "as they were put", all.String(), l...)
		}
	}
	tells(t, "as they were put", all.String(), l...)
}

// P3.5: of frames that are cut just those are told that are whole ahead of the cut.
func TestCut(t *testing.T) {
	l := []string{"ab", "", strings.Repeat("long", 20), "\x00\x00\x00\x00"}
	all := ""
	var ends []int
	for _, payload := range l {
		all += put(t, payload)
		ends = append(ends, len(all))
	}
	for cut := range len(all) + 1 {
		whole, good := 0, 0
		for whole < len(ends) && ends[whole] <= cut {
			good = ends[whole]
			whole++
		}
		tells(t, "cut", all[:cut], l[:whole]...)
		refuses(t, "what follows", all[good:cut], api.ErrShort)
	}
}

// P3.6: whichever byte of a frame becomes whatever other one, it is no frame of that length any more.
func TestSpoilt(t *testing.T) {
	for _, payload := range []string{"", "a", "abcdefgh", strings.Repeat("\x00", 30)} {
		whole := put(t, payload)
		for at := range len(whole) {
			for change := 1; change < 256; change++ {
				b := []byte(whole)
				b[at] ^= byte(change)
				if _, n, e := frame.Take(string(b) + whole); e == api.OK && n == len(whole) {
					t.Fatalf("the byte %d of %q is another one, and the frame is taken", at, payload)
				}
			}
		}
	}
}
