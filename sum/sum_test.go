package sum_test

import (
	"hash/crc32"
	"math"
	"strings"
	"testing"

	"dragoman/api"
	"dragoman/sum"
)

// moved: a number moved by bits, one after the other, as the chapter says it.
func moved(a uint32, bits int) uint32 {
	for range bits {
		t := a & 1
		a >>= 1
		if t == 1 {
			a ^= 0x82f63b78
		}
	}
	return a
}

// slow: the register behind the bytes of a text, bit by bit, as the chapter says it, turned over.
func slow(register uint32, s string) uint32 {
	for i := range len(s) {
		for bit := range 8 {
			t := register&1 ^ uint32(s[i])>>bit&1
			register >>= 1
			if t == 1 {
				register ^= 0x82f63b78
			}
		}
	}
	return ^register
}

// dice are numbers that look thrown, and are the same in each run.
type dice uint64

func (d *dice) next() uint64 {
	*d ^= *d << 13
	*d ^= *d >> 7
	*d ^= *d << 17
	return uint64(*d)
}

func (d *dice) text(n int) string {
	b := make([]byte, n)
	for i := range b {
		b[i] = byte(d.next() >> 20)
	}
	return string(b)
}

// texts: each byte alone, and texts of all lengths up to some.
func texts() []string {
	l := []string{"", "123456789", strings.Repeat("\x00", 70), strings.Repeat("\xff", 70), "gr\xc3\xbc\xc3\x9fe\n\x00"}
	for c := range 256 {
		l = append(l, string([]byte{byte(c)}), string([]byte{0, byte(c), 0}))
	}
	d := dice(2)
	for n := range 100 {
		l = append(l, d.text(n))
	}
	return append(l, d.text(5000))
}

func same(t *testing.T, what string, got, want uint32) {
	t.Helper()
	if got != want {
		t.Errorf("%s: %08X, want %08X", what, got, want)
	}
}

func join(t *testing.T, a, b uint32, n int) uint32 {
	t.Helper()
	got, e := sum.Join(a, b, n)
	if e != api.OK {
		t.Errorf("Join(%08X, %08X, %d): the error %d", a, b, n, e)
	}
	return got
}

// The chapter's examples.
func TestExamples(t *testing.T) {
	same(t, "Of(123456789)", sum.Of("123456789"), 0xE3069283)
	same(t, "Of of nothing", sum.Of(""), 0)
	same(t, "Of(a)", sum.Of("a"), 0xC1D04330)
	same(t, "More", sum.More(sum.Of("1234"), "56789"), 0xE3069283)
	same(t, "Join", join(t, sum.Of("1234"), sum.Of("56789"), 5), 0xE3069283)
	if n, e := sum.Join(1, 2, -1); n != 0 || e != api.ErrArg {
		t.Errorf("Join(1, 2, -1): %08X, %d", n, e)
	}
}

// P2.1: the sum of the bytes, bit by bit; and it is the one that others know by its name.
func TestOf(t *testing.T) {
	table := crc32.MakeTable(crc32.Castagnoli)
	for _, s := range texts() {
		same(t, "Of", sum.Of(s), slow(math.MaxUint32, s))
		same(t, "Of, as others have it", sum.Of(s), crc32.Checksum([]byte(s), table))
	}
}

// P2.1: a long text.
func TestOfLong(t *testing.T) {
	s := strings.Repeat("0123456789abcdef", 1<<18)
	same(t, "Of of 4 MiB", sum.Of(s), crc32.Checksum([]byte(s), crc32.MakeTable(crc32.Castagnoli)))
}

// P2.2: the register begins with the number turned over, whatever it is.
func TestMore(t *testing.T) {
	for _, from := range []uint32{0, 1, 2, 0x80000000, 0x12345678, 0xe3069283, math.MaxUint32} {
		same(t, "More of nothing", sum.More(from, ""), from)
		for _, s := range texts() {
			same(t, "More", sum.More(from, s), slow(^from, s))
		}
	}
}

// P2.3: a moved by n bytes, and b added.
func TestJoin(t *testing.T) {
	d := dice(3)
	for n := range 130 {
		for range 20 {
			a, b := uint32(d.next()), uint32(d.next())
			same(t, "Join", join(t, a, b, n), moved(a, 8*n)^b)
		}
		for bit := range 32 {
			same(t, "Join of a bit", join(t, 1<<bit, 0, n), moved(1<<bit, 8*n))
		}
	}
	for _, n := range []int{255, 256, 257, 4095, 4096, 65535, 65536, 100003} {
		a, b := uint32(d.next()), uint32(d.next())
		same(t, "Join", join(t, a, b, n), moved(a, 8*n)^b)
	}
	same(t, "Join of two zeros", join(t, 0, 0, 9), 0)
	same(t, "Join by no byte", join(t, 0xdeadbeef, 0x0f0f0f0f, 0), 0xdeadbeef^0x0f0f0f0f)
}

// P2.3: 2^30 bytes are the most; the numbers were found bit by bit.
func TestJoinFar(t *testing.T) {
	const most = 1 << 30
	same(t, "1 moved by the most", join(t, 1, 0, most), 0x105ec76f)
	same(t, "the top bit moved by the most", join(t, 0x80000000, 0, most), 0x08000000)
	same(t, "Join by the most", join(t, 0xdeadbeef, 0x11111111, most), 0xfe84b49b^0x11111111)
	d := dice(4)
	for range 50 {
		a := uint32(d.next())
		n := int(d.next() % (most + 1))
		same(t, "Join in two parts", join(t, join(t, a, 0, n), 0, most-n), join(t, a, 0, most))
		same(t, "Join by one more", join(t, a, 0, n/2+1), moved(join(t, a, 0, n/2), 8))
	}
}

// P2.3: numbers of bytes that may not be.
func TestJoinRefused(t *testing.T) {
	for _, n := range []int{-1, -2, -1 << 30, math.MinInt32, math.MinInt, 1<<30 + 1, 1 << 31, 1 << 32, 1<<32 + 5, math.MaxInt} {
		if got, e := sum.Join(0xdeadbeef, 0x12345678, n); got != 0 || e != api.ErrArg {
			t.Errorf("Join by %d: %08X, %d", n, got, e)
		}
	}
}

// P2.4: the sum of a text comes of those of its parts, wherever it is parted.
func TestParts(t *testing.T) {
	for _, s := range texts() {
		whole := sum.Of(s)
		for _, at := range []int{0, 1, len(s) / 3, len(s) / 2, len(s) - 1, len(s)} {
			if at < 0 || at > len(s) {
				continue
			}
			x, y := s[:at], s[at:]
			same(t, "More of parts", sum.More(sum.Of(x), y), whole)
			same(t, "Join of parts", join(t, sum.Of(x), sum.Of(y), len(y)), whole)
		}
	}
}

// P2.5: three texts of one length, added.
func TestAdded(t *testing.T) {
	d := dice(5)
	for n := range 60 {
		x, y, z := d.text(n), d.text(n), d.text(n)
		added := make([]byte, n)
		for i := range added {
			added[i] = x[i] ^ y[i] ^ z[i]
		}
		same(t, "added", sum.Of(string(added)), sum.Of(x)^sum.Of(y)^sum.Of(z))
	}
}

// turned: the text with those bits of 32 turned over that begin at the bit from.
func turned(s string, from int, bits uint32) string {
	b := []byte(s)
	for i := range 32 {
		if bit := from + i; bits>>i&1 == 1 {
			b[bit/8] ^= 1 << (bit % 8)
		}
	}
	return string(b)
}

// P2.6: bits that are turned over within 32 that follow one another show.
func TestSpoilt(t *testing.T) {
	d := dice(6)
	for _, s := range []string{"abcd", "\x00\x00\x00\x00\x00", d.text(9), d.text(40)} {
		whole := sum.Of(s)
		for from := 0; from+32 <= 8*len(s); from++ {
			for i := range 32 {
				for k := range i + 1 {
					if sum.Of(turned(s, from, 1<<i|1<<k)) == whole {
						t.Fatalf("bits %d and %d of %q do not show", from+i, from+k, s)
					}
				}
			}
			for range 200 {
				if bits := uint32(d.next()); bits != 0 && sum.Of(turned(s, from, bits)) == whole {
					t.Fatalf("bits %08X from %d on of %q do not show", bits, from, s)
				}
			}
		}
	}
}
