package snap_test

import (
	"math"
	"strings"
	"testing"

	"dragoman/api"
	"dragoman/snap"
)

func takes(t *testing.T, what string, x *snap.Inbox, m api.Message, want int, text string, whole bool) {
	t.Helper()
	n, s, ok := x.Put(m)
	if n != want || s != text || ok != whole {
		t.Errorf("%s: Put %d, %d bytes, %v; want %d, %d bytes, %v", what, n, len(s), ok, want, len(text), whole)
	}
}

func piece(index, term, total, at int, data string) api.Message {
	return api.Message{Kind: api.MsgSnap, Index: index, LogTerm: term, Total: total, At: at, Data: data}
}

// P19.2: what changes nothing: of nil, and of numbers past their limits.
func TestPutRefused(t *testing.T) {
	var none *snap.Inbox
	takes(t, "nil", none, piece(8, 1, 0, 0, ""), 0, "", false)
	for _, m := range []api.Message{
		piece(8, 1, -1, 0, ""), piece(8, 1, math.MinInt, 0, ""), piece(8, 1, mostLen+1, 0, "x"), piece(8, 1, math.MaxInt, 0, "x"),
		piece(8, 1, 3, -1, "x"), piece(8, 1, 3, math.MinInt, "x"),
		piece(0, 1, 3, 0, "x"), piece(-1, 1, 3, 0, "x"), piece(math.MinInt, 1, 3, 0, "x"), piece(0, 0, 0, 0, ""),
	} {
		x := snap.NewInbox()
		takes(t, "what may not come", x, m, 0, "", false)
		takes(t, "ab", x, piece(8, 1, 3, 0, "ab"), 2, "", false)
		takes(t, "what may not come", x, m, 0, "", false)
		takes(t, "c", x, piece(8, 1, 3, 2, "c"), 3, "abc", true)
	}
}

// P19.2: each number at its limits.
func TestPutLimits(t *testing.T) {
	takes(t, "no bytes", snap.NewInbox(), piece(1, 0, 0, 0, ""), 0, "", true)
	takes(t, "no bytes, one that is too much", snap.NewInbox(), piece(1, 0, 0, 0, "x"), 0, "", true)
	takes(t, "no bytes, elsewhere", snap.NewInbox(), piece(1, 0, 0, 5, ""), 0, "", true)
	takes(t, "all at once", snap.NewInbox(), piece(1, 0, mostLen, 0, text(mostLen)), mostLen, text(mostLen), true)
	takes(t, "all but one", snap.NewInbox(), piece(1, 0, mostLen, 0, text(mostLen)[1:]), mostLen-1, "", false)
	takes(t, "one too many", snap.NewInbox(), piece(1, 0, mostLen-1, 0, text(mostLen)), 0, "", false)
	takes(t, "a huge mark", snap.NewInbox(), piece(math.MaxInt, math.MinInt, 1, 0, "x"), 1, "x", true)
	takes(t, "a huge place", snap.NewInbox(), piece(1, 0, 1, math.MaxInt, "x"), 0, "", false)
}

// P19.2: a piece that is not the next one, or too long, is not taken; another mark or number begins anew.
func TestPut(t *testing.T) {
	begun := func() *snap.Inbox {
		x := snap.NewInbox()
		takes(t, "ab", x, piece(8, 1, 5, 0, "ab"), 2, "", false)
		return x
	}
	for _, c := range []struct {
		what string
		m    api.Message
		want int
		text string
	}{
		{"the next one", piece(8, 1, 5, 2, "cd"), 4, ""},
		{"all that is left", piece(8, 1, 5, 2, "cde"), 5, "abcde"},
		{"no bytes", piece(8, 1, 5, 2, ""), 2, ""},
		{"one byte too many", piece(8, 1, 5, 2, "cdef"), 2, ""},
		{"the first one again", piece(8, 1, 5, 0, "xy"), 2, ""},
		{"one ahead of its end", piece(8, 1, 5, 1, "bc"), 2, ""},
		{"one behind a gap", piece(8, 1, 5, 3, "de"), 2, ""},
		{"another index", piece(9, 1, 5, 0, "x"), 1, ""},
		{"another index, in the midst", piece(9, 1, 5, 2, "x"), 0, ""},
		{"a lower index", piece(7, 1, 5, 0, "x"), 1, ""},
		{"another term", piece(8, 2, 5, 0, "xyz"), 3, ""},
		{"another term, in the midst", piece(8, 0, 5, 2, "cde"), 0, ""},
		{"another number", piece(8, 1, 6, 2, "cdef"), 0, ""},
		{"as many as came", piece(8, 1, 2, 2, ""), 0, ""},
		{"another number, from the front", piece(8, 1, 1, 0, "x"), 1, "x"},
	} {
		takes(t, c.what, begun(), c.m, c.want, c.text, c.text != "")
	}
	x := begun()
	takes(t, "another index", x, piece(9, 1, 5, 2, "cde"), 0, "", false)
	takes(t, "the first one again", x, piece(8, 1, 5, 2, "cde"), 0, "", false)
	x = begun()
	takes(t, "the rest", x, piece(8, 1, 5, 2, "cde"), 5, "abcde", true)
	takes(t, "the rest again", x, piece(8, 1, 5, 2, "xyz"), 5, "abcde", true)
	takes(t, "the first one again", x, piece(8, 1, 5, 0, "xy"), 5, "abcde", true)
	takes(t, "the kind makes no difference", x, api.Message{Index: 8, LogTerm: 1, Total: 5, From: 9, To: -1, Term: 77, Err: 3}, 5, "abcde", true)
}

// P19.2: a text that was answered stays as it is.
func TestPutTextStays(t *testing.T) {
	x := snap.NewInbox()
	_, first, _ := x.Put(piece(8, 1, 3, 0, "abc"))
	takes(t, "another one", x, piece(9, 1, 3, 0, "xyz"), 3, "xyz", true)
	if first != "abc" {
		t.Errorf("the first text is %q now", first)
	}
}

// P19.5: piece by piece, as the inbox wants it; others come twice, late, of older snapshots between them.
func TestPieces(t *testing.T) {
	for seed := range 60 {
		d := dice(seed + 1)
		s := text(d.below(9) * 1024)
		if seed == 0 {
			s = text(mostLen)
		}
		x := snap.NewInbox()
		x.Put(piece(7, 1, 9000, 0, strings.Repeat("o", d.below(99))))
		at, many := 0, 0
		for whole := false; !whole; many++ {
			p, e := snap.Piece(s, at)
			if e != api.OK || len(p) > chunk {
				t.Fatalf("Piece(%d bytes, %d): %d bytes, %d", len(s), at, len(p), e)
			}
			var got string
			if at, got, whole = x.Put(piece(8, 2, len(s), at, p)); whole && got != s {
				t.Fatalf("seed %d: another text", seed)
			}
			for range d.below(3) {
				old := d.below(len(s) + 1)
				p, _ := snap.Piece(s, old)
				if p == "" || old == at {
					continue
				}
				if n, _, again := x.Put(piece(8, 2, len(s), old, p)); n != at || again != whole {
					t.Fatalf("seed %d: a piece from %d changes %d to %d", seed, old, at, n)
				}
			}
		}
		if least := max(1, (len(s)+chunk-1)/chunk); many != least {
			t.Errorf("%d pieces of %d bytes", many, len(s))
		}
	}
}

// P19.2: whatever comes, as the chapter says it.
func TestPutAsSaid(t *testing.T) {
	for seed := range 50 {
		d := dice(seed + 400)
		x := snap.NewInbox()
		var m api.Mark
		total, came := 0, ""
		for range 400 {
			p := piece(d.below(3), d.below(2), 2+d.below(4)/3, len(came)-d.below(2), text(d.below(4)))
			n, s, whole := x.Put(p)
			if p.Index < 1 || p.At < 0 {
				if n != 0 || s != "" || whole {
					t.Fatalf("%+v: %d, %q, %v", p, n, s, whole)
				}
				continue
			}
			if m != mark(p.Index, p.LogTerm) || total != p.Total {
				m, total, came = mark(p.Index, p.LogTerm), p.Total, ""
			}
			if p.At == len(came) && len(came)+len(p.Data) <= total {
				came += p.Data
			}
			wanted := ""
			if len(came) == total {
				wanted = came
			}
			if n != len(came) || s != wanted || whole != (len(came) == total) {
				t.Fatalf("%+v: %d, %q, %v; want %d, %q", p, n, s, whole, len(came), wanted)
			}
		}
	}
}
