package run_test

import (
	"fmt"
	"math/rand"
	"slices"
	"strings"
	"testing"

	"dragoman/api"
	"dragoman/compile"
	"dragoman/match"
	"dragoman/run"
)

// model is a dialogue that goes as the chapter says it, with every byte looked at anew.
type model struct {
	auto api.Auto
	c    api.Config
	l    []api.Happen
}

func (m *model) from(at int) {
	for ; ; at++ {
		n := m.auto.Nodes[at]
		switch n.Op {
		case api.LineSend:
			m.c.Sends++
			m.l = append(m.l, sent(n.Text, m.c.Sends))
		case api.LineSet:
			m.c.Counts[n.C] = n.N
		case api.LineInc:
			m.c.Counts[n.C] = min(m.c.Counts[n.C]+1, 255)
		case api.LineIf:
			if m.c.Counts[n.C] < n.N {
				at = n.To - 1
			}
		case api.LineGoto:
			at = n.To - 1
		case api.LineExit:
			m.c.Node, m.c.Ended, m.c.Code = at, true, n.N
			m.l = append(m.l, exited(n.N))
			return
		case api.LineExpect:
			m.c.Node = at
			return
		}
	}
}

func (m *model) settle() {
	for !m.c.Ended {
		n := m.auto.Nodes[m.c.Node]
		var l []api.Pattern
		for _, a := range n.Arms {
			l = append(l, a.Pattern)
		}
		h, ok := match.First(l, m.c.Buffer)
		if !ok {
			return
		}
		m.c.Turn++
		m.l = append(m.l, matched(m.c.Buffer[:h.To], h.Arm))
		m.c.Buffer = m.c.Buffer[h.To:]
		m.from(n.Arms[h.Arm].To)
	}
}

func (m *model) feed(s string) {
	for i := 0; i < len(s) && !m.c.Ended; i++ {
		m.c.Buffer = match.Keep(m.c.Buffer + s[i:i+1])
		m.settle()
	}
}

func (m *model) timeout() {
	m.c.Turn++
	m.l = append(m.l, timeout())
	m.from(m.auto.Nodes[m.c.Node].Late)
	m.settle()
}

// copied: a model that stands so, to which nothing has happened.
func (m *model) copied() *model {
	n := &model{auto: m.auto, c: m.c}
	n.c.Counts = slices.Clone(m.c.Counts)
	return n
}

// some: a dialogue's automaton.
func some(r *rand.Rand) api.Auto {
	for {
		var l []string
		blocks := 1 + r.Intn(5)
		to := func() string { return fmt.Sprint("b", r.Intn(blocks)) }
		for i := range blocks {
			l = append(l, fmt.Sprintf("b%d:", i))
			for range r.Intn(3) {
				l = append(l, []string{fmt.Sprintf(`send "s%d"`, i), "inc n", "inc m", "set n 0", fmt.Sprintf("if n < %d goto %s", r.Intn(4), to()), fmt.Sprintf("if m < 3 goto %s", to())}[r.Intn(6)])
			}
			switch r.Intn(8) {
			case 0:
				l = append(l, fmt.Sprint("exit ", i))
			case 1:
				l = append(l, "goto "+to())
			default:
				l = append(l, "expect {")
				arms := r.Intn(4)
				for range arms {
					p := []string{`"a"`, `"ab"`, `"ba"`, `glob "a?"`, `glob "b*c"`, `re "c+"`, `re "[^a]b"`, `re "(ab|c)+a"`, `re ".x."`, `"cc"`}[r.Intn(10)]
					l = append(l, p+" goto "+to())
				}
				if arms == 0 || r.Intn(2) == 0 {
					l = append(l, fmt.Sprintf("timeout %d goto %s", 1+r.Intn(9), to()))
				}
				l = append(l, "}")
			}
		}
		if a, f := compile.Of(strings.Join(l, "\n")); f.Err == api.OK {
			return a
		}
	}
}

func someText(r *rand.Rand) string {
	b := make([]byte, r.Intn(12))
	for i := range b {
		b[i] = "aabbcx."[r.Intn(7)]
	}
	if r.Intn(12) == 0 {
		return string(b) + strings.Repeat("x", 200+r.Intn(100))
	}
	return string(b)
}

// numbered: P16.9 of all that happened.
func numbered(t *testing.T, c api.Config, l []api.Happen) {
	t.Helper()
	sends, turns := 0, 0
	for i, h := range l {
		switch h.Kind {
		case api.HapSend:
			if sends++; h.N != sends {
				t.Errorf("the send %d has the number %d", sends, h.N)
			}
		case api.HapMatch, api.HapTimeout:
			turns++
		case api.HapExit:
			if i != len(l)-1 || !c.Ended || c.Code != h.N {
				t.Errorf("an exit at %d of %d: %+v", i, len(l), c)
			}
		}
	}
	if c.Sends != sends || c.Turn != turns || c.Ended != (len(l) > 0 && l[len(l)-1].Kind == api.HapExit) {
		t.Errorf("%d sends, %d turns: %+v", sends, turns, c)
	}
}

// took: P16.7 of all that happened, and all that came in.
func took(t *testing.T, c api.Config, l []api.Happen, in string) {
	t.Helper()
	all := ""
	for _, h := range l {
		if h.Kind == api.HapMatch {
			all += h.Text
		}
	}
	all += c.Buffer
	if len(in) <= api.MaxBuffer && (!strings.HasPrefix(in, all) || !c.Ended && in != all) {
		t.Errorf("%q came in, %q was taken", in, all)
	}
}

// oneByte: P16.8 of a byte that comes in.
func oneByte(t *testing.T, a api.Auto, c api.Config) {
	t.Helper()
	d, l, e := run.Feed(a, c, "b")
	if e != api.OK || c.Ended {
		return
	}
	if d.Turn == c.Turn {
		if len(l) != 0 || d.Buffer != match.Keep(c.Buffer+"b") {
			t.Errorf("%+v: no match, %v, %q", c, l, d.Buffer)
		}
		return
	}
	if h := l[0]; h.Kind != api.HapMatch || h.Text != match.Keep(c.Buffer+"b") || d.Buffer != "" || d.Turn != c.Turn+1 {
		t.Errorf("%+v: a match, %v, %q", c, l, d.Buffer)
	}
}

// P16.1 to P16.9: many dialogues, held against the model; what comes in pieces comes to the same.
func TestModel(t *testing.T) {
	r := rand.New(rand.NewSource(16))
	told := map[int]int{}
	for range 700 {
		a := some(r)
		m := &model{auto: a, c: api.Config{Counts: make([]int, a.Counts)}}
		m.from(0)
		c, h, e := run.Begin(a)
		goes(t, "Begin", a, c, h, e, m.c, m.l...)
		all, in := h, ""
		for range 12 {
			wait, late := run.Waits(a, c)
			if n := a.Nodes[c.Node]; late != (n.Late >= 0) || late && wait != n.Wait {
				t.Errorf("Waits %d, %v at %+v", wait, late, n)
			}
			oneByte(t, a, c)
			m = m.copied()
			if late && r.Intn(5) == 0 {
				m.timeout()
				c, h, e = run.Timeout(a, c)
				goes(t, "Timeout", a, c, h, e, m.c, m.l...)
			} else {
				s := someText(r)
				m.feed(s)
				pieces(t, r, a, c, s, m)
				if !c.Ended {
					in += s
				}
				c, h, e = run.Feed(a, c, s)
				goes(t, "Feed of "+s, a, c, h, e, m.c, m.l...)
			}
			all = append(all, h...)
			numbered(t, c, all)
			took(t, c, all, in)
		}
		for _, h := range all {
			told[h.Kind]++
		}
	}
	for kind := api.HapSend; kind <= api.HapExit; kind++ {
		if told[kind] < 100 {
			t.Errorf("%d happened %d times", kind, told[kind])
		}
	}
}

// pieces: P16.6 of a text that is fed in pieces, behind which it is as the model says.
func pieces(t *testing.T, r *rand.Rand, a api.Auto, c api.Config, s string, m *model) {
	t.Helper()
	var all []api.Happen
	for rest := s; rest != ""; {
		n := 1 + r.Intn(len(rest))
		d, h, e := run.Feed(a, c, rest[:n])
		if e != api.OK {
			t.Fatalf("Feed of %q: %d", rest[:n], e)
		}
		c, rest = d, rest[n:]
		all = append(all, h...)
	}
	goes(t, "Feed in pieces of "+s, a, c, all, api.OK, m.c, m.l...)
}
