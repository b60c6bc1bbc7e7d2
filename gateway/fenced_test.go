package gateway_test

import (
	"reflect"
	"slices"
	"strings"
	"testing"

	"dragoman/api"
	"dragoman/disk"
	"dragoman/message"
	"dragoman/ring"
)

// dice are numbers that look thrown, and are the same in each run.
type dice uint64

func (d *dice) below(n int) int {
	*d ^= *d << 13
	*d ^= *d >> 7
	*d ^= *d << 17
	return int(uint64(*d) >> 11 % uint64(n))
}

// plain is a gateway as the chapter says it, with its sends in one list.
type plain struct {
	sends []api.Taken
	seen  map[int]api.Fence
}

func above(a, b api.Fence) bool {
	return a.Term > b.Term || a.Term == b.Term && a.Epoch > b.Epoch
}

func (p *plain) right(talk int) (api.Fence, int) {
	taken, high := 0, api.Fence{}
	for _, x := range p.sends {
		if x.Talk == talk {
			taken++
			high = x.Token
		}
	}
	if above(p.seen[talk], high) {
		high = p.seen[talk]
	}
	return high, taken
}

func (p *plain) do(m api.Message, out *ring.Ring) api.Message {
	high, taken := p.right(m.Talk)
	a := api.Message{Kind: m.Kind + 1, From: 3, To: m.From, Talk: m.Talk, Token: m.Token, Seq: taken}
	if above(high, m.Token) {
		a.Token, a.Err = high, api.ErrFence
		return a
	}
	p.seen[m.Talk] = m.Token
	switch {
	case m.Kind == api.MsgAttach:
		a.Total = out.End()
	case m.Kind == api.MsgPull:
		a.Total = out.End()
		a.Data, a.At, a.Err = out.From(m.At, 64)
	case len(m.Data) > 64:
		a.Err = api.ErrLong
	case m.Seq >= 1 && m.Seq <= taken:
	case m.Seq != taken+1:
		a.Err = api.ErrSeq
	default:
		a.Seq = m.Seq
		p.sends = append(p.sends, api.Taken{Talk: m.Talk, Token: m.Token, Seq: m.Seq, Text: m.Data})
	}
	return a
}

// question: of some node, which may be behind; mostly one that is answered without an error.
func (d *dice) question(p *plain) api.Message {
	talk := 1 + d.below(3)
	high, taken := p.right(talk)
	f := fence(max(high.Term, 1), max(high.Epoch, 1))
	switch d.below(8) {
	case 0:
		f = fence(f.Term+1, 1)
	case 1:
		f.Epoch++
	case 2:
		f = fence(max(f.Term-d.below(2), 1), max(f.Epoch-1, 1))
	}
	m := api.Message{From: d.below(3), Talk: talk, Token: f}
	switch d.below(5) {
	case 0:
		m.Kind = api.MsgAttach
	case 1:
		m.Kind, m.At = api.MsgPull, d.below(130)-9
	default:
		m.Kind, m.Seq = api.MsgSend, taken+1
		m.Data = strings.Repeat("s", d.below(4)) + string(rune('a'+d.below(26)))
		if d.below(3) == 0 {
			m.Seq += d.below(4) - 2
		}
		if d.below(12) == 0 {
			m.Data = strings.Repeat("x", 63+d.below(4))
		}
	}
	return m
}

// fenced: P23.5 of what was taken.
func fenced(t *testing.T, l []api.Taken) {
	t.Helper()
	last := map[int]api.Taken{}
	for _, x := range l {
		y := last[x.Talk]
		if message.Above(y.Token, x.Token) || x.Seq != y.Seq+1 {
			t.Fatalf("%v behind %v", x, y)
		}
		last[x.Talk] = x
	}
}

// P23.2 to P23.6: whatever is asked, by whomever, whatever crashes between.
func TestAsSaid(t *testing.T) {
	crashes, refusals, sends := 0, 0, 0
	for seed := range 120 {
		r := dice(seed + 1)
		d := disk.New()
		g := open(t, d)
		p := &plain{seen: map[int]api.Fence{}}
		var outs [4]*ring.Ring // of each talk; of the talk 3 none
		outs[1], outs[2] = said(t, 100, ""), said(t, 8, "")
		for range 150 {
			if r.below(8) == 0 {
				outs[1].Put(strings.Repeat("o", r.below(20)))
				outs[2].Put("out")
			}
			if r.below(10) == 0 {
				done(t, d.Power(r.below(3)))
			}
			m := r.question(p)
			was := slices.Clone(p.sends)
			a, e := g.Do(m, outs[m.Talk])
			if e == api.OK {
				wanted := p.do(m, outs[m.Talk])
				if !reflect.DeepEqual(a, wanted) {
					t.Fatalf("seed %d: %+v is answered by %+v, want %+v", seed, m, a, wanted)
				}
				if a.Err != api.OK {
					refusals++
					has(t, g, was...)
				}
			} else {
				if e != api.ErrOff || m.Kind != api.MsgSend || !reflect.DeepEqual(a, api.Message{}) {
					t.Fatalf("seed %d: %+v: %+v, %d", seed, m, a, e)
				}
				has(t, g, was...)
				crashes++
				done(t, d.Crash([]int{r.below(2)}, r.below(60)))
				g = open(t, d)
				got := slices.Collect(g.Taken())
				next := api.Taken{Talk: m.Talk, Token: m.Token, Seq: m.Seq, Text: m.Data}
				if !slices.Equal(got, was) && !slices.Equal(got, append(was, next)) {
					t.Fatalf("seed %d: behind a crash %v, want %v and perhaps %v", seed, got, was, next)
				}
				p = &plain{sends: got, seen: map[int]api.Fence{}}
			}
			for talk := range 5 {
				f, n := p.right(talk)
				right(t, g, talk, f, n)
			}
			has(t, g, p.sends...)
			if t.Failed() {
				t.FailNow()
			}
		}
		fenced(t, p.sends)
		sends += len(p.sends)
	}
	if crashes < 200 || refusals < 1000 || sends < 2000 {
		t.Errorf("too little happens: %d crashes, %d refusals, %d sends", crashes, refusals, sends)
	}
}

// P23.4, R6: left early, gone through again.
func TestTaken(t *testing.T) {
	g := open(t, disk.New())
	all := g.Taken()
	var l []api.Taken
	for seq := 1; seq <= 3; seq++ {
		x := api.Taken{Talk: 1, Token: fence(1, seq), Seq: seq, Text: "x"}
		l = append(l, x)
		if _, e := g.Do(send(1, x.Token, seq, "x"), nil); e != api.OK {
			t.Errorf("a send: %d", e)
		}
	}
	for n := range 4 {
		var got []api.Taken
		for x := range all {
			if len(got) == n {
				break
			}
			got = append(got, x)
		}
		if !slices.Equal(got, l[:n]) {
			t.Errorf("left behind %d: %v", n, got)
		}
	}
}
