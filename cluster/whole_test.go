package cluster_test

import (
	"testing"

	"dragoman/api"
	"dragoman/cluster"
	"dragoman/message"
)

// twoWays is the dialogue of the document's examples of the whole.
var twoWays = lines(`a:/send "x"/expect {/"ok" goto b/timeout 5 goto b/}/b:/send "y"/exit 7`)

func taken(seq int, f api.Fence, s string) api.Taken {
	return api.Taken{Talk: 1, Token: f, Seq: seq, Text: s}
}

// has: the gateway took just these.
func has(t *testing.T, w *cluster.World, want ...api.Taken) {
	t.Helper()
	l := w.Taken()
	if len(l) != len(want) {
		t.Fatalf("taken %+v, want %+v", l, want)
	}
	for i, x := range want {
		if l[i] != x {
			t.Fatalf("taken %+v, want %+v", l, want)
		}
	}
}

func stands(t *testing.T, w *cluster.World, i int, state uint8, code int) {
	t.Helper()
	if s, e := w.Node(i).Table().Status(1); e != api.OK || s.State != state || s.Code != code {
		t.Fatalf("at node %d: %+v, %d; want %d, %d", i, s, e, state, code)
	}
}

// another: rounds until another node than 0 leads the term 2, and is ready.
func another(t *testing.T, w *cluster.World) int {
	t.Helper()
	for range 50 {
		does(t, w, round)
		for i := 1; i < 3; i++ {
			if v := w.Node(i).View(); v.Ready {
				if v.Ballot.Term != 2 {
					t.Fatalf("%+v", v)
				}
				return i
			}
		}
	}
	t.Fatal("nobody leads")
	return 0
}

// The examples 1 to 3 of the whole.
func TestWhole(t *testing.T) {
	w := submitted(t, twoWays)
	f := api.Fence{Term: 1, Epoch: 1}
	has(t, w, taken(1, f, "x"))
	does(t, w, peer(1, "nook"))
	rounds(t, w, 12)
	has(t, w, taken(1, f, "x"), taken(2, f, "y"))
	stands(t, w, 0, api.TalkEnded, 7)
	l, _ := w.Node(0).Table().Watch(1, 1, 1)
	if len(l) != 1 || l[0].Kind != api.HapMatch || l[0].Text != "nook" {
		t.Errorf("Watch: %+v", l)
	}
}

// The examples 4, 5 and 6: another one leads; the old one is refused; the same is asked again.
func TestWholeFall(t *testing.T) {
	w := submitted(t, twoWays)
	f := api.Fence{Term: 1, Epoch: 1}
	does(t, w, crash(0))
	i := another(t, w)
	does(t, w, peer(1, "nook"))
	rounds(t, w, 12)
	high := api.Fence{Term: 2, Epoch: 1}
	has(t, w, taken(1, f, "x"), taken(2, high, "y"))
	stands(t, w, i, api.TalkEnded, 7)

	// The same is asked again: the client has not seen the answer.
	w = led(t)
	does(t, w, link(api.ActCut, 0, 8), submit(0, 0, twoWays))
	does(t, w, link(api.ActHeal, 0, 8), retry(0, 0), link(api.ActCut, 0, 8))
	rounds(t, w, 6)
	does(t, w, link(api.ActHeal, 0, 8), retry(0, 1))
	rounds(t, w, 6)
	if l := w.Calls(); l[0].Ended != 0 {
		t.Errorf("%+v", l[0])
	}
	does(t, w, retry(0, 0))
	rounds(t, w, 6)
	if l := w.Calls(); l[0].Ended == 0 || l[0].Answer.Talk != 1 || w.Node(0).Table().Len() != 1 {
		t.Errorf("%+v", l[0])
	}
}

// The example 5: a send by a lower fence, which comes late, is refused.
func TestWholeFenced(t *testing.T) {
	w := led(t)
	does(t, w, submit(0, 0, twoWays))
	late := 0
	for late == 0 {
		does(t, w, round)
		for _, x := range w.Flight() {
			if m, _ := message.Decode(x.Bytes); m.Kind == api.MsgSend {
				late = x.Id
			}
		}
	}
	does(t, w, letter(api.ActTwice, late))
	twice := w.Flight()[len(w.Flight())-1].Id
	does(t, w, letter(api.ActDeliver, late), link(api.ActCut, 0, 1), link(api.ActCut, 0, 2), link(api.ActCut, 0, 3))
	// Everything but that one letter goes on.
	high := api.Fence{Term: 2, Epoch: 1}
	for range 60 {
		does(t, w, tick)
		for _, x := range w.Flight() {
			if x.Id != twice {
				does(t, w, letter(api.ActDeliver, x.Id))
			}
		}
		if l := w.Taken(); len(l) == 2 {
			break
		}
	}
	l := w.Taken()
	if len(l) != 2 || l[1].Token.Term != 2 || l[1].Text != "y" {
		t.Fatalf("taken %+v", l)
	}
	does(t, w, link(api.ActHeal, 0, 3), letter(api.ActDeliver, twice))
	has(t, w, l...)
	refused := false
	for _, x := range w.Flight() {
		m, _ := message.Decode(x.Bytes)
		refused = refused || m.Kind == api.MsgSent && m.To == 0 && m.Err == api.ErrFence && m.Token == high && m.Seq == 2
	}
	if !refused {
		t.Error("the old leader is not refused")
	}
}

// The example 7: a leader that is cut off soon answers nothing; the others do.
func TestWholeCut(t *testing.T) {
	w := submitted(t, twoWays)
	does(t, w, link(api.ActCut, 0, 1), link(api.ActCut, 0, 2))
	rounds(t, w, 20)
	does(t, w, ask(1, 0, api.OpStatus, 1))
	i := another(t, w)
	rounds(t, w, 4)
	does(t, w, ask(2, i, api.OpStatus, 1))
	rounds(t, w, 4)
	l := w.Calls()
	if l[1].Ended != 0 || l[2].Ended == 0 || l[2].Answer.Err != api.OK {
		t.Errorf("%+v", l[1:])
	}
}

// The example 8: the gateway falls in the midst of a send.
func TestWholeGateway(t *testing.T) {
	for keep := range 2 {
		w := submitted(t, twoWays)
		f := api.Fence{Term: 1, Epoch: 1}
		does(t, w, api.Act{Kind: api.ActPower, Node: 3, N: 1}, peer(1, "nook"))
		rounds(t, w, 12)
		if w.Up(3) {
			t.Error("the gateway is up")
		}
		does(t, w, api.Act{Kind: api.ActCrash, Node: 3, Keep: []int{keep}}, boot(3))
		if got := len(w.Taken()); got != 1+keep {
			t.Errorf("%d sends", got)
		}
		rounds(t, w, 12)
		has(t, w, taken(1, f, "x"), taken(2, f, "y"))
		if s, _ := w.Node(0).Table().Status(1); s.State != api.TalkEnded || s.Acked != 2 {
			t.Errorf("%+v", s)
		}
	}
}
