package cluster_test

import (
	"reflect"
	"slices"
	"strings"
	"testing"

	"dragoman/api"
	"dragoman/cluster"
	"dragoman/lease"
	"dragoman/message"
)

// dice are numbers that look thrown, and are the same in each run.
type dice uint64

func (d *dice) below(n int) int {
	*d ^= *d << 13
	*d ^= *d >> 7
	*d ^= *d << 17
	return int(uint64(*d) >> 11 % uint64(n))
}

// history is what was seen of a world.
type history struct {
	committed map[int]api.Entry
	tables    map[int]string // by how many were applied
	leaders   map[int]int    // by their terms
	held      int            // how often some node was seen to hold a lease
}

func newHistory() *history {
	return &history{committed: map[int]api.Entry{}, tables: map[int]string{}, leaders: map[int]int{}}
}

// look: P27.5 and P27.6 as far as they can be seen now.
func (h *history) look(t *testing.T, w *cluster.World) {
	t.Helper()
	for i := range 3 {
		n := w.Node(i)
		v := n.View()
		for at := v.Snap.Index + 1; at <= v.Commit; at++ {
			x, e := n.Entry(at)
			if other, ok := h.committed[at]; e != api.OK || ok && other != x {
				t.Fatalf("node %d has committed %v at %d, another one %v", i, x, at, other)
			}
			h.committed[at] = x
		}
		if n != nil {
			s := n.Table().Save()
			if other, ok := h.tables[n.Done()]; ok && other != s {
				t.Fatalf("node %d has another table behind %d", i, n.Done())
			}
			h.tables[n.Done()] = s
		}
		if v.Role == api.Leader {
			if other, ok := h.leaders[v.Ballot.Term]; ok && other != i {
				t.Fatalf("both %d and %d lead the term %d", i, other, v.Ballot.Term)
			}
			h.leaders[v.Ballot.Term] = i
		}
	}
	h.lease(t, w)
	last := map[int]api.Taken{}
	for _, x := range w.Taken() {
		y := last[x.Talk]
		if x.Seq != y.Seq+1 || message.Above(y.Token, x.Token) {
			t.Fatalf("taken %v behind %v", x, y)
		}
		last[x.Talk] = x
	}
}

// lease: P5 of the whole: while one may answer by itself, none of a later term is ready.
func (h *history) lease(t *testing.T, w *cluster.World) {
	t.Helper()
	for i := range 3 {
		v := w.Node(i).View()
		if !lease.Held(v, i, api.Drift) {
			continue
		}
		h.held++
		for j := range 3 {
			if x := w.Node(j).View(); x.Ready && x.Ballot.Term > v.Ballot.Term {
				t.Fatalf("node %d may answer by itself in the term %d, and node %d is ready in the term %d", i, v.Ballot.Term, j, x.Ballot.Term)
			}
		}
	}
}

// meant: what was taken is what the table of a node means, first of all.
func meant(t *testing.T, w *cluster.World, i int) {
	t.Helper()
	x := w.Node(i).Table()
	for _, y := range w.Taken() {
		talk, e := x.Talk(y.Talk)
		if e != api.OK || y.Seq > len(talk.Sends) || talk.Sends[y.Seq-1] != y.Text {
			t.Fatalf("taken %v, and meant %q", y, talk.Sends)
		}
	}
}

// texts: dialogues that end soon, go on for long, or are none.
func texts() []string {
	return []string{
		dialogue,
		lines(`a:/inc n/send "n"/expect {/"ok" goto b/re "e+r" goto c/timeout 6 goto b/}/b:/if n < 5 goto a/send "bye"/exit 1/c:/send "again"/goto a`),
		lines(`a:/send "1"/send "2"/send "3"/expect {/glob "n?" goto a/timeout 30 goto b/}/b:/exit 2`),
		lines(`a:/expect {/timeout 1 goto b/}/b:/send "s"/goto a`),
		"?",
	}
}

// act: what the outer world does next; of a quiet one nothing is lost.
func (d *dice) act(w *cluster.World) api.Act {
	some := func(kind int) api.Act {
		l := w.Flight()
		if len(l) == 0 {
			return tick
		}
		return letter(kind, l[d.below(len(l))].Id)
	}
	switch n := d.below(100); {
	case n < 35:
		return round
	case n < 50:
		return tick
	case n < 68:
		return some(api.ActDeliver)
	case n < 71:
		return some(api.ActDrop)
	case n < 73:
		return some(api.ActTwice)
	case n < 76:
		return link(api.ActCut+d.below(2), d.below(4), d.below(4))
	case n < 80:
		return link(api.ActHeal, d.below(4), d.below(12))
	case n < 82:
		return api.Act{Kind: api.ActDraw, Node: d.below(3), N: d.below(20)}
	case n < 84:
		return api.Act{Kind: api.ActRate, Node: d.below(3), N: 900 + d.below(201)}
	case n < 86:
		return peer(1+d.below(8), []string{"ok", "er", "ne", "n", "o", "k!", "eeer"}[d.below(7)])
	case n < 91:
		l := texts()
		a := submit(d.below(3), d.below(3), l[d.below(len(l))])
		if d.below(2) == 0 {
			a = ask(d.below(3), d.below(3), []uint8{api.OpCancel, api.OpStatus, api.OpWatch}[d.below(3)], d.below(9))
		}
		return a
	case n < 94:
		return retry(d.below(3), d.below(3))
	case n < 96:
		return api.Act{Kind: api.ActPower, Node: d.below(4), N: d.below(15)}
	case n < 97:
		return api.Act{Kind: api.ActCrash, Node: d.below(4), Keep: []int{d.below(3), d.below(3), d.below(3), d.below(3), d.below(3), d.below(3)}, N: d.below(100)}
	}
	return boot(d.below(4))
}

// power: it goes, comes again, with a crash or without one, and machines are started.
func (d *dice) power() api.Act {
	switch i := d.below(4); d.below(5) {
	case 0, 1:
		return api.Act{Kind: api.ActPower, Node: i, N: d.below(9)}
	case 2:
		return api.Act{Kind: api.ActCrash, Node: i, Keep: []int{d.below(3), d.below(3), d.below(3), d.below(3), d.below(3), d.below(3)}, N: d.below(100)}
	default:
		return boot(i)
	}
}

// mend: all machines are up, nothing is cut, clocks go rightly, draws differ.
func mend(t *testing.T, w *cluster.World) {
	t.Helper()
	for i := range 4 {
		// Of those that are up, too, since their disks may have power for some steps alone.
		does(t, w, crash(i), boot(i))
		if i < 3 {
			does(t, w, api.Act{Kind: api.ActRate, Node: i, N: 1000}, api.Act{Kind: api.ActDraw, Node: i, N: 6 * i})
		}
	}
	for a := range 16 {
		for b := range a {
			does(t, w, link(api.ActHeal, a, b))
		}
	}
	rounds(t, w, 100)
}

// leads: the one node that is ready; -1, if there is none, or another one.
func leads(w *cluster.World) int {
	leader := -1
	for i := range 3 {
		if w.Node(i).View().Ready {
			if leader >= 0 {
				return -1
			}
			leader = i
		}
	}
	return leader
}

// P27.5, P27.6, P27.7, and P5 of the whole: whatever acts; and behind them all comes to the same, soon.
func TestHistory(t *testing.T) {
	sends, terms, calls, snaps, held := 0, 0, 0, 0, 0
	for seed := range 120 {
		d := dice(seed + 1)
		w, h := cluster.New(), newHistory()
		var script []api.Act
		var took []api.Taken
		for range 700 {
			a := d.act(w)
			if seed%2 == 0 && d.below(12) == 0 {
				a = d.power()
			}
			script = append(script, a)
			if e := w.Do(a); a.Kind == api.ActBoot && e != api.OK && e != api.ErrState && e != api.ErrOff {
				t.Fatalf("seed %d: Do(%+v): %d", seed, a, e)
			}
			h.look(t, w)
			if w.Up(api.GatewayAddress) {
				l := w.Taken()
				if len(l) < len(took) || !slices.Equal(l[:len(took)], took) {
					t.Fatalf("seed %d: taken %v, and then %v", seed, took, l)
				}
				took = l
			}
		}
		twin := cluster.New()
		for _, a := range script {
			twin.Do(a)
		}
		if !reflect.DeepEqual(seen(w), seen(twin)) {
			t.Fatalf("seed %d: the same acts come to something else", seed)
		}
		mend(t, w)
		h.look(t, w)
		i := leads(w)
		if i < 0 {
			t.Fatalf("seed %d: nobody leads, or more than one does", seed)
		}
		meant(t, w, i)
		sends += len(w.Taken())
		terms += len(h.leaders)
		held += h.held
		for _, x := range w.Calls() {
			if x.Ended > 0 {
				calls++
			}
		}
		if w.Node(i).View().Snap.Index > 0 {
			snaps++
		}
	}
	if sends < 300 || terms < 150 || calls < 300 || snaps < 10 || held < 3000 {
		t.Errorf("too little happens: %d sends, %d terms, %d calls, %d snapshots, %d leases", sends, terms, calls, snaps, held)
	}
}

// A node that comes late gets all in pieces: P7 of snapshots, in a world.
func TestLate(t *testing.T) {
	w := led(t)
	does(t, w, crash(2))
	for i := range 5 {
		does(t, w, submit(0, 0, lines("a:/"+strings.Repeat(`send "`+strings.Repeat("s", 25)+`"/`, 50)+"exit 3")))
		rounds(t, w, 120)
		if l := w.Calls(); l[i].Ended == 0 {
			t.Fatalf("the call %d has not ended", i)
		}
	}
	if v := w.Node(0).View(); v.Snap.Index < 64 {
		t.Fatalf("%+v", v)
	}
	does(t, w, boot(2))
	rounds(t, w, 40)
	a, b := w.Node(0), w.Node(2)
	if a.View().Snap != b.View().Snap || a.Done() != b.Done() || a.Table().Save() != b.Table().Save() || len(a.Table().Save()) < 5*api.MaxChunk {
		t.Errorf("%+v, %+v", a.View(), b.View())
	}
}
