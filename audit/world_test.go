package audit_test

import (
	"testing"

	"dragoman/api"
	"dragoman/audit"
	"dragoman/cluster"
)

// link is an entry of some node's log, and the term of the one ahead of it; of one index and term there is just one such.
type link struct {
	entry api.Entry
	ahead int
}

// observer gathers what is seen of a world, so that its log can be told from its beginning on.
type observer struct {
	*cluster.World
	links map[api.Mark]link
	last  api.Mark // of what is known to be committed
}

func newObserver() *observer {
	return &observer{World: cluster.New(), links: map[api.Mark]link{}}
}

// do: an act is done, and all logs are looked at.
func (o *observer) do(l ...api.Act) {
	for _, a := range l {
		o.Do(a)
		for i := range 3 {
			n := o.Node(i)
			v := n.View()
			term := v.Snap.Term
			for at := v.Snap.Index + 1; at <= v.Last; at++ {
				x, _ := n.Entry(at)
				o.links[api.Mark{Index: at, Term: x.Term}] = link{x, term}
				term = x.Term
				if at <= v.Commit && at > o.last.Index {
					o.last = api.Mark{Index: at, Term: term}
				}
			}
			if v.Snap.Index > o.last.Index {
				o.last = v.Snap
			}
		}
	}
}

// log: all that was committed.
func (o *observer) log(t *testing.T) []api.Entry {
	t.Helper()
	l := make([]api.Entry, o.last.Index)
	for m := o.last; m.Index > 0; m.Index-- {
		x, ok := o.links[m]
		if !ok {
			t.Fatalf("nobody has %v", m)
		}
		l[m.Index-1] = x.entry
		m.Term = x.ahead
	}
	return l
}

// audits: P1, P2 and P4 of all that was observed.
func (o *observer) audits(t *testing.T, what string) {
	t.Helper()
	l := o.log(t)
	at, e := audit.Fences(o.Taken())
	finds(t, what+": Fences", at, e, 0, api.OK)
	at, e = audit.Meant(audit.Replay(l), o.Taken())
	finds(t, what+": Meant", at, e, 0, api.OK)
	said := map[int]string{}
	for talk := 1; talk <= api.MaxTalks; talk++ {
		said[talk] = o.Said(talk)
	}
	at, e = audit.Heard(l, said)
	finds(t, what+": Heard", at, e, 0, api.OK)
	at, e = audit.Linear(l, o.Calls())
	finds(t, what+": Linear", at, e, 0, api.OK)
	for i := range 3 {
		if n := o.Node(i); n != nil && audit.Replay(l[:n.Done()]).Save() != n.Table().Save() {
			t.Errorf("%s: the table of node %d is not what the log comes to", what, i)
		}
	}
	if t.Failed() {
		t.FailNow()
	}
}

func texts() []string {
	return []string{
		dialogue,
		lines(`a:/inc n/send "n"/expect {/"ok" goto b/re "e+r" goto c/timeout 6 goto b/}/b:/if n < 5 goto a/send "bye"/exit 1/c:/send "again"/goto a`),
		lines(`a:/send "1"/send "2"/send "3"/expect {/glob "n?" goto a/timeout 30 goto b/}/b:/exit 2`),
		"?",
	}
}

// act: what the outer world does next.
func (d *dice) act(w *observer) api.Act {
	letter := func(kind int) api.Act {
		l := w.Flight()
		if len(l) == 0 {
			return api.Act{Kind: api.ActRound}
		}
		return api.Act{Kind: kind, N: l[d.below(len(l))].Id}
	}
	call := func(op uint8) api.Act {
		return api.Act{Kind: api.ActCall, Node: d.below(3), To: d.below(3), Op: op, Talk: d.below(5), At: d.below(3)}
	}
	switch n := d.below(100); {
	case n < 40:
		return api.Act{Kind: api.ActRound}
	case n < 50:
		return api.Act{Kind: api.ActTick, N: 1}
	case n < 64:
		return letter(api.ActDeliver)
	case n < 68:
		return letter(api.ActDrop + d.below(2))
	case n < 75:
		return api.Act{Kind: api.ActCut + d.below(3)%2, Node: d.below(4), N: d.below(12)}
	case n < 77:
		return api.Act{Kind: api.ActRate, Node: d.below(3), N: 900 + d.below(201)}
	case n < 80:
		return api.Act{Kind: api.ActPeer, N: 1 + d.below(8), Text: []string{"ok", "er", "ne", "n", "o", "k!", "eeer"}[d.below(7)]}
	case n < 82:
		a := call(api.OpSubmit)
		a.Text = texts()[d.below(4)]
		return a
	case n < 88:
		return call([]uint8{api.OpCancel, api.OpStatus, api.OpStatus, api.OpWatch}[d.below(4)])
	case n < 94:
		return api.Act{Kind: api.ActRetry, Node: d.below(3), To: d.below(3)}
	case n < 95:
		return api.Act{Kind: api.ActPower, Node: d.below(4), N: d.below(15)}
	case n < 96:
		return api.Act{Kind: api.ActCrash, Node: d.below(4), Keep: []int{d.below(3), d.below(3), d.below(3), d.below(3), d.below(3), d.below(3)}, N: d.below(100)}
	case n < 97:
		return api.Act{Kind: api.ActDraw, Node: d.below(3), N: d.below(20)}
	}
	return api.Act{Kind: api.ActBoot, Node: d.below(4)}
}

// mend: all machines are up, nothing is cut, clocks go rightly, draws differ.
func mend(w *observer) {
	for a := range 16 {
		for b := range a {
			w.do(api.Act{Kind: api.ActHeal, Node: a, N: b})
		}
	}
	// Also those whose disk has power for some steps yet.
	for i := range 4 {
		w.do(api.Act{Kind: api.ActCrash, Node: i}, api.Act{Kind: api.ActBoot, Node: i})
		w.do(api.Act{Kind: api.ActRate, Node: i, N: 1000}, api.Act{Kind: api.ActDraw, Node: i, N: 6 * i})
	}
}

func rounds(w *observer, many int) {
	for range many {
		w.do(api.Act{Kind: api.ActRound})
	}
}

// leader: the node that is ready; -1 without one.
func leader(w *observer) int {
	for i := range 3 {
		if w.Node(i).View().Ready {
			return i
		}
	}
	return -1
}

// P1, P2, P4, P6 of the whole: of whatever acts, and of what comes behind them.
func TestWorlds(t *testing.T) {
	statuses, changes, sends := 0, 0, 0
	for seed := range 60 {
		d := dice(seed + 1)
		w := newObserver()
		for range 600 {
			w.do(d.act(w))
		}
		mend(w)
		rounds(w, 80)
		w.audits(t, "behind the acts")
		i := leader(w)
		if i < 0 {
			t.Fatalf("seed %d: nobody leads", seed)
		}
		// What is asked then is answered, and a dialogue comes to its end.
		for client := range 3 {
			w.do(api.Act{Kind: api.ActCall, Node: client, To: i, Op: api.OpStatus, Talk: 1})
		}
		rounds(w, 250)
		w.audits(t, "at the end")
		x := w.Node(leader(w)).Table()
		for id := 1; id <= x.Len(); id++ {
			if s, e := x.Status(id); e != api.OK || s.State == api.TalkRuns || s.State == api.TalkEnded && s.Acked != s.Sends {
				t.Errorf("seed %d: the talk %d: %+v", seed, id, s)
			}
		}
		sends += len(w.Taken())
		for _, c := range w.Calls() {
			switch {
			case c.Ended == 0:
			case c.Call.Op == api.OpStatus && c.Answer.Err == api.OK:
				statuses++
			case c.Answer.Talk > 0 && c.Call.Op != api.OpWatch:
				changes++
			}
		}
		l := w.Calls()
		for _, c := range l[len(l)-3:] {
			if c.Ended == 0 {
				t.Errorf("seed %d: not answered: %+v", seed, c)
			}
		}
	}
	if statuses < 100 || changes < 100 || sends < 200 {
		t.Errorf("too little happens: %d statuses, %d changes, %d sends", statuses, changes, sends)
	}
}
