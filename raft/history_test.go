package raft_test

import (
	"testing"

	"dragoman/api"
)

// history is what was seen of all nodes: who led which term, and what was committed.
type history struct {
	leaders   map[int]int
	committed map[int]api.Entry
	installed int
}

// look: P18.10 to P18.12, as far as they can be seen now.
func (h *history) look(t *testing.T, w *world) {
	t.Helper()
	for n, p := range w.nodes {
		v := p.core.View()
		if v.Role == api.Leader {
			if other, ok := h.leaders[v.Ballot.Term]; ok && other != n {
				t.Fatalf("both %d and %d lead the term %d", n, other, v.Ballot.Term)
			}
			h.leaders[v.Ballot.Term] = n
		}
		for i := v.Snap.Index + 1; i <= v.Commit; i++ {
			x, e := p.core.Entry(i)
			if other, ok := h.committed[i]; e != api.OK || ok && other != x {
				t.Fatalf("the node %d has committed %v at %d, another one %v", n, x, i, other)
			}
			h.committed[i] = x
		}
		if x, ok := h.committed[v.Snap.Index]; ok && x.Term != v.Snap.Term {
			t.Fatalf("the node %d has the mark %v, and %v is committed there", n, v.Snap, x)
		}
	}
	for _, p := range w.nodes {
		for _, q := range w.nodes {
			alike(t, p, q)
		}
	}
}

// alike: P18.11 of two logs.
func alike(t *testing.T, p, q *pair) {
	t.Helper()
	a, b := p.core.View(), q.core.View()
	same := false
	for i := min(a.Last, b.Last); i > max(a.Snap.Index, b.Snap.Index); i-- {
		x, _ := p.core.Entry(i)
		y, _ := q.core.Entry(i)
		if same && x != y {
			t.Fatalf("two logs have %v and %v at %d, and are alike behind it", x, y, i)
		}
		same = same || x.Term == y.Term
	}
}

// P18.10, P18.11, P18.12: whatever is lost, late, doubled, whoever starts again.
func TestHistory(t *testing.T) {
	led, committed, marks := 0, 0, 0
	for seed := range 80 {
		d := dice(seed*104729 + 3)
		d.below(9)
		w := newWorld(t, api.Mark{}, nil)
		h := &history{leaders: map[int]int{}, committed: map[int]api.Entry{}}
		for range 3000 {
			w.act(t, &d, true)
			h.look(t, w)
		}
		led += len(h.leaders)
		committed += len(h.committed)
		for _, p := range w.nodes {
			marks += p.core.View().Snap.Index
		}
	}
	if led < 200 || committed < 2000 || marks < 2000 {
		t.Errorf("too little happens: %d terms were led, %d entries committed, the marks are %d together", led, committed, marks)
	}
}

// P18.10: with all up and all letters coming, one of them leads soon, and what it proposes is committed by all.
func TestOneLeads(t *testing.T) {
	w := newWorld(t, api.Mark{}, nil)
	round := func() {
		for n := range w.nodes {
			w.tick(t, n)
		}
		for len(w.flight) > 0 {
			m := w.flight[0]
			w.flight = w.flight[1:]
			w.step(t, m, true)
		}
	}
	for range 30 {
		round()
	}
	if v := w.nodes[0].core.View(); v.Role != api.Leader || !v.Ready || v.Ballot.Term != 1 {
		t.Fatalf("behind 30 rounds: %+v", v)
	}
	for _, s := range []string{"a", "b", "c"} {
		w.propose(t, 0, s)
	}
	for range 5 {
		round()
	}
	for n, p := range w.nodes {
		if v := p.core.View(); v.Commit != 4 || v.Leader != 0 {
			t.Errorf("the node %d: %+v", n, v)
		}
		if x, e := p.core.Entry(4); e != api.OK || x != (api.Entry{Term: 1, Data: "c"}) {
			t.Errorf("the node %d has %v, %d", n, x, e)
		}
	}
}
