package raft_test

import (
	"math"
	"slices"
	"strings"
	"testing"

	"dragoman/api"
	"dragoman/raft"
)

func want(t *testing.T, what string, got, want api.Errno) {
	t.Helper()
	if got != want {
		t.Errorf("%s: the error %d, want %d", what, got, want)
	}
}

// effects: these, and no others.
func effects(t *testing.T, what string, got, want api.Effects) {
	t.Helper()
	if !sameEffects(got, want) {
		t.Errorf("%s: the effects %+v, want %+v", what, got, want)
	}
}

func nothing(t *testing.T, what string, got api.Effects) {
	t.Helper()
	effects(t, what, got, api.Effects{})
}

func sends(l ...api.Message) api.Effects { return api.Effects{Send: l} }

func log(terms ...int) []api.Entry {
	var l []api.Entry
	for i, term := range terms {
		l = append(l, api.Entry{Term: term, Data: string(rune('a' + i))})
	}
	return l
}

func node(t *testing.T, self int, b api.Ballot, mark api.Mark, l []api.Entry) *raft.Core {
	t.Helper()
	c, e := raft.New(self, b, mark, l)
	if c == nil || e != api.OK {
		t.Fatalf("New(%d, %v, %v, %v): %d", self, b, mark, l, e)
	}
	return c
}

// ticked: behind so many ticks in which nothing happens.
func ticked(t *testing.T, c *raft.Core, n int) {
	t.Helper()
	for range n {
		nothing(t, "a tick", c.Tick())
	}
}

// candidate: node 0, that stands in the term behind its own.
func candidate(t *testing.T, b api.Ballot, mark api.Mark, l []api.Entry) *raft.Core {
	t.Helper()
	c := node(t, 0, b, mark, l)
	for c.View().Role != api.Candidate {
		c.Tick()
	}
	return c
}

// leader: node 0, that leads the term behind its own.
func leader(t *testing.T, b api.Ballot, mark api.Mark, l []api.Entry) *raft.Core {
	t.Helper()
	c := candidate(t, b, mark, l)
	c.Step(api.Message{Kind: api.MsgVoted, From: 1, Term: b.Term + 1, Good: true})
	if v := c.View(); v.Role != api.Leader || v.Leader != 0 {
		t.Fatalf("it is no leader: %+v", v)
	}
	return c
}

// The chapter's examples.
func TestExamples(t *testing.T) {
	c := node(t, 0, api.Ballot{For: -1}, api.Mark{}, nil)
	if v := c.View(); v.Role != api.Follower || v.Leader != -1 || v.Last != 0 {
		t.Errorf("a new one: %+v", v)
	}
	ticked(t, c, 19)
	effects(t, "the tick 20", c.Tick(), api.Effects{Save: true, Ballot: api.Ballot{Term: 1, For: 0}, Send: []api.Message{
		{Kind: api.MsgVote, From: 0, To: 1, Term: 1}, {Kind: api.MsgVote, From: 0, To: 2, Term: 1}}})
	entry := []api.Entry{{Term: 1}}
	effects(t, "the first vote", c.Step(api.Message{Kind: api.MsgVoted, From: 1, Term: 1, Good: true}), api.Effects{Append: entry, Send: []api.Message{
		{Kind: api.MsgAppend, From: 0, To: 1, Term: 1, Stamp: 20, Entries: entry}, {Kind: api.MsgAppend, From: 0, To: 2, Term: 1, Stamp: 20, Entries: entry}}})
	if v := c.View(); v.Role != api.Leader || v.Ready {
		t.Errorf("with one vote: %+v", v)
	}
	c.Step(api.Message{Kind: api.MsgAppended, From: 2, Term: 1, Good: true, Index: 1})
	if v := c.View(); v.Commit != 1 || !v.Ready {
		t.Errorf("with an answer: %+v", v)
	}
	i, term, _, e := c.Propose("x")
	if i != 2 || term != 1 || e != api.OK {
		t.Errorf("Propose(x): %d, %d, %d", i, term, e)
	}
	nothing(t, "MsgVote of term 9", c.Step(api.Message{Kind: api.MsgVote, From: 1, Term: 9}))
	want(t, "Compact(1)", c.Compact(1), api.OK)
	_, e = c.Entry(1)
	want(t, "Entry(1)", e, api.ErrNone)
	if x, e := c.Entry(2); x != (api.Entry{Term: 1, Data: "x"}) || e != api.OK {
		t.Errorf("Entry(2): %v, %d", x, e)
	}
	want(t, "Install({5, 1})", c.Install(api.Mark{Index: 5, Term: 1}), api.ErrState)
}

// R4: of a nil one.
func TestNil(t *testing.T) {
	var c *raft.Core
	if c.View() != (api.View{}) || c.Copy() != nil {
		t.Error("View or Copy of nil")
	}
	nothing(t, "Tick", c.Tick())
	nothing(t, "Step", c.Step(api.Message{Kind: 1, From: 1, Term: 1}))
	x, e := c.Entry(-1)
	if x != (api.Entry{}) {
		t.Errorf("Entry: %v", x)
	}
	want(t, "Entry", e, api.ErrNil)
	want(t, "Draw", c.Draw(-1), api.ErrNil)
	want(t, "Compact", c.Compact(-1), api.ErrNil)
	want(t, "Install", c.Install(api.Mark{Index: -1}), api.ErrNil)
	i, term, fx, e := c.Propose(strings.Repeat("x", 3501))
	if i != 0 || term != 0 {
		t.Errorf("Propose: %d, %d", i, term)
	}
	want(t, "Propose", e, api.ErrNil)
	nothing(t, "Propose", fx)
}

// P18.1: each argument at its limits, and one past them.
func TestNew(t *testing.T) {
	const top = 1 << 20
	right := func(what string, self int, b api.Ballot, mark api.Mark, l []api.Entry) {
		t.Helper()
		v := node(t, self, b, mark, l).View()
		if v != (api.View{Role: api.Follower, Ballot: b, Leader: -1, Snap: mark, Last: mark.Index + len(l), Commit: mark.Index}) {
			t.Errorf("%s: %+v", what, v)
		}
	}
	wrong := func(what string, self int, b api.Ballot, mark api.Mark, l []api.Entry) {
		t.Helper()
		c, e := raft.New(self, b, mark, l)
		if c != nil || e != api.ErrArg {
			t.Errorf("%s: %v, %d", what, c, e)
		}
	}
	b := api.Ballot{Term: 9, For: -1}
	for self := range 3 {
		right("self", self, b, api.Mark{}, nil)
		right("for", 0, api.Ballot{For: self}, api.Mark{}, nil)
	}
	for _, self := range []int{-1, 3, math.MinInt, math.MaxInt} {
		wrong("self", self, b, api.Mark{}, nil)
	}
	for _, n := range []int{-2, 3, math.MinInt, math.MaxInt} {
		wrong("for", 0, api.Ballot{Term: 9, For: n}, api.Mark{}, nil)
	}
	for _, n := range []int{-1, math.MinInt} {
		wrong("the mark's index", 0, b, api.Mark{Index: n}, nil)
		wrong("the mark's index, and entries", 0, b, api.Mark{Index: n}, log(1, 1))
		wrong("the mark's term", 0, b, api.Mark{Term: n}, nil)
		wrong("the mark's term, and entries", 0, b, api.Mark{Term: n}, log(1, 1))
		wrong("the ballot's term", 0, api.Ballot{Term: n}, api.Mark{}, nil)
	}
	right("the greatest index", 0, b, api.Mark{Index: top}, nil)
	right("the greatest index of an entry", 0, b, api.Mark{Index: top - 2}, log(1, 1))
	wrong("the mark's index", 0, b, api.Mark{Index: top + 1}, nil)
	wrong("an entry's index", 0, b, api.Mark{Index: top - 1}, log(1, 1))
	wrong("a huge index", 0, b, api.Mark{Index: math.MaxInt}, log(1, 1))
	right("the terms", 0, b, api.Mark{Term: 2}, log(2, 2, 5, 9))
	right("no term", 0, api.Ballot{For: -1}, api.Mark{}, log(0, 0))
	wrong("terms that fall", 0, b, api.Mark{Term: 2}, log(2, 5, 4))
	wrong("terms that fall behind the mark", 0, b, api.Mark{Term: 2}, log(1, 5))
	wrong("a term below 0", 0, b, api.Mark{}, log(-1))
	wrong("a ballot behind the log", 0, b, api.Mark{Term: 2}, log(2, 10))
	wrong("a ballot behind the mark", 0, b, api.Mark{Term: 10}, nil)
	right("the greatest term", 0, api.Ballot{Term: 1 << 40, For: 2}, api.Mark{Index: 1, Term: 1 << 40}, log(1<<40))
	wrong("a greater term", 0, api.Ballot{Term: 1<<40 + 1, For: 2}, api.Mark{}, nil)
}

// P18.1, R3: what is handed in is not kept.
func TestNewKeepsNothing(t *testing.T) {
	l := log(1, 1)
	c := node(t, 0, api.Ballot{Term: 1, For: -1}, api.Mark{}, l)
	l[0].Data = "changed"
	if x, _ := c.Entry(1); x.Data != "a" {
		t.Error("a log that was handed in is kept")
	}
}

// P18.1, P18.4: the draw is 4 times self at first.
func TestFirstDraw(t *testing.T) {
	for self := range 3 {
		c := node(t, self, api.Ballot{For: -1}, api.Mark{}, nil)
		ticked(t, c, 19+4*self)
		if fx := c.Tick(); !fx.Save || len(fx.Send) != 2 {
			t.Errorf("the node %d does not stand: %+v", self, fx)
		}
	}
}

// P18.2: entries behind the mark, up to the last one.
func TestEntry(t *testing.T) {
	c := node(t, 1, api.Ballot{Term: 9, For: 1}, api.Mark{Index: 4, Term: 2}, log(2, 3))
	for i, x := range log(2, 3) {
		if got, e := c.Entry(5 + i); got != x || e != api.OK {
			t.Errorf("Entry(%d): %v, %d", 5+i, got, e)
		}
	}
	for _, i := range []int{4, 7, 0, -1, math.MinInt, math.MaxInt} {
		x, e := c.Entry(i)
		if x != (api.Entry{}) {
			t.Errorf("Entry(%d): %v", i, x)
		}
		want(t, "Entry", e, api.ErrNone)
	}
}

// P18.3: draws from 0 to 19.
func TestDraw(t *testing.T) {
	for _, n := range []int{-1, 20, math.MinInt, math.MaxInt} {
		c := node(t, 0, api.Ballot{For: -1}, api.Mark{}, nil)
		want(t, "Draw", c.Draw(n), api.ErrArg)
		ticked(t, c, 19)
		if !c.Tick().Save {
			t.Errorf("Draw(%d) has changed something", n)
		}
	}
	for _, n := range []int{0, 1, 19} {
		c := node(t, 2, api.Ballot{For: -1}, api.Mark{}, nil)
		want(t, "Draw", c.Draw(n), api.OK)
		ticked(t, c, 19+n)
		if !c.Tick().Save {
			t.Errorf("it does not stand behind %d ticks", 20+n)
		}
	}
}

// P18.4: who stands again asks again, in the next term; none stands behind the greatest term.
func TestStands(t *testing.T) {
	c := node(t, 1, api.Ballot{Term: 5, For: 2}, api.Mark{Index: 3, Term: 2}, log(2, 4))
	want(t, "Draw", c.Draw(3), api.OK)
	for term := 6; term < 9; term++ {
		ticked(t, c, 22)
		vote := api.Message{Kind: api.MsgVote, From: 1, Term: term, Index: 5, LogTerm: 4}
		first, second := vote, vote
		first.To, second.To = 0, 2
		effects(t, "it stands", c.Tick(), api.Effects{Save: true, Ballot: api.Ballot{Term: term, For: 1}, Send: []api.Message{first, second}})
		if v := c.View(); v.Role != api.Candidate || v.Leader != -1 || v.Ballot != (api.Ballot{Term: term, For: 1}) {
			t.Errorf("%+v", v)
		}
	}
	c = node(t, 0, api.Ballot{Term: 1 << 40, For: -1}, api.Mark{}, nil)
	ticked(t, c, 100)
	if v := c.View(); v.Role != api.Follower || v.Now != 100 {
		t.Errorf("in the greatest term: %+v", v)
	}
	c = candidate(t, api.Ballot{Term: 1<<40 - 1, For: -1}, api.Mark{}, nil)
	if v := c.View(); v.Ballot.Term != 1<<40 {
		t.Errorf("one below the greatest term: %+v", v)
	}
}

// P18.4: a leader beats each 3 ticks, also if it spoke for another reason in between.
func TestBeats(t *testing.T) {
	c := leader(t, api.Ballot{For: -1}, api.Mark{}, nil)
	beats := func(stamp, commit, last int) {
		t.Helper()
		var l []api.Entry
		for i := 1; i <= last; i++ {
			x, _ := c.Entry(i)
			l = append(l, x)
		}
		m := api.Message{Kind: api.MsgAppend, Term: 1, Stamp: stamp, Commit: commit, Entries: l}
		first, second := m, m
		first.To, second.To = 1, 2
		effects(t, "a beat", c.Tick(), sends(first, second))
	}
	ticked(t, c, 2)
	beats(23, 0, 1)
	ticked(t, c, 2)
	beats(26, 0, 1)
	ticked(t, c, 1)
	c.Propose("x")
	ticked(t, c, 2)
	beats(30, 0, 2)
}

// P18.4: a leader that nobody answers for 20 ticks leads no more; one answer is enough.
func TestLeaderAlone(t *testing.T) {
	c := leader(t, api.Ballot{For: -1}, api.Mark{}, nil)
	for range 19 {
		c.Tick()
	}
	if c.View().Role != api.Leader {
		t.Fatal("it leads no more behind 19 ticks")
	}
	nothing(t, "the tick 20", c.Tick())
	if v := c.View(); v.Role != api.Follower || v.Leader != -1 || v.Ballot != (api.Ballot{Term: 1, For: 0}) || v.Now != 40 {
		t.Errorf("behind 20 ticks: %+v", v)
	}
	// quiet and wait are 0: it votes for nobody, and does not stand, for 20 ticks.
	ticked(t, c, 19)
	nothing(t, "a MsgVote", c.Step(api.Message{Kind: api.MsgVote, From: 1, Term: 9, Index: 9, LogTerm: 8}))
	if !c.Tick().Save {
		t.Error("it does not stand behind 20 ticks")
	}

	c = leader(t, api.Ballot{For: -1}, api.Mark{}, nil)
	for range 10 {
		c.Tick()
	}
	c.Step(api.Message{Kind: api.MsgAppended, From: 2, Term: 1, Good: true, Index: 1, Stamp: 25})
	if v := c.View(); v.Heard != [3]int{20, 20, 25} {
		t.Errorf("heard: %v", v.Heard)
	}
	for range 14 {
		c.Tick()
	}
	if c.View().Role != api.Leader {
		t.Fatal("it leads no more 19 ticks behind an answer's stamp")
	}
	c.Tick()
	if v := c.View(); v.Role != api.Follower || v.Heard != [3]int{20, 20, 25} {
		t.Errorf("20 ticks behind an answer's stamp: %+v", v)
	}
}

// P18.5: errors in their order; what is proposed is put, and told.
func TestPropose(t *testing.T) {
	long := strings.Repeat("x", 3501)
	refused := func(what string, c *raft.Core, data string, e api.Errno) {
		t.Helper()
		v := c.View()
		i, term, fx, got := c.Propose(data)
		if i != 0 || term != 0 || c.View() != v {
			t.Errorf("%s: %d, %d, %+v", what, i, term, c.View())
		}
		nothing(t, what, fx)
		want(t, what, got, e)
	}
	refused("a follower", node(t, 0, api.Ballot{For: -1}, api.Mark{}, nil), long, api.ErrNotLeader)
	refused("a candidate", candidate(t, api.Ballot{For: -1}, api.Mark{}, nil), "x", api.ErrNotLeader)
	c := leader(t, api.Ballot{For: -1}, api.Mark{}, nil)
	refused("3501 bytes", c, long, api.ErrLong)
	i, term, fx, e := c.Propose(long[1:])
	want(t, "3500 bytes", e, api.OK)
	if i != 2 || term != 1 {
		t.Errorf("Propose: %d, %d", i, term)
	}
	l := []api.Entry{{Term: 1}, {Term: 1, Data: long[1:]}}
	effects(t, "3500 bytes", fx, api.Effects{Append: l[1:], Send: []api.Message{
		{Kind: api.MsgAppend, To: 1, Term: 1, Stamp: 20, Entries: l}, {Kind: api.MsgAppend, To: 2, Term: 1, Stamp: 20, Entries: l}}})
	for n := 3; n <= 64; n++ {
		i, _, _, e := c.Propose("")
		if i != n || e != api.OK {
			t.Fatalf("Propose: %d, %d", i, e)
		}
	}
	refused("one more than 64", c, "x", api.ErrFull)
	refused("one more than 64, too long", c, long, api.ErrLong)
	c.Step(api.Message{Kind: api.MsgAppended, From: 1, Term: 1, Good: true, Index: 1})
	i, _, _, e = c.Propose("")
	if i != 65 || e != api.OK {
		t.Errorf("behind a commit: %d, %d", i, e)
	}
	refused("one more again", c, "x", api.ErrFull)
	const top = 1 << 20
	c = leader(t, api.Ballot{For: -1}, api.Mark{Index: top - 2}, nil)
	if i, _, _, e := c.Propose("x"); i != top || e != api.OK {
		t.Errorf("at the greatest index: %d, %d", i, e)
	}
	refused("behind the greatest index", c, "x", api.ErrFull)
}

// P18.6, MsgVoted: at the greatest index nothing is put.
func TestLeadsFullLog(t *testing.T) {
	const top = 1 << 20
	c := candidate(t, api.Ballot{For: -1}, api.Mark{Index: top - 1}, log(0))
	m := api.Message{Kind: api.MsgAppend, Term: 1, Index: top, Commit: top - 1, Stamp: 20}
	first, second := m, m
	first.To, second.To = 1, 2
	effects(t, "the vote", c.Step(api.Message{Kind: api.MsgVoted, From: 2, Term: 1, Good: true}), sends(first, second))
	if v := c.View(); v.Role != api.Leader || v.Last != top || v.Ready {
		t.Errorf("%+v", v)
	}
	// Its own match is 0 then: both others have the last entry, which is not of its term.
	c.Step(api.Message{Kind: api.MsgAppended, From: 1, Term: 1, Good: true, Index: top, Stamp: 20})
	c.Step(api.Message{Kind: api.MsgAppended, From: 2, Term: 1, Good: true, Index: top, Stamp: 20})
	if v := c.View(); v.Commit != top-1 || v.Ready {
		t.Errorf("%+v", v)
	}
}

// P18.6: what is not to it, from itself or nobody, of no term, of another kind.
func TestStepNothing(t *testing.T) {
	right := api.Message{Kind: api.MsgAppend, From: 1, To: 0, Term: 3}
	changes := map[string]func(*api.Message){
		"to another one":       func(m *api.Message) { m.To = 2 },
		"to a gateway":         func(m *api.Message) { m.To = 3 },
		"from itself":          func(m *api.Message) { m.From = 0 },
		"from a gateway":       func(m *api.Message) { m.From = 3 },
		"from nobody":          func(m *api.Message) { m.From = -1 },
		"term 0":               func(m *api.Message) { m.Term = 0 },
		"a term below 0":       func(m *api.Message) { m.Term = -1 },
		"a term that is above": func(m *api.Message) { m.Term = 1<<40 + 1 },
		"no kind":              func(m *api.Message) { m.Kind = 0 },
		"MsgAttach":            func(m *api.Message) { m.Kind = api.MsgAttach },
		"MsgCall":              func(m *api.Message) { m.Kind = api.MsgCall },
		"the kind 255":         func(m *api.Message) { m.Kind = 255 },
		"Index below 0":        func(m *api.Message) { m.Index = -1 },
		"LogTerm below 0":      func(m *api.Message) { m.LogTerm = -1 },
		"LogTerm above Term":   func(m *api.Message) { m.LogTerm = 4 },
	}
	for what, change := range changes {
		c := node(t, 0, api.Ballot{For: -1}, api.Mark{}, nil)
		ticked(t, c, 19)
		v := c.View()
		m := right
		change(&m)
		nothing(t, what, c.Step(m))
		if c.View() != v {
			t.Errorf("%s: %+v", what, c.View())
		}
		if !c.Tick().Save {
			t.Errorf("%s: it was heard as a leader", what)
		}
	}
	c := node(t, 0, api.Ballot{For: -1}, api.Mark{}, nil)
	m := right
	m.Term, m.LogTerm = 1<<40, 1<<40
	if fx := c.Step(m); fx.Ballot != (api.Ballot{Term: 1 << 40, For: -1}) {
		t.Errorf("the greatest term: %+v", fx)
	}
}

// P18.6, MsgVote: who is asked, by whom, with which log.
func TestVote(t *testing.T) {
	behind := []struct {
		what  string
		b     api.Ballot
		m     api.Message
		good  bool
		saved api.Ballot
	}{
		{"a new term", api.Ballot{Term: 3, For: 0}, api.Message{From: 1, Term: 4, Index: 2, LogTerm: 3}, true, api.Ballot{Term: 4, For: 1}},
		{"its term, no vote yet", api.Ballot{Term: 4, For: -1}, api.Message{From: 2, Term: 4, Index: 2, LogTerm: 3}, true, api.Ballot{Term: 4, For: 2}},
		{"its term, the same vote", api.Ballot{Term: 4, For: 2}, api.Message{From: 2, Term: 4, Index: 2, LogTerm: 3}, true, api.Ballot{}},
		{"its term, another vote", api.Ballot{Term: 4, For: 1}, api.Message{From: 2, Term: 4, Index: 9, LogTerm: 4}, false, api.Ballot{}},
		{"an old term", api.Ballot{Term: 4, For: -1}, api.Message{From: 2, Term: 3, Index: 9, LogTerm: 3}, false, api.Ballot{}},
		{"a shorter log", api.Ballot{Term: 4, For: -1}, api.Message{From: 2, Term: 4, Index: 1, LogTerm: 3}, false, api.Ballot{}},
		{"a shorter log in a new term", api.Ballot{Term: 4, For: 2}, api.Message{From: 2, Term: 5, Index: 1, LogTerm: 3}, false, api.Ballot{Term: 5, For: -1}},
		{"a longer log of an older term", api.Ballot{Term: 4, For: -1}, api.Message{From: 2, Term: 4, Index: 9, LogTerm: 2}, false, api.Ballot{}},
		{"a shorter log of a newer term", api.Ballot{Term: 4, For: -1}, api.Message{From: 2, Term: 4, Index: 1, LogTerm: 4}, true, api.Ballot{Term: 4, For: 2}},
		{"a longer log", api.Ballot{Term: 4, For: -1}, api.Message{From: 2, Term: 4, Index: 3, LogTerm: 3}, true, api.Ballot{Term: 4, For: 2}},
	}
	for _, x := range behind {
		for _, ticks := range []int{19, 20} {
			c := node(t, 0, x.b, api.Mark{Index: 1, Term: 2}, log(3))
			want(t, "Draw", c.Draw(19), api.OK)
			ticked(t, c, ticks)
			v := c.View()
			x.m.Kind = api.MsgVote
			fx := c.Step(x.m)
			if ticks < 20 {
				nothing(t, x.what+", too early", fx)
				if c.View() != v {
					t.Errorf("%s, too early: %+v", x.what, c.View())
				}
				continue
			}
			term := max(x.b.Term, x.m.Term)
			saved := x.saved != (api.Ballot{})
			effects(t, x.what, fx, api.Effects{Save: saved, Ballot: x.saved, Send: []api.Message{{Kind: api.MsgVoted, From: 0, To: x.m.From, Term: term, Good: x.good}}})
			if v := c.View(); saved && v.Ballot != x.saved || !saved && v.Ballot != x.b {
				t.Errorf("%s: the ballot %v", x.what, v.Ballot)
			}
			// Only who gave its vote waits anew.
			left := 18
			if x.good {
				left = 38
			}
			ticked(t, c, left)
			if !c.Tick().Save {
				t.Errorf("%s: it does not stand then", x.what)
			}
		}
	}
}

// P18.6, MsgVote: one that stands takes a higher term, and votes then; in its own term it does not.
func TestVoteOfCandidate(t *testing.T) {
	c := candidate(t, api.Ballot{For: -1}, api.Mark{}, nil)
	effects(t, "its own term", c.Step(api.Message{Kind: api.MsgVote, From: 1, Term: 1}), sends(api.Message{Kind: api.MsgVoted, To: 1, Term: 1}))
	if c.View().Role != api.Candidate {
		t.Error("it stands no more")
	}
	effects(t, "a higher term", c.Step(api.Message{Kind: api.MsgVote, From: 1, Term: 2}), api.Effects{Save: true, Ballot: api.Ballot{Term: 2, For: 1}, Send: []api.Message{{Kind: api.MsgVoted, To: 1, Term: 2, Good: true}}})
	if v := c.View(); v.Role != api.Follower || v.Leader != -1 {
		t.Errorf("%+v", v)
	}
}

// P18.6, MsgVoted: what is no vote for it now.
func TestVoted(t *testing.T) {
	c := candidate(t, api.Ballot{Term: 4, For: -1}, api.Mark{}, nil)
	nothing(t, "not Good", c.Step(api.Message{Kind: api.MsgVoted, From: 1, Term: 5}))
	nothing(t, "an old one", c.Step(api.Message{Kind: api.MsgVoted, From: 1, Term: 4, Good: true}))
	if c.View().Role != api.Candidate {
		t.Error("it stands no more")
	}
	effects(t, "a higher term", c.Step(api.Message{Kind: api.MsgVoted, From: 1, Term: 6, Good: true}), api.Effects{Save: true, Ballot: api.Ballot{Term: 6, For: -1}})
	if v := c.View(); v.Role != api.Follower || v.Leader != -1 {
		t.Errorf("%+v", v)
	}
	nothing(t, "of a follower", c.Step(api.Message{Kind: api.MsgVoted, From: 1, Term: 6, Good: true}))
	c = leader(t, api.Ballot{For: -1}, api.Mark{}, nil)
	nothing(t, "the second vote", c.Step(api.Message{Kind: api.MsgVoted, From: 2, Term: 1, Good: true}))
	effects(t, "a higher term of a leader", c.Step(api.Message{Kind: api.MsgVoted, From: 2, Term: 2}), api.Effects{Save: true, Ballot: api.Ballot{Term: 2, For: -1}})
	if v := c.View(); v.Role != api.Follower || v.Leader != -1 || v.Ready {
		t.Errorf("%+v", v)
	}
}

// P18.6, MsgAppend: who has heard a leader knows it, and neither stands nor votes for 20 ticks.
func TestHearsLeader(t *testing.T) {
	for _, kind := range []uint8{api.MsgAppend, api.MsgSnap} {
		c := node(t, 0, api.Ballot{Term: 2, For: 1}, api.Mark{}, nil)
		ticked(t, c, 19)
		c.Step(api.Message{Kind: kind, From: 2, Term: 2})
		if v := c.View(); v.Leader != 2 || v.Ballot != (api.Ballot{Term: 2, For: 1}) {
			t.Errorf("%+v", v)
		}
		ticked(t, c, 19)
		nothing(t, "a MsgVote", c.Step(api.Message{Kind: api.MsgVote, From: 1, Term: 9, Index: 9, LogTerm: 9}))
		if !c.Tick().Save {
			t.Error("it does not stand behind 20 ticks")
		}
	}
	c := candidate(t, api.Ballot{For: -1}, api.Mark{}, nil)
	c.Step(api.Message{Kind: api.MsgAppend, From: 2, Term: 1})
	if v := c.View(); v.Role != api.Follower || v.Leader != 2 || v.Ballot != (api.Ballot{Term: 1, For: 0}) {
		t.Errorf("a candidate: %+v", v)
	}
	c = leader(t, api.Ballot{For: -1}, api.Mark{}, nil)
	nothing(t, "a leader in its own term", c.Step(api.Message{Kind: api.MsgAppend, From: 2, Term: 1}))
	if c.View().Role != api.Leader {
		t.Error("it leads no more")
	}
	if fx := c.Step(api.Message{Kind: api.MsgSnap, From: 2, Term: 2, Index: 7, LogTerm: 2}); !fx.Save || !fx.Piece || c.View().Leader != 2 {
		t.Errorf("a leader of a higher term: %+v", fx)
	}
}

// P18.6, MsgAppend, MsgSnap: of a term that is over.
func TestOldLeader(t *testing.T) {
	for _, kind := range []uint8{api.MsgAppend, api.MsgSnap} {
		c := node(t, 0, api.Ballot{Term: 5, For: -1}, api.Mark{}, nil)
		ticked(t, c, 19)
		effects(t, "an old leader", c.Step(api.Message{Kind: kind, From: 2, Term: 4, Index: -3, LogTerm: 99, Stamp: 7, Total: 5}), sends(api.Message{Kind: kind + 1, To: 2, Term: 5}))
		if !c.Tick().Save {
			t.Error("it was heard as a leader")
		}
	}
}

// append3 is what node 1 says, as leader of the term 3.
func append3(index, term, commit int, l ...api.Entry) api.Message {
	return api.Message{Kind: api.MsgAppend, From: 1, Term: 3, Index: index, LogTerm: term, Commit: commit, Stamp: 6, Entries: l}
}

// follows: node 0 in the term 3, with the mark {2, 1} and the terms 1, 2, 2 behind it.
func follows(t *testing.T) *raft.Core {
	t.Helper()
	return node(t, 0, api.Ballot{Term: 3, For: 1}, api.Mark{Index: 2, Term: 1}, log(1, 2, 2))
}

// P18.6, MsgAppend: what it comes to, of a log with the indexes 3 to 5.
func TestAppend(t *testing.T) {
	x := func(term int) api.Entry { return api.Entry{Term: term, Data: "new"} }
	a := log(1, 2, 2)
	good := func(index int) []api.Message {
		return []api.Message{{Kind: api.MsgAppended, To: 1, Term: 3, Good: true, Index: index, Stamp: 6}}
	}
	bad := func(index int) []api.Message {
		return []api.Message{{Kind: api.MsgAppended, To: 1, Term: 3, Index: index, Stamp: 6}}
	}
	for _, c := range []struct {
		what         string
		m            api.Message
		fx           api.Effects
		last, commit int
	}{
		{"a beat", append3(5, 2, 4), api.Effects{Send: good(5)}, 5, 4},
		{"a beat with a higher commit", append3(4, 2, 9), api.Effects{Send: good(4)}, 5, 4},
		{"a beat with a commit below its own", append3(4, 2, 1), api.Effects{Send: good(4)}, 5, 2},
		{"a beat with a commit below 0", append3(4, 2, math.MinInt), api.Effects{Send: good(4)}, 5, 2},
		{"behind the end", append3(5, 2, 5, x(3), x(3)), api.Effects{Append: []api.Entry{x(3), x(3)}, Send: good(7)}, 7, 5},
		{"what it has", append3(2, 1, 9, a...), api.Effects{Send: good(5)}, 5, 5},
		{"what it has, in part", append3(3, 1, 9, a[1]), api.Effects{Send: good(4)}, 5, 4},
		{"what it has, and more", append3(2, 1, 0, append(a[:3:3], x(3))...), api.Effects{Append: []api.Entry{x(3)}, Send: good(6)}, 6, 2},
		{"other entries", append3(3, 1, 9, x(3), x(3)), api.Effects{CutFrom: 4, Append: []api.Entry{x(3), x(3)}, Send: good(5)}, 5, 5},
		{"another last one", append3(2, 1, 4, a[0], a[1], x(3)), api.Effects{CutFrom: 5, Append: []api.Entry{x(3)}, Send: good(5)}, 5, 4},
		{"fewer other ones", append3(2, 1, 4, x(2)), api.Effects{CutFrom: 3, Append: []api.Entry{x(2)}, Send: good(3)}, 3, 3},
		{"behind a gap", append3(6, 2, 9, x(3)), api.Effects{Send: bad(5)}, 5, 2},
		{"far behind a gap", append3(99, 2, 9), api.Effects{Send: bad(5)}, 5, 2},
		{"behind another term", append3(5, 3, 9, x(3)), api.Effects{Send: bad(4)}, 5, 2},
		{"behind another term, further ahead", append3(3, 2, 9, x(3)), api.Effects{Send: bad(2)}, 5, 2},
		{"behind another term than the mark's", append3(2, 2, 9, x(3)), api.Effects{Send: bad(1)}, 5, 2},
		{"ahead of the mark", append3(0, 0, 9, x(1), x(1), a[0], a[1]), api.Effects{Send: good(4)}, 5, 4},
		{"ahead of the mark, all of it", append3(0, 0, 9, x(1)), api.Effects{Send: good(2)}, 5, 2},
		{"ahead of the mark, none of it", append3(1, 1, 9), api.Effects{Send: good(2)}, 5, 2},
		{"ahead of the mark, up to it", append3(1, 0, 9, x(1)), api.Effects{Send: good(2)}, 5, 2},
		{"ahead of the mark, other entries", append3(1, 0, 9, x(1), a[0], x(3)), api.Effects{CutFrom: 4, Append: []api.Entry{x(3)}, Send: good(4)}, 4, 4},
		{"terms that fall", append3(5, 2, 9, x(3), x(2)), api.Effects{}, 5, 2},
		{"a term below LogTerm", append3(5, 2, 9, x(1)), api.Effects{}, 5, 2},
		{"a term above the term", append3(5, 2, 9, x(4)), api.Effects{}, 5, 2},
		{"a term of an entry below 1", append3(0, 0, 9, x(0), x(1)), api.Effects{}, 5, 2},
		{"beyond the greatest index", append3(1<<20, 2, 9, x(3)), api.Effects{}, 5, 2},
		{"at the greatest index", append3(1<<20-1, 2, 9, x(3)), api.Effects{Send: bad(5)}, 5, 2},
		{"a huge index", append3(math.MaxInt, 2, 9, x(3)), api.Effects{}, 5, 2},
	} {
		n := follows(t)
		effects(t, c.what, n.Step(c.m), c.fx)
		if v := n.View(); v.Last != c.last || v.Commit != c.commit || v.Leader != 1 {
			t.Errorf("%s: %+v", c.what, v)
		}
	}
}

// P18.6, MsgAppend: an entry ahead of the commit is not undone; a mark is not either.
func TestAppendCommitted(t *testing.T) {
	n := follows(t)
	n.Step(append3(4, 2, 4))
	for _, m := range []api.Message{append3(2, 1, 9, log(1, 3)...), append3(2, 1, 9, log(2)...), append3(3, 1, 9, log(3, 3, 3)...)} {
		nothing(t, "an entry that was committed", n.Step(m))
	}
	if v := n.View(); v.Last != 5 || v.Commit != 4 {
		t.Errorf("%+v", v)
	}
	effects(t, "the one behind it", n.Step(append3(4, 2, 5, api.Entry{Term: 3})), api.Effects{CutFrom: 5, Append: []api.Entry{{Term: 3}}, Send: []api.Message{{Kind: api.MsgAppended, To: 1, Term: 3, Good: true, Index: 5, Stamp: 6}}})
	n = node(t, 0, api.Ballot{Term: 3, For: 1}, api.Mark{Index: 2, Term: 2}, nil)
	nothing(t, "an entry behind the mark, of a lower term", n.Step(append3(1, 0, 9, log(1, 1)...)))
	if v := n.View(); v.Last != 2 || v.Leader != 1 {
		t.Errorf("%+v", v)
	}
	effects(t, "the least answer", node(t, 0, api.Ballot{Term: 3, For: 1}, api.Mark{}, nil).Step(append3(0, 2, 0)), sends(api.Message{Kind: api.MsgAppended, To: 1, Term: 3, Stamp: 6}))
}

// P18.6, R3: neither the message nor the effects share memory with the node.
func TestSharesNothing(t *testing.T) {
	n := follows(t)
	room := make([]api.Entry, 3, 9)
	copy(room, []api.Entry{{Term: 2, Data: "b"}, {Term: 3, Data: "k"}, {Term: 3, Data: "m"}})
	fx := n.Step(append3(3, 1, 0, room...))
	room[1].Data, fx.Append[1].Data = "spoilt", "spoilt"
	for i, s := range []string{"a", "b", "k", "m"} {
		if x, _ := n.Entry(3 + i); x.Data != s {
			t.Errorf("Entry(%d): %v", 3+i, x)
		}
	}
	c := leader(t, api.Ballot{For: -1}, api.Mark{}, log(0, 0))
	_, _, fx, _ = c.Propose("x")
	fx.Append[0].Data = "spoilt"
	for i := range fx.Send[0].Entries {
		fx.Send[0].Entries[i].Data = "spoilt"
	}
	if fx.Send[1].Entries[0].Data == "spoilt" {
		t.Error("two messages share their entries")
	}
	if x, _ := c.Entry(4); x.Data != "x" {
		t.Errorf("Entry(4): %v", x)
	}
	_ = append(fx.Send[1].Entries, api.Entry{Data: "behind"})
	if x, _ := c.Entry(3); x.Data != "" {
		t.Errorf("Entry(3): %v", x)
	}
}

// P18.6, MsgSnap: what it has already, what it takes, what is too much.
func TestSnap(t *testing.T) {
	snap := func(index, term int) api.Message {
		return api.Message{Kind: api.MsgSnap, From: 1, Term: 3, Index: index, LogTerm: term, At: 4, Total: 9, Stamp: 6, Data: "piece"}
	}
	answer := func(index int) api.Effects {
		return sends(api.Message{Kind: api.MsgSnapped, To: 1, Term: 3, Good: true, Index: index, At: 9, Total: 9, Stamp: 6})
	}
	for _, c := range []struct {
		what        string
		index, term int
		fx          api.Effects
		commit      int
	}{
		{"ahead of the mark", 1, 3, answer(1), 2},
		{"the mark", 2, 3, answer(2), 2},
		{"no index", 0, 0, answer(0), 2},
		{"an entry that it has", 4, 2, answer(4), 4},
		{"the last one", 5, 2, answer(5), 5},
		{"an entry of another term", 4, 3, api.Effects{Piece: true}, 2},
		{"behind the last one", 6, 2, api.Effects{Piece: true}, 2},
		{"the greatest index", 1 << 20, 3, api.Effects{Piece: true}, 2},
		{"one past it", 1<<20 + 1, 3, api.Effects{}, 2},
		{"a huge one", math.MaxInt, 3, api.Effects{}, 2},
	} {
		n := follows(t)
		effects(t, c.what, n.Step(snap(c.index, c.term)), c.fx)
		if v := n.View(); v.Commit != c.commit || v.Leader != 1 || v.Last != 5 || v.Snap.Index != 2 {
			t.Errorf("%s: %+v", c.what, v)
		}
	}
	n := follows(t)
	n.Step(append3(5, 2, 5))
	effects(t, "below its commit", n.Step(snap(4, 2)), answer(4))
	if n.View().Commit != 5 {
		t.Error("commit has fallen")
	}
}

// leads: node 0, leader of the term 3, with the mark {2, 1}, the terms 1, 2, 2 behind it, and its own entry 6; now is 20.
func leads(t *testing.T) *raft.Core {
	t.Helper()
	return leader(t, api.Ballot{Term: 2, For: 1}, api.Mark{Index: 2, Term: 1}, log(1, 2, 2))
}

func answer3(from, index, stamp int, good bool) api.Message {
	return api.Message{Kind: api.MsgAppended, From: from, Term: 3, Index: index, Stamp: stamp, Good: good}
}

// tells: what node 0 says to another one, as leader of the term 3.
func tells(to, index, term, commit int, l ...api.Entry) api.Effects {
	return sends(api.Message{Kind: api.MsgAppend, To: to, Term: 3, Index: index, LogTerm: term, Commit: commit, Stamp: 20, Entries: l})
}

func tellsSnap(to, at int) api.Effects {
	return sends(api.Message{Kind: api.MsgSnap, To: to, Term: 3, Index: 2, LogTerm: 1, At: at, Stamp: 20})
}

// P18.6, MsgAppended, not Good: next falls, but not below what the other one is known to have.
func TestAppendedNotGood(t *testing.T) {
	own := api.Entry{Term: 3}
	l := append(log(1, 2, 2), own)
	for _, c := range []struct {
		what  string
		index int
		fx    api.Effects
	}{
		{"one below", 4, tells(1, 4, 2, 2, l[2:]...)},
		{"as far as next", 5, tells(1, 4, 2, 2, l[2:]...)},
		{"beyond next", 99, tells(1, 4, 2, 2, l[2:]...)},
		{"far beyond next", math.MaxInt, tells(1, 4, 2, 2, l[2:]...)},
		{"two below", 3, tells(1, 3, 1, 2, l[1:]...)},
		{"the mark", 2, tells(1, 2, 1, 2, l...)},
		{"ahead of the mark", 1, tellsSnap(1, 0)},
		{"nothing", 0, tellsSnap(1, 0)},
		{"below 0", -5, tellsSnap(1, 0)},
		{"far below 0", math.MinInt, tellsSnap(1, 0)},
	} {
		effects(t, c.what, leads(t).Step(answer3(1, c.index, 20, false)), c.fx)
	}
	n := leads(t)
	n.Step(answer3(1, 4, 20, true))
	effects(t, "below its match", n.Step(answer3(1, 0, 20, false)), tells(1, 4, 2, 2, l[2:]...))
	effects(t, "the other node", n.Step(answer3(2, 3, 20, false)), tells(2, 3, 1, 2, l[1:]...))
}

// P18.6, MsgAppended, Good: match and next rise; what a majority has is committed, if it is of the own term.
func TestAppendedGood(t *testing.T) {
	own := api.Entry{Term: 3}
	n := leads(t)
	effects(t, "as far as it was", n.Step(answer3(1, 3, 20, true)), tells(1, 5, 2, 2, own))
	effects(t, "all ahead of its own", n.Step(answer3(1, 5, 20, true)), tells(1, 5, 2, 2, own))
	effects(t, "both of them", n.Step(answer3(2, 5, 20, true)), tells(2, 5, 2, 2, own))
	if v := n.View(); v.Commit != 2 || v.Ready {
		t.Errorf("entries of older terms are committed: %+v", v)
	}
	nothing(t, "beyond the last one", n.Step(answer3(2, 7, 20, true)))
	effects(t, "its own", n.Step(answer3(1, 6, 20, true)), tells(1, 6, 3, 6))
	if v := n.View(); v.Commit != 6 || !v.Ready {
		t.Errorf("%+v", v)
	}
	nothing(t, "the same again", n.Step(answer3(1, 6, 20, true)))
	nothing(t, "the second one", n.Step(answer3(2, 6, 20, true)))
	nothing(t, "an older one", n.Step(answer3(2, 1, 20, true)))
	nothing(t, "below 0", n.Step(answer3(2, -1, 20, true)))
	// next rose with the second answer: nothing is left to be told.
	n.Propose("x")
	n.Propose("y")
	x, y := api.Entry{Term: 3, Data: "x"}, api.Entry{Term: 3, Data: "y"}
	effects(t, "one of two", n.Step(answer3(2, 7, 20, true)), tells(2, 7, 3, 7, y))
	if v := n.View(); v.Commit != 7 {
		t.Errorf("%+v", v)
	}
	effects(t, "an old answer of the first one", n.Step(answer3(1, 6, 20, true)), tells(1, 6, 3, 7, x, y))
	effects(t, "all of it", n.Step(answer3(1, 8, 20, true)), tells(1, 8, 3, 8))

}

// P18.6, MsgAppended, MsgSnapped: stamps, terms, roles.
func TestAnswersStamps(t *testing.T) {
	for _, kind := range []uint8{api.MsgAppended, api.MsgSnapped} {
		m := api.Message{Kind: kind, From: 1, Term: 3, Index: 99, Good: true}
		n := leads(t)
		n.Tick()
		for _, c := range []struct{ stamp, heard int }{{20, 20}, {-1, 20}, {22, 20}, {math.MaxInt, 20}, {math.MinInt, 20}, {21, 21}, {0, 21}} {
			m.Stamp = c.stamp
			nothing(t, "an answer", n.Step(m))
			if v := n.View(); v.Heard != [3]int{20, c.heard, 20} {
				t.Errorf("the stamp %d: heard %v", c.stamp, v.Heard)
			}
		}
		m.Stamp = 22
		n.Tick()
		m.Term = 2
		nothing(t, "an older term", n.Step(m))
		if n.View().Heard[1] != 21 {
			t.Error("an answer of an older term was heard")
		}
		m.Term = 4
		effects(t, "a higher term", n.Step(m), api.Effects{Save: true, Ballot: api.Ballot{Term: 4, For: -1}})
		if v := n.View(); v.Role != api.Follower || v.Leader != -1 || v.Heard != [3]int{20, 21, 20} {
			t.Errorf("%+v", v)
		}
		m.Index = 0
		m.Good = false
		nothing(t, "of a follower", n.Step(m))
		c := candidate(t, api.Ballot{Term: 2, For: -1}, api.Mark{}, nil)
		m.Term = 3
		nothing(t, "of a candidate", c.Step(m))
		if c.View().Heard != [3]int{} {
			t.Errorf("%+v", c.View())
		}
	}
}

// P18.6, MsgSnapped: pieces, the whole, and what is not asked for.
func TestSnapped(t *testing.T) {
	n := leads(t)
	snapped := func(at, total int, good bool) api.Message {
		return api.Message{Kind: api.MsgSnapped, From: 1, Term: 3, Index: 2, At: at, Total: total, Good: good, Stamp: 20}
	}
	nothing(t, "its next is above the mark", n.Step(snapped(9, 9, true)))
	n.Step(answer3(1, 0, 20, false))
	effects(t, "a piece", n.Step(snapped(5, 9, true)), tellsSnap(1, 5))
	effects(t, "fewer again", n.Step(snapped(3, 9, false)), tellsSnap(1, 3))
	effects(t, "all, and not Good", n.Step(snapped(9, 9, false)), tellsSnap(1, 9))
	effects(t, "below 0", n.Step(snapped(-4, 9, true)), tellsSnap(1, 0))
	n.Step(snapped(5, 9, true))
	for _, index := range []int{1, 3, 0, -1} {
		m := snapped(9, 9, true)
		m.Index = index
		nothing(t, "another mark", n.Step(m))
	}
	m := snapped(7, 9, true)
	m.From = 2
	nothing(t, "the other node", n.Step(m))
	c := n.Copy()
	l := append(log(1, 2, 2), api.Entry{Term: 3})
	effects(t, "the whole", n.Step(snapped(9, 9, true)), tells(1, 2, 1, 2, l...))
	effects(t, "more than the whole", c.Step(snapped(10, 9, true)), tells(1, 2, 1, 2, l...))
	nothing(t, "the whole again", n.Step(snapped(9, 9, true)))
	effects(t, "its match is the mark", n.Step(answer3(1, 0, 20, false)), tells(1, 2, 1, 2, l...))
}

// To speak: at most 4 entries, and 3500 bytes of data together.
func TestSpeaks(t *testing.T) {
	s := strings.Repeat("x", 3500)
	for _, c := range []struct {
		what    string
		lengths []int
		n       int
	}{
		{"four", []int{0, 0, 0, 0}, 4},
		{"five", []int{0, 0, 0, 0, 0}, 4},
		{"3500 bytes", []int{3500, 0, 0}, 4},
		{"3500 bytes together", []int{1000, 1500, 1000, 1}, 3},
		{"one more", []int{1000, 1500, 1001, 0}, 2},
		{"the first one is too much", []int{3501, 0}, 0},
	} {
		var l []api.Entry
		for _, n := range c.lengths {
			l = append(l, api.Entry{Term: 1, Data: (s + "x")[:n]})
		}
		n := leader(t, api.Ballot{Term: 2, For: -1}, api.Mark{Index: 2, Term: 1}, l)
		fx := n.Step(answer3(1, 2, 20, false))
		all := append(slices.Clone(l), api.Entry{Term: 3})
		effects(t, c.what, fx, tells(1, 2, 1, 2, all[:c.n]...))
	}
}

// P18.7: from the mark's index to commit.
func TestCompact(t *testing.T) {
	n := follows(t)
	n.Step(append3(5, 2, 4))
	for _, i := range []int{1, 5, 6, -1, math.MaxInt, math.MinInt} {
		v := n.View()
		want(t, "Compact", n.Compact(i), api.ErrRange)
		if n.View() != v {
			t.Errorf("Compact(%d) has changed something", i)
		}
	}
	want(t, "Compact(2)", n.Compact(2), api.OK)
	if v := n.View(); v.Snap != (api.Mark{Index: 2, Term: 1}) || v.Last != 5 {
		t.Errorf("Compact(2): %+v", v)
	}
	want(t, "Compact(4)", n.Compact(4), api.OK)
	if v := n.View(); v.Snap != (api.Mark{Index: 4, Term: 2}) || v.Last != 5 || v.Commit != 4 {
		t.Errorf("Compact(4): %+v", v)
	}
	for i := range 7 {
		x, e := n.Entry(i)
		if i == 5 && (x.Data != "c" || e != api.OK) || i != 5 && e != api.ErrNone {
			t.Errorf("Entry(%d): %v, %d", i, x, e)
		}
	}
	want(t, "Compact(2), which is gone", n.Compact(2), api.ErrRange)
}

// P18.7: pieces of an older snapshot are none of a newer one.
func TestCompactPieces(t *testing.T) {
	n := leads(t)
	n.Step(answer3(1, 0, 20, false))
	n.Step(api.Message{Kind: api.MsgSnapped, From: 1, Term: 3, Index: 2, At: 5, Total: 9, Stamp: 20})
	want(t, "Compact(2)", n.Compact(2), api.OK)
	fx := n.Step(answer3(1, 0, 20, false))
	effects(t, "the same mark", fx, tellsSnap(1, 5))
	n.Step(answer3(2, 6, 20, true))
	want(t, "Compact(3)", n.Compact(3), api.OK)
	effects(t, "another mark", n.Step(answer3(1, 0, 20, false)), sends(api.Message{Kind: api.MsgSnap, To: 1, Term: 3, Index: 3, LogTerm: 1, Stamp: 20}))
}

// P18.8: errors in their order, limits, and what is there then.
func TestInstall(t *testing.T) {
	want(t, "a candidate", candidate(t, api.Ballot{For: -1}, api.Mark{}, nil).Install(api.Mark{Index: -1}), api.ErrState)
	for _, m := range []api.Mark{{Index: 3, Term: 2}, {Index: 4, Term: 2}, {Index: 1 << 20, Term: 3}, {Index: 9, Term: 1}} {
		n := follows(t)
		want(t, "Install", n.Install(m), api.OK)
		if v := n.View(); v.Snap != m || v.Last != m.Index || v.Commit != m.Index || v.Role != api.Follower {
			t.Errorf("Install(%v): %+v", m, v)
		}
		_, e := n.Entry(5)
		want(t, "Entry(5)", e, api.ErrNone)
	}
	for _, m := range []api.Mark{{Index: 2, Term: 2}, {Index: 1, Term: 2}, {Index: -1, Term: 2}, {Index: 1<<20 + 1, Term: 2}, {Index: math.MaxInt, Term: 2}, {Index: 4, Term: 0}, {Index: 4, Term: -1}, {Index: 4, Term: 4}} {
		n := follows(t)
		v := n.View()
		want(t, "Install", n.Install(m), api.ErrRange)
		if n.View() != v {
			t.Errorf("Install(%v) has changed something", m)
		}
	}
	n := follows(t)
	n.Step(append3(4, 2, 4))
	want(t, "what is committed", n.Install(api.Mark{Index: 4, Term: 2}), api.ErrRange)
	want(t, "what is not", n.Install(api.Mark{Index: 5, Term: 2}), api.OK)
	n = node(t, 0, api.Ballot{For: -1}, api.Mark{}, nil)
	want(t, "the term 0", n.Install(api.Mark{Index: 1}), api.OK)
}

// P18.9: what one of both cuts and puts is not seen in the other one.
func TestCopyApart(t *testing.T) {
	n := follows(t)
	c := n.Copy()
	if n.View() != c.View() {
		t.Errorf("a copy: %+v, %+v", n.View(), c.View())
	}
	c.Step(append3(3, 1, 5, log(3, 3)...))
	for i, s := range []string{"a", "b", "c"} {
		if x, _ := n.Entry(3 + i); x.Data != s {
			t.Errorf("Entry(%d) of the first one: %v", 3+i, x)
		}
	}
	if x, _ := c.Entry(5); x.Term != 3 || n.View().Commit != 2 || c.View().Commit != 5 {
		t.Errorf("the copy: %+v", c.View())
	}
}
