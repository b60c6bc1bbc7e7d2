package cluster_test

import (
	"math"
	"reflect"
	"strings"
	"testing"

	"dragoman/api"
	"dragoman/cluster"
	"dragoman/message"
	"dragoman/node"
	"dragoman/table"
)

// lines: a text of lines with / for the byte 10.
func lines(s string) string { return strings.ReplaceAll(s, "/", "\n") }

// dialogue is that of chapter 24.
var dialogue = lines(`a:/send "x"/expect {/"ok" goto b/timeout 5 goto b/}/b:/exit 7`)

var (
	round = api.Act{Kind: api.ActRound}
	tick  = api.Act{Kind: api.ActTick, N: 1}
)

func crash(i int) api.Act             { return api.Act{Kind: api.ActCrash, Node: i} }
func boot(i int) api.Act              { return api.Act{Kind: api.ActBoot, Node: i} }
func peer(talk int, s string) api.Act { return api.Act{Kind: api.ActPeer, N: talk, Text: s} }
func link(kind, a, b int) api.Act     { return api.Act{Kind: kind, Node: a, N: b} }
func letter(kind, id int) api.Act     { return api.Act{Kind: kind, N: id} }
func retry(client, to int) api.Act    { return api.Act{Kind: api.ActRetry, Node: client, To: to} }
func submit(client, to int, s string) api.Act {
	return api.Act{Kind: api.ActCall, Node: client, To: to, Op: api.OpSubmit, Text: s}
}
func ask(client, to int, op uint8, talk int) api.Act {
	return api.Act{Kind: api.ActCall, Node: client, To: to, Op: op, Talk: talk}
}

// does: acts that are answered OK.
func does(t *testing.T, w *cluster.World, l ...api.Act) {
	t.Helper()
	for _, a := range l {
		answers(t, w, a, api.OK)
	}
}

func answers(t *testing.T, w *cluster.World, a api.Act, want api.Errno) {
	t.Helper()
	was := w.Acts()
	if e := w.Do(a); e != want {
		t.Fatalf("Do(%+v): %d, want %d", a, e, want)
	}
	if w.Acts() != was+1 {
		t.Fatalf("Do(%+v): %d acts behind %d", a, w.Acts(), was)
	}
}

func rounds(t *testing.T, w *cluster.World, many int) {
	t.Helper()
	for range many {
		does(t, w, round)
	}
}

// led: a world in which node 0 leads the term 1, and is ready.
func led(t *testing.T) *cluster.World {
	t.Helper()
	w := cluster.New()
	rounds(t, w, 30)
	if v := w.Node(0).View(); v.Role != api.Leader || !v.Ready || v.Ballot.Term != 1 {
		t.Fatalf("node 0: %+v", v)
	}
	return w
}

// submitted: one in which the client 0 has submitted a dialogue as talk 1.
func submitted(t *testing.T, s string) *cluster.World {
	t.Helper()
	w := led(t)
	does(t, w, submit(0, 0, s))
	rounds(t, w, 6)
	if l := w.Calls(); len(l) != 1 || l[0].Ended == 0 || l[0].Answer.Talk != 1 {
		t.Fatalf("%+v", l)
	}
	return w
}

// nothing: by an act nothing has changed, but for how many there were.
func nothing(t *testing.T, w *cluster.World, a api.Act, want api.Errno) {
	t.Helper()
	was := seen(w)
	answers(t, w, a, want)
	if now := seen(w); !reflect.DeepEqual(now, was) {
		t.Fatalf("Do(%+v): %+v, and it was %+v", a, now, was)
	}
}

// sight is all that one sees of a world, but for its acts.
type sight struct {
	Views  [4]api.View
	Up     [5]bool
	Tables [3]string
	Done   [3]int
	Taken  []api.Taken
	Said   [10]string
	Calls  []api.Asked
	Flight []api.Letter
	Files  [4][32]string
	Ops    [4]int
	On     [4]bool
}

func seen(w *cluster.World) sight {
	var s sight
	for i := range 3 {
		n := w.Node(i)
		s.Views[i], s.Tables[i], s.Done[i] = n.View(), n.Table().Save(), n.Done()
	}
	for i := range s.Up {
		s.Up[i] = w.Up(i)
	}
	for talk := range s.Said {
		s.Said[talk] = w.Said(talk)
	}
	s.Taken, s.Calls, s.Flight = w.Taken(), w.Calls(), w.Flight()
	for i := range s.Files {
		d := w.Disk(i)
		s.Ops[i], s.On[i] = d.Ops(), d.On()
		for f := range s.Files[i] {
			sure, _ := d.Sure(f)
			d.Power(-1)
			all, _ := d.Read(f)
			s.Files[i][f] = sure + "|" + all
		}
	}
	return s
}

// The chapter's examples.
func TestExamples(t *testing.T) {
	w := led(t)
	does(t, w, submit(0, 0, dialogue))
	rounds(t, w, 6)
	l := w.Calls()
	if len(l) != 1 || l[0].Begun != 31 || l[0].Ended != 35 || l[0].Answer.Talk != 1 || l[0].Answer.Err != api.OK {
		t.Errorf("Calls: %+v", l)
	}
	if x := w.Taken(); len(x) != 1 || x[0] != (api.Taken{Talk: 1, Token: api.Fence{Term: 1, Epoch: 1}, Seq: 1, Text: "x"}) {
		t.Errorf("Taken: %+v", x)
	}
	does(t, w, peer(1, "ok"))
	rounds(t, w, 6)
	if s, e := w.Node(0).Table().Status(1); e != api.OK || s.State != api.TalkEnded || s.Code != 7 {
		t.Errorf("Status: %+v, %d", s, e)
	}
	does(t, w, crash(0))
	answers(t, w, boot(1), api.ErrState)
	does(t, w, boot(0))
	answers(t, w, submit(0, 3, dialogue), api.ErrArg)
}

// R4: of nil, and of what there is not.
func TestNone(t *testing.T) {
	var w *cluster.World
	if e := w.Do(round); e != api.ErrNil {
		t.Errorf("Do: %d", e)
	}
	if w.Node(0) != nil || w.Up(0) || len(w.Taken()) != 0 || w.Said(1) != "" || len(w.Calls()) != 0 || len(w.Flight()) != 0 || w.Acts() != 0 || w.Disk(0) != nil {
		t.Error("something is seen of nil")
	}
	w = cluster.New()
	for _, i := range []int{-1, 3, 4, 9, math.MaxInt, math.MinInt} {
		if w.Node(i) != nil || w.Up(i) != (i == 3) || (w.Disk(i) != nil) != (i == 3) {
			t.Errorf("machine %d: %v, %v", i, w.Node(i), w.Up(i))
		}
	}
	for _, talk := range []int{-1, 0, 1, 8, 9, math.MaxInt, math.MinInt} {
		if w.Said(talk) != "" {
			t.Errorf("Said(%d): %q", talk, w.Said(talk))
		}
	}
}

// P27.1: a new world.
func TestNew(t *testing.T) {
	w := cluster.New()
	for i := range 4 {
		if !w.Up(i) || len(w.Disk(i).Files()) != 0 || !w.Disk(i).On() {
			t.Errorf("machine %d", i)
		}
	}
	for i := range 3 {
		if v := w.Node(i).View(); v.Role != api.Follower || v.Ballot != (api.Ballot{For: -1}) || v.Now != 0 {
			t.Errorf("node %d: %+v", i, v)
		}
	}
	if len(w.Taken()) != 0 || len(w.Calls()) != 0 || len(w.Flight()) != 0 || w.Acts() != 0 {
		t.Error("something was done")
	}
}

// P27.2: acts of no kind, and with a machine, a node, a client or a talk that there is not.
func TestWrongActs(t *testing.T) {
	w := submitted(t, dialogue)
	for _, kind := range []int{0, -1, 16, 99, math.MaxInt, math.MinInt} {
		nothing(t, w, api.Act{Kind: kind}, api.ErrArg)
	}
	far := []int{-1, 4, math.MaxInt, math.MinInt}
	for _, i := range append(far, 3) {
		nothing(t, w, api.Act{Kind: api.ActRate, Node: i, N: 1000}, api.ErrArg)
		nothing(t, w, api.Act{Kind: api.ActDraw, Node: i}, api.ErrArg)
		nothing(t, w, submit(0, i, dialogue), api.ErrArg)
		nothing(t, w, retry(0, i), api.ErrArg)
	}
	for _, i := range far {
		nothing(t, w, api.Act{Kind: api.ActPower, Node: i}, api.ErrArg)
		nothing(t, w, crash(i), api.ErrArg)
		nothing(t, w, boot(i), api.ErrArg)
	}
	for _, client := range []int{-1, 8, math.MaxInt, math.MinInt} {
		nothing(t, w, submit(client, 0, dialogue), api.ErrArg)
		nothing(t, w, retry(client, 0), api.ErrArg)
	}
	for op := range 256 {
		if op != 1 && op != 2 && op != 6 && op != 7 {
			nothing(t, w, ask(0, 0, uint8(op), 1), api.ErrArg)
		}
	}
	// A call that makes no message.
	nothing(t, w, ask(0, 0, api.OpStatus, -1), api.ErrArg)
	nothing(t, w, ask(0, 0, api.OpStatus, 1<<50+1), api.ErrArg)
	nothing(t, w, api.Act{Kind: api.ActCall, Op: api.OpWatch, At: -1}, api.ErrArg)
	nothing(t, w, submit(0, 0, strings.Repeat("x", 3501)), api.ErrArg)
	for _, talk := range []int{0, -1, 9, math.MaxInt, math.MinInt} {
		nothing(t, w, peer(talk, "x"), api.ErrArg)
		nothing(t, w, peer(talk, strings.Repeat("x", 1025)), api.ErrArg)
	}
	nothing(t, w, peer(1, strings.Repeat("x", 1025)), api.ErrLong)
	for _, n := range []int{-1, 1001, math.MaxInt, math.MinInt} {
		nothing(t, w, api.Act{Kind: api.ActTick, N: n}, api.ErrArg)
	}
	nothing(t, w, api.Act{Kind: api.ActTick}, api.OK)
	for _, kind := range []int{api.ActCut, api.ActHeal} {
		for _, x := range [][2]int{{1, 1}, {-1, 0}, {0, 16}, {math.MinInt, math.MaxInt}} {
			nothing(t, w, link(kind, x[0], x[1]), api.ErrArg)
		}
	}
	for _, kind := range []int{api.ActDeliver, api.ActDrop, api.ActTwice} {
		for _, id := range []int{0, -1, 1, math.MaxInt} {
			nothing(t, w, letter(kind, id), api.ErrNone)
		}
	}
	for _, rate := range []int{499, 2001, -1, math.MaxInt} {
		nothing(t, w, api.Act{Kind: api.ActRate, N: rate}, api.ErrRange)
	}
	for _, n := range []int{-1, 20, math.MaxInt} {
		nothing(t, w, api.Act{Kind: api.ActDraw, N: n}, api.ErrArg)
	}
	does(t, w, crash(0))
	nothing(t, w, api.Act{Kind: api.ActDraw, N: -1}, api.ErrOff)
	nothing(t, w, api.Act{Kind: api.ActDraw, N: 1}, api.ErrOff)
	does(t, w, api.Act{Kind: api.ActRate, N: 900})
	nothing(t, w, retry(0, 0), api.ErrState) // its call has ended
	nothing(t, w, retry(1, 0), api.ErrState) // it has none
}

// P27.2, ActTick: so many ticks as the clock shows more, also while a node is down.
func TestTick(t *testing.T) {
	w := cluster.New()
	for i, rate := range []int{500, 1000, 2000} {
		does(t, w, api.Act{Kind: api.ActRate, Node: i, N: rate}, api.Act{Kind: api.ActDraw, Node: i, N: 19})
	}
	now := func(i int) int { return w.Node(i).View().Now }
	for ticks := 1; ticks <= 15; ticks++ {
		does(t, w, tick)
		if now(0) != ticks/2 || now(1) != ticks || now(2) != 2*ticks {
			t.Errorf("behind %d ticks: %d %d %d", ticks, now(0), now(1), now(2))
		}
	}
	does(t, w, crash(0), tick, boot(0), tick, tick)
	// Its clock has gone 8 at the crash's tick, and 9 behind the next two.
	if now(0) != 1 {
		t.Errorf("behind a crash: %d", now(0))
	}
	w = cluster.New()
	does(t, w, api.Act{Kind: api.ActTick, N: 1000})
	if now(0) != 1000 {
		t.Errorf("behind 1000 ticks: %d", now(0))
	}
	if len(w.Flight()) == 0 {
		t.Error("nobody has said anything")
	}
}

// P27.2, ActTick: node by node, rising, tick by tick.
func TestTickOrder(t *testing.T) {
	w := cluster.New()
	for i := range 3 {
		does(t, w, api.Act{Kind: api.ActDraw, Node: i})
	}
	does(t, w, api.Act{Kind: api.ActTick, N: 19}, api.Act{Kind: api.ActRate, Node: 1, N: 2000})
	if len(w.Flight()) != 0 {
		t.Error("somebody asks too early")
	}
	does(t, w, tick)
	want := [][2]int{{0, 1}, {0, 2}, {1, 0}, {1, 2}, {2, 0}, {2, 1}}
	l := w.Flight()
	if len(l) != len(want) {
		t.Fatalf("%d letters", len(l))
	}
	for i, x := range l {
		if x.From != want[i][0] || x.To != want[i][1] || x.Id != i+1 {
			t.Errorf("the letter %d: %+v", i, x)
		}
	}
	if w.Node(1).View().Now != 21 {
		t.Errorf("Now %d", w.Node(1).View().Now)
	}
}

// P27.2, letters: delivered, dropped, doubled; over links that are cut none is sent.
func TestLetters(t *testing.T) {
	w := cluster.New()
	does(t, w, api.Act{Kind: api.ActTick, N: 20}) // node 0 asks for votes: the letters 1 and 2
	does(t, w, letter(api.ActTwice, 1), letter(api.ActDrop, 1), letter(api.ActDrop, 2))
	answers(t, w, letter(api.ActDeliver, 1), api.ErrNone)
	if l := w.Flight(); len(l) != 1 || l[0].Id != 3 || l[0].To != 1 {
		t.Fatalf("Flight: %+v", l)
	}
	does(t, w, link(api.ActCut, 1, 0), letter(api.ActTwice, 3), letter(api.ActDeliver, 3))
	// What was in flight comes, and the vote is lost.
	if v := w.Node(1).View(); v.Ballot != (api.Ballot{Term: 1, For: 0}) || len(w.Flight()) != 1 {
		t.Errorf("%+v, %+v", v, w.Flight())
	}
	does(t, w, link(api.ActHeal, 0, 1), letter(api.ActDeliver, 4))
	l := w.Flight()
	if len(l) != 1 || l[0].Id != 5 || l[0].From != 1 || l[0].To != 0 {
		t.Fatalf("Flight: %+v", l)
	}
	m, fault := message.Decode(l[0].Bytes)
	if fault.Err != api.OK || m.Kind != api.MsgVoted || !m.Good {
		t.Errorf("the letter 5: %+v", m)
	}
	does(t, w, letter(api.ActDeliver, 5))
	if w.Node(0).View().Role != api.Leader {
		t.Error("node 0 does not lead")
	}
}

// P27.2, letters: what comes to one that is down is lost.
func TestLettersDown(t *testing.T) {
	w := cluster.New()
	does(t, w, api.Act{Kind: api.ActTick, N: 20}, crash(1), letter(api.ActDeliver, 1), boot(1))
	if v := w.Node(1).View(); v.Ballot.Term != 0 || len(w.Flight()) != 1 {
		t.Errorf("%+v", v)
	}
	// What a node that falls said ahead of it stays in flight.
	does(t, w, crash(0), letter(api.ActDeliver, 2))
	if l := w.Flight(); len(l) != 1 || l[0].From != 2 {
		t.Errorf("Flight: %+v", l)
	}
	w = led(t)
	does(t, w, submit(0, 0, dialogue))
	rounds(t, w, 3)
	does(t, w, crash(3))
	if w.Up(3) || len(w.Taken()) != 0 {
		t.Error("the gateway is up")
	}
	rounds(t, w, 10)
	does(t, w, boot(3))
	rounds(t, w, 10)
	if len(w.Taken()) != 1 {
		t.Errorf("Taken: %+v", w.Taken())
	}
}

// P27.2, ActRound: a tick, and then the letters that are in flight then, no others.
func TestRound(t *testing.T) {
	w := cluster.New()
	rounds(t, w, 19)
	does(t, w, round) // node 0 asks, and both are asked
	l := w.Flight()
	if len(l) != 2 || l[0].To != 0 || l[1].To != 0 || l[0].From != 1 {
		t.Errorf("Flight: %+v", l)
	}
	does(t, w, round) // both have voted, and it leads; it has spoken twice by then, once to each
	if v := w.Node(0).View(); v.Role != api.Leader || v.Now != 21 {
		t.Errorf("%+v", v)
	}
	for _, x := range w.Flight() {
		if x.From != 0 {
			t.Errorf("in flight: %+v", x)
		}
	}
}

// P27.2, ActPower: a node whose disk goes off is down when it answers an error; ActCrash gives it power again.
func TestPower(t *testing.T) {
	for n := -1; n < 3; n++ {
		w := cluster.New()
		does(t, w, api.Act{Kind: api.ActPower, Node: 0, N: n})
		rounds(t, w, 19)
		if !w.Up(0) {
			t.Error("down too early")
		}
		does(t, w, tick)
		if w.Up(0) != (n == 2) || (w.Node(0) != nil) != (n == 2) {
			t.Errorf("power %d: up %v", n, w.Up(0))
		}
		if n < 2 {
			answers(t, w, boot(0), api.ErrOff)
			if w.Up(0) || len(w.Flight()) != 0 {
				t.Error("it is up, or has said something")
			}
			does(t, w, crash(0), boot(0))
		} else {
			answers(t, w, boot(0), api.ErrState)
		}
	}
}

// P27.2, ActCrash: what was loose is lost, but for what is kept.
func TestCrash(t *testing.T) {
	for _, keep := range []bool{true, false} {
		w := cluster.New()
		does(t, w, api.Act{Kind: api.ActPower, Node: 0, N: 1}, api.Act{Kind: api.ActTick, N: 20})
		a := crash(0)
		if keep {
			a.Keep = []int{1}
		}
		does(t, w, a, boot(0))
		if got := w.Node(0).View().Ballot.Term; (got == 1) != keep {
			t.Errorf("keep %v: the term %d", keep, got)
		}
		w = cluster.New()
		does(t, w, api.Act{Kind: api.ActPower, Node: 0, N: 1}, api.Act{Kind: api.ActTick, N: 20}, api.Act{Kind: api.ActCrash, Node: 0, N: 5})
		if s, ok := w.Disk(0).Sure(0); !ok || len(s) != 5 {
			t.Errorf("torn: %q", s)
		}
	}
	// A machine that is down may crash again.
	w := cluster.New()
	does(t, w, crash(3), crash(3), crash(1), crash(1), boot(3), boot(1))
	answers(t, w, boot(3), api.ErrState)
}

// P27.2, the gateway: with an error of its disk it is down, and has the send when it is opened again, or has not.
func TestGateway(t *testing.T) {
	for n := range 3 {
		for keep := range 2 {
			w := led(t)
			does(t, w, api.Act{Kind: api.ActPower, Node: 3, N: n}, submit(0, 0, dialogue))
			rounds(t, w, 12)
			if w.Up(3) != (n == 2) {
				t.Errorf("power %d: up %v", n, w.Up(3))
			}
			if n == 2 {
				continue
			}
			answers(t, w, boot(3), api.ErrOff)
			does(t, w, api.Act{Kind: api.ActCrash, Node: 3, Keep: []int{keep}}, boot(3))
			if got := len(w.Taken()); got != keep*n {
				t.Errorf("power %d, kept %d: %d sends", n, keep, got)
			}
			rounds(t, w, 12)
			if l := w.Taken(); len(l) != 1 || l[0].Text != "x" {
				t.Errorf("Taken: %+v", l)
			}
		}
	}
}

// P27.2, ActPeer: what a terminal says, up to its limit; the gateway hands it out.
func TestPeer(t *testing.T) {
	w := submitted(t, lines(`a:/expect {/"end" goto b/}/b:/exit 3`))
	long := strings.Repeat("x", 1024)
	for talk := 1; talk <= 8; talk++ {
		does(t, w, peer(talk, long), peer(talk, ""), peer(talk, "!"))
		if w.Said(talk) != long+"!" {
			t.Errorf("Said(%d): %d bytes", talk, len(w.Said(talk)))
		}
	}
	does(t, w, peer(1, "the end"))
	rounds(t, w, 60)
	s, e := w.Node(0).Table().Status(1)
	// Of what it said the first bytes were lost ahead of their being asked for.
	if e != api.OK || s.State != api.TalkEnded || s.Code != 3 || s.Got != len(w.Said(1)) {
		t.Errorf("Status: %+v", s)
	}
}

// P27.2, ActCall, ActRetry: numbers of requests, and what ends a call.
func TestCalls(t *testing.T) {
	w := led(t)
	does(t, w, ask(3, 1, api.OpStatus, 1), ask(4, 1, api.OpWatch, 7), ask(3, 0, api.OpCancel, 5))
	l := w.Calls()
	want := []api.Message{
		{Kind: api.MsgCall, From: 11, To: 1, Client: 3, Request: 1, Op: api.OpStatus, Talk: 1},
		{Kind: api.MsgCall, From: 12, To: 1, Client: 4, Request: 1, Op: api.OpWatch, Talk: 7},
		{Kind: api.MsgCall, From: 11, To: 0, Client: 3, Request: 2, Op: api.OpCancel, Talk: 5},
	}
	for i, m := range want {
		if !reflect.DeepEqual(l[i], api.Asked{Call: m, Begun: 31 + i}) {
			t.Errorf("the call %d: %+v", i, l[i])
		}
	}
	rounds(t, w, 6)
	l = w.Calls()
	// The first one was only told who leads; the second one was answered by a follower.
	if l[0].Ended != 0 || !reflect.DeepEqual(l[0].Answer, api.Message{}) {
		t.Errorf("the status: %+v", l[0])
	}
	answer := api.Message{Kind: api.MsgAnswer, From: 1, To: 12, Client: 4, Request: 1, Op: api.OpWatch, Talk: 7, Err: api.ErrNone, Index: 1, Leader: 1, Data: node.HappenText(nil)}
	if !reflect.DeepEqual(l[1].Answer, answer) || l[1].Ended != 35 {
		t.Errorf("the watch: %+v", l[1])
	}
	if l[2].Ended == 0 || l[2].Answer.Err != api.ErrNone || l[2].Answer.Request != 2 {
		t.Errorf("the cancel: %+v", l[2])
	}
	// Only the newest call is sent once more.
	answers(t, w, retry(3, 0), api.ErrState)
	does(t, w, ask(4, 1, api.OpStatus, 7))
	rounds(t, w, 3)
	does(t, w, retry(4, 0))
	rounds(t, w, 3)
	l = w.Calls()
	if l[3].Ended == 0 || l[3].Call.To != 1 || l[3].Answer.From != 0 {
		t.Errorf("the status: %+v", l[3])
	}
	answers(t, w, retry(4, 1), api.ErrState)
}

// P27.2: a call ends once; answers that say to ask again do not end it, nor those that come to another one.
func TestAnswers(t *testing.T) {
	w := submitted(t, dialogue)
	was := w.Calls()[0]
	// A cut link to the client: the answer is lost, and then it is asked again.
	does(t, w, link(api.ActCut, 0, 9), submit(1, 0, dialogue))
	rounds(t, w, 6)
	if w.Calls()[1].Ended != 0 {
		t.Error("it has ended")
	}
	does(t, w, link(api.ActHeal, 0, 9), retry(1, 0))
	does(t, w, retry(1, 0))
	rounds(t, w, 1)
	rounds(t, w, 6)
	l := w.Calls()
	if l[1].Ended == 0 || l[1].Answer.Talk != 2 || w.Node(0).Table().Len() != 2 {
		t.Errorf("%+v", l[1])
	}
	if !reflect.DeepEqual(l[0], was) {
		t.Errorf("the first call: %+v", l[0])
	}
	ended := l[1].Ended
	rounds(t, w, 10)
	if w.Calls()[1].Ended != ended {
		t.Error("it has ended twice")
	}
}

// P27.2: as many letters as may be in flight; what is more is lost.
func TestFull(t *testing.T) {
	w := led(t)
	for range 300 {
		does(t, w, ask(0, 1, api.OpWatch, 1))
	}
	if n := len(w.Flight()); n != 256 {
		t.Errorf("%d in flight", n)
	}
	answers(t, w, letter(api.ActTwice, w.Flight()[0].Id), api.ErrFull)
	if n := len(w.Calls()); n != 300 {
		t.Errorf("%d calls", n)
	}
}

// P27.4, R3: what is seen is new memory, or a copy.
func TestSeenCopies(t *testing.T) {
	w := submitted(t, dialogue)
	does(t, w, ask(0, 0, api.OpStatus, 1))
	was := seen(w)
	w.Calls()[0].Ended = 99
	w.Flight()[0].Id = 99
	w.Taken()[0].Text = "y"
	d := w.Disk(0)
	d.Append(0, "torn")
	d.Power(0)
	s, _ := table.Encode(api.Command{Op: api.OpCancel, Client: 5, Request: 1, Talk: 1})
	w.Node(0).Table().Apply(s)
	if !reflect.DeepEqual(seen(w), was) {
		t.Error("it has changed")
	}
	keep := []int{1, 2}
	does(t, w, api.Act{Kind: api.ActCrash, Node: 2, Keep: keep})
	if keep[0] != 1 || keep[1] != 2 {
		t.Error("Keep has changed")
	}
}

// to: the newest letter in flight to an address.
func to(t *testing.T, w *cluster.World, address int) int {
	t.Helper()
	id := 0
	for _, x := range w.Flight() {
		if x.To == address {
			id = x.Id
		}
	}
	if id == 0 {
		t.Fatalf("no letter to %d in flight", address)
	}
	return id
}

// open: the newest call has not ended, though it was answered with that error.
func open(t *testing.T, w *cluster.World, client int, want api.Errno) {
	t.Helper()
	id := to(t, w, api.ClientAddress+client)
	for _, x := range w.Flight() {
		if m, _ := message.Decode(x.Bytes); x.Id == id && m.Err != want {
			t.Fatalf("answered with %d, want %d", m.Err, want)
		}
	}
	was := w.Calls()
	does(t, w, letter(api.ActDeliver, id))
	if !reflect.DeepEqual(w.Calls(), was) {
		t.Fatalf("the error %d has ended a call", want)
	}
}

// comes: a call is asked, and its letter comes at once.
func comes(t *testing.T, w *cluster.World, a api.Act) {
	t.Helper()
	does(t, w, a)
	does(t, w, letter(api.ActDeliver, to(t, w, a.To)))
}

// P27.2: each of the errors that only say to ask again.
func TestAskAgain(t *testing.T) {
	// ErrNotLeader: of a follower.
	w := led(t)
	comes(t, w, ask(0, 1, api.OpCancel, 1))
	open(t, w, 0, api.ErrNotLeader)
	// ErrOld: the second request was done ahead of the first one.
	w = led(t)
	does(t, w, ask(0, 0, api.OpCancel, 1))
	first := to(t, w, 0)
	comes(t, w, ask(0, 0, api.OpCancel, 1))
	rest := w.Flight()
	for _, x := range rest {
		if x.Id != first {
			does(t, w, letter(api.ActDeliver, x.Id))
		}
	}
	does(t, w, letter(api.ActDeliver, first))
	for range 20 {
		for _, x := range w.Flight() {
			if m, _ := message.Decode(x.Bytes); m.Kind != api.MsgAnswer || m.Request == 2 {
				does(t, w, letter(api.ActDeliver, x.Id))
			}
		}
	}
	open(t, w, 0, api.ErrOld)
	if l := w.Calls(); l[0].Ended != 0 || l[1].Ended == 0 {
		t.Errorf("%+v", l)
	}
	// ErrLease: of a leader that was not heard of for long.
	w = led(t)
	does(t, w, api.Act{Kind: api.ActTick, N: 15})
	comes(t, w, ask(0, 0, api.OpStatus, 1))
	open(t, w, 0, api.ErrLease)
	// ErrBusy: of one that has as much open as may be.
	w = led(t)
	for range 65 {
		comes(t, w, ask(0, 0, api.OpCancel, 1))
		for _, x := range w.Flight() {
			if x.To < 3 {
				does(t, w, letter(api.ActDrop, x.Id))
			}
		}
	}
	open(t, w, 0, api.ErrBusy)
}

// P27.2: a call that has ended stays as it did, though its answer comes once more.
func TestAnsweredTwice(t *testing.T) {
	w := led(t)
	comes(t, w, ask(0, 1, api.OpWatch, 1))
	does(t, w, letter(api.ActTwice, to(t, w, 8)))
	does(t, w, letter(api.ActDeliver, to(t, w, 8)))
	was := w.Calls()
	if was[0].Ended != w.Acts() || was[0].Answer.Err != api.ErrNone {
		t.Errorf("%+v", was[0])
	}
	does(t, w, letter(api.ActDeliver, to(t, w, 8)))
	if !reflect.DeepEqual(w.Calls(), was) {
		t.Errorf("%+v", w.Calls()[0])
	}
}
