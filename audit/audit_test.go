package audit_test

import (
	"math"
	"slices"
	"strings"
	"testing"

	"dragoman/api"
	"dragoman/audit"
	"dragoman/node"
	"dragoman/table"
)

// lines: a text of lines with / for the byte 10.
func lines(s string) string { return strings.ReplaceAll(s, "/", "\n") }

// dialogue is that of chapter 24.
var dialogue = lines(`a:/send "x"/expect {/"ok" goto b/timeout 5 goto b/}/b:/exit 7`)

// log: a log of commands, each an entry of the term 1.
func log(t *testing.T, l ...api.Command) []api.Entry {
	t.Helper()
	var out []api.Entry
	for _, c := range l {
		s, e := table.Encode(c)
		if e != api.OK {
			t.Fatalf("Encode(%+v): %d", c, e)
		}
		out = append(out, api.Entry{Term: 1, Data: s})
	}
	return out
}

func submit(client, request int, text string) api.Command {
	return api.Command{Op: api.OpSubmit, Client: client, Request: request, Data: text}
}

func cancel(client, request, talk int) api.Command {
	return api.Command{Op: api.OpCancel, Client: client, Request: request, Talk: talk}
}

func output(talk, at int, s string) api.Command {
	return api.Command{Op: api.OpOutput, Talk: talk, At: at, Data: s}
}

func taken(talk, term, epoch, seq int, s string) api.Taken {
	return api.Taken{Talk: talk, Token: api.Fence{Term: term, Epoch: epoch}, Seq: seq, Text: s}
}

// asked: a call that ended, or, by 0, has not.
func asked(c api.Command, begun, ended int, a api.Message) api.Asked {
	return api.Asked{Call: api.Message{Kind: api.MsgCall, Client: c.Client, Request: c.Request, Op: c.Op, Talk: c.Talk, At: c.At, Data: c.Data}, Begun: begun, Ended: ended, Answer: a}
}

// status: a call of the client 5 that was answered with what so many entries of a log come to.
func status(log []api.Entry, talk, index, begun, ended int) api.Asked {
	s, e := audit.Replay(log[:index]).Status(talk)
	c := api.Command{Op: api.OpStatus, Client: 5, Request: begun, Talk: talk}
	return asked(c, begun, ended, api.Message{Err: e, Index: index, Data: node.StatusText(s)})
}

func watch(log []api.Entry, talk, at, index, begun, ended int) api.Asked {
	l, e := audit.Replay(log[:index]).Watch(talk, at, 8)
	c := api.Command{Op: api.OpWatch, Client: 6, Request: begun, Talk: talk, At: at}
	return asked(c, begun, ended, api.Message{Err: e, Index: index, Data: node.HappenText(l)})
}

// finds: what was found, and where; with OK nothing.
func finds(t *testing.T, what string, at int, e api.Errno, wantAt int, want api.Errno) {
	t.Helper()
	if want == api.OK {
		wantAt = -1
	}
	if at != wantAt || e != want {
		t.Errorf("%s: %d, %d; want %d, %d", what, at, e, wantAt, want)
	}
}

func fences(t *testing.T, what string, wantAt int, want api.Errno, l ...api.Taken) {
	t.Helper()
	at, e := audit.Fences(l)
	finds(t, what, at, e, wantAt, want)
}

func linear(t *testing.T, what string, log []api.Entry, wantAt int, want api.Errno, l ...api.Asked) {
	t.Helper()
	at, e := audit.Linear(log, l)
	finds(t, what, at, e, wantAt, want)
}

// The chapter's examples.
func TestExamples(t *testing.T) {
	fences(t, "a lower token", 2, api.ErrToken, taken(1, 2, 1, 1, ""), taken(1, 2, 1, 2, ""), taken(1, 1, 9, 3, ""))
	fences(t, "a gap", 1, api.ErrNumber, taken(1, 1, 1, 1, ""), taken(1, 1, 1, 3, ""))
	l := log(t, submit(1, 1, dialogue))
	for _, c := range []struct {
		x api.Taken
		e api.Errno
	}{{taken(1, 1, 1, 1, "x"), api.OK}, {taken(1, 1, 1, 1, "y"), api.ErrMeant}, {taken(1, 1, 1, 2, "x"), api.ErrMeant}} {
		at, e := audit.Meant(audit.Replay(l), []api.Taken{c.x})
		finds(t, "Meant", at, e, 0, c.e)
	}
	at, e := audit.Heard(log(t, output(1, 1, "k")), map[int]string{1: "ok"})
	finds(t, "what was said", at, e, 0, api.OK)
	at, e = audit.Heard(log(t, output(1, 2, "k")), map[int]string{1: "ok"})
	finds(t, "At 2", at, e, 0, api.ErrSaid)
	at, e = audit.Heard(log(t, output(1, 1, "k")), nil)
	finds(t, "said nothing", at, e, 0, api.ErrSaid)
	first := asked(submit(1, 1, dialogue), 1, 4, api.Message{Talk: 1})
	linear(t, "Talk 1", l, 0, api.OK, first)
	linear(t, "Talk 2", l, 0, api.ErrAnswer, asked(submit(1, 1, dialogue), 1, 4, api.Message{Talk: 2}))
	linear(t, "a status behind it", l, 1, api.ErrTime, first, status(l, 1, 0, 5, 6))
}

// Of nothing there is nothing wrong.
func TestNothing(t *testing.T) {
	if x := audit.Replay(nil); x == nil || x.Save() != table.New().Save() {
		t.Error("Replay of nothing is not a new table")
	}
	fences(t, "Fences", 0, api.OK)
	at, e := audit.Meant(nil, nil)
	finds(t, "Meant", at, e, 0, api.OK)
	at, e = audit.Meant(nil, []api.Taken{taken(1, 1, 1, 1, "x")})
	finds(t, "Meant of no table", at, e, 0, api.ErrMeant)
	at, e = audit.Heard(nil, nil)
	finds(t, "Heard", at, e, 0, api.OK)
	linear(t, "Linear", nil, 0, api.OK)
}

// P28.1: all entries in order, those that are no commands, too.
func TestReplay(t *testing.T) {
	l := log(t, submit(1, 1, dialogue), output(1, 0, "no"), cancel(1, 2, 9), output(1, 2, "ok"), submit(1, 1, "again"))
	l = slices.Insert(l, 2, api.Entry{Term: 1}, api.Entry{Term: 1, Data: "no command"})
	x := table.New()
	for _, y := range l {
		x.Apply(y.Data)
	}
	got := audit.Replay(l)
	if got.Save() != x.Save() {
		t.Error("another table")
	}
	if s, e := got.Status(1); e != api.OK || s.State != api.TalkEnded || got.Last(1).Err != api.ErrNone {
		t.Errorf("%+v", s)
	}
}

// P28.2: talks are apart; a token goes ahead of a number.
func TestFences(t *testing.T) {
	fences(t, "right", 0, api.OK, taken(1, 2, 1, 1, ""), taken(2, 1, 1, 1, ""), taken(1, 2, 1, 2, ""), taken(2, 1, 2, 2, ""), taken(1, 2, 2, 3, ""), taken(1, 3, 1, 4, ""), taken(2, 1, 2, 3, ""))
	for _, seq := range []int{0, -1, 2, math.MaxInt, math.MinInt} {
		fences(t, "the first number", 0, api.ErrNumber, taken(1, 1, 1, seq, ""))
		fences(t, "the first number of another talk", 1, api.ErrNumber, taken(2, 9, 9, 1, ""), taken(1, 1, 1, seq, ""))
	}
	for _, seq := range []int{0, 1, 2, 4, math.MaxInt, math.MinInt} {
		fences(t, "the third number", 3, api.ErrNumber, taken(1, 1, 1, 1, ""), taken(1, 1, 1, 2, ""), taken(2, 1, 1, 1, ""), taken(1, 1, 1, seq, ""))
		fences(t, "and a lower token", 3, api.ErrToken, taken(1, 1, 2, 1, ""), taken(1, 1, 2, 2, ""), taken(2, 1, 1, 1, ""), taken(1, 1, 1, seq, ""))
	}
	fences(t, "below the last one, not the first one", 2, api.ErrToken, taken(1, 1, 1, 1, ""), taken(1, 5, 1, 2, ""), taken(1, 4, 9, 3, ""))
	// The first send of a talk has none ahead of it, whatever its token.
	fences(t, "a first token below 0", 0, api.OK, taken(1, -1, -1, 1, ""))
}

// P28.3: each send is one that its talk means, by its number.
func TestMeant(t *testing.T) {
	x := audit.Replay(log(t, submit(1, 1, lines(`a:/send "1"/send "2"/send "3"/exit 0`)), submit(1, 2, lines(`a:/send "1"/exit 0`))))
	all := []api.Taken{taken(1, 1, 1, 1, "1"), taken(2, 1, 1, 1, "1"), taken(1, 9, 1, 3, "3"), taken(1, 1, 1, 2, "2")}
	at, e := audit.Meant(x, all)
	finds(t, "right", at, e, 0, api.OK)
	for _, y := range []api.Taken{taken(1, 1, 1, 0, "1"), taken(1, 1, 1, -1, "1"), taken(1, 1, 1, 4, "3"), taken(1, 1, 1, math.MaxInt, "3"), taken(1, 1, 1, math.MinInt, "3"), taken(1, 1, 1, 1, "2"), taken(1, 1, 1, 1, ""), taken(1, 1, 1, 1, "12"), taken(2, 1, 1, 2, "2"), taken(3, 1, 1, 1, "1"), taken(0, 1, 1, 1, "1"), taken(-1, 1, 1, 1, "1")} {
		at, e := audit.Meant(x, append(all[:4:4], y, y))
		finds(t, "not meant", at, e, 4, api.ErrMeant)
	}
}

// P28.4: output stands where a terminal said it; other commands are not asked.
func TestHeard(t *testing.T) {
	said := map[int]string{1: "hello", 2: ""}
	check := func(what string, wrong bool, c api.Command) {
		t.Helper()
		l := append([]api.Entry{{Term: 1}, {Term: 1, Data: "x"}}, log(t, output(1, 0, "hello"), cancel(1, 1, 9), c, output(9, 9, "x"))...)
		at, e := audit.Heard(l, said)
		if wrong {
			finds(t, what, at, e, 4, api.ErrSaid)
		} else {
			finds(t, what, at, e, 5, api.ErrSaid)
		}
	}
	check("all", false, output(1, 0, "hello"))
	check("a beginning", false, output(1, 0, "he"))
	check("an end", false, output(1, 4, "o"))
	check("nothing", false, output(1, 2, ""))
	check("nothing at the end", false, output(1, 5, ""))
	check("nothing behind the end", true, output(1, 6, ""))
	check("nothing far behind it", true, output(1, 1<<49, ""))
	check("more than the end", true, output(1, 4, "ox"))
	check("another text", true, output(1, 1, "x"))
	check("another place", true, output(1, 1, "h"))
	check("nothing of a silent one", false, output(2, 0, ""))
	check("something of a silent one", true, output(2, 0, "h"))
	check("nothing of none", false, output(3, 0, ""))
	check("nothing of none, behind", true, output(3, 1, ""))
	check("something of none", true, output(3, 0, "h"))
	check("of a talk that there can't be", false, output(0, 0, ""))
	check("a submit of other bytes", false, submit(1, 7, "never said"))
	check("a timeout", false, api.Command{Op: api.OpTimeout, Talk: 3, At: 9, Data: "never said"})
	check("an ack", false, api.Command{Op: api.OpAck, Talk: 3, At: 9, Data: "never said"})
}

// P28.5: what is answered to a submit and a cancel.
func TestAnswers(t *testing.T) {
	l := log(t, submit(1, 5, dialogue), submit(1, 5, dialogue), cancel(1, 6, 1), submit(1, 5, dialogue), cancel(2, 1, 7), submit(2, 2, "?"), cancel(1, 3, 1))
	// Neither an entry without a command nor one that no client asked is a place, whatever numbers it has.
	l = append(log(t, api.Command{Op: api.OpTimeout, Client: 1, Request: 5, Talk: 1}), l...)
	l = append([]api.Entry{{Term: 1}}, l...)
	for name, c := range map[string]struct {
		right bool
		c     api.Command
		a     api.Message
	}{
		"the talk":             {true, submit(1, 5, dialogue), api.Message{Talk: 1}},
		"all else is not held": {true, submit(1, 5, "other"), api.Message{Talk: 1, Index: 99, Data: "x"}},
		"another talk":         {false, submit(1, 5, dialogue), api.Message{Talk: 2}},
		"an error":             {false, submit(1, 5, dialogue), api.Message{Talk: 1, Err: api.ErrFull}},
		"another At":           {false, submit(1, 5, dialogue), api.Message{Talk: 1, At: 1}},
		"a cancel":             {true, cancel(1, 6, 1), api.Message{Talk: 1}},
		"by its number":        {true, submit(1, 6, ""), api.Message{Talk: 1}},
		"of no talk":           {true, cancel(2, 1, 7), api.Message{Err: api.ErrNone}},
		"of no talk, with it":  {false, cancel(2, 1, 7), api.Message{Err: api.ErrNone, Talk: 7}},
		"no dialogue":          {true, submit(2, 2, "?"), api.Message{Err: api.ErrText}},
		"an old one":           {true, cancel(1, 3, 1), api.Message{Err: api.ErrOld}},
		"too long":             {true, submit(3, 1, "?"), api.Message{Err: api.ErrLong, Talk: 9}},
		"what may not be":      {true, cancel(3, 1, 1), api.Message{Err: api.ErrArg}},
		"never in the log":     {false, cancel(3, 1, 1), api.Message{Talk: 1}},
		"busy":                 {false, cancel(3, 1, 1), api.Message{Err: api.ErrBusy}},
		"too long, but there":  {false, submit(1, 5, dialogue), api.Message{Err: api.ErrLong}},
		"another request":      {false, submit(1, 4, dialogue), api.Message{Talk: 1}},
		"another client":       {false, submit(3, 5, dialogue), api.Message{Talk: 1}},
	} {
		want := api.OK
		if !c.right {
			want = api.ErrAnswer
		}
		first := asked(submit(1, 5, dialogue), 1, 2, api.Message{Talk: 1})
		linear(t, name, l, 1, want, first, asked(c.c, 1, 3, c.a))
		// One that has not ended is right, whatever it has.
		linear(t, name, l, 1, api.OK, first, asked(c.c, 1, 0, c.a))
	}
}

// P28.5: what is answered to a status and a watch, behind each entry.
func TestViews(t *testing.T) {
	l := log(t, submit(1, 1, dialogue), output(1, 0, "no"), api.Command{Op: api.OpAck, Talk: 1, At: 1}, submit(1, 2, lines("a:/"+strings.Repeat(`send "s"/`, 20)+"exit 0")), output(1, 2, "ok"))
	for index := range 6 {
		for talk := range 4 {
			x := status(l, talk, index, 1, 2)
			linear(t, "a status", l, 0, api.OK, x)
			for at := range 5 {
				y := watch(l, talk, 5*at, index, 1, 2)
				linear(t, "a watch", l, 0, api.OK, y, x)
				y.Answer.Err++
				linear(t, "a watch, another error", l, 1, api.ErrAnswer, x, y)
				y = watch(l, talk, 5*at, index, 1, 2)
				y.Answer.Data += "\x00"
				linear(t, "a watch, other data", l, 1, api.ErrAnswer, x, y)
				y.Ended = 0
				linear(t, "a watch that has not ended", l, 1, api.OK, x, y)
			}
			x.Answer.Err++
			linear(t, "a status, another error", l, 0, api.ErrAnswer, x)
			x = status(l, talk, index, 1, 2)
			x.Answer.Data = x.Answer.Data[1:]
			linear(t, "a status, other data", l, 0, api.ErrAnswer, x)
			x.Ended = 0
			linear(t, "a status that has not ended", l, 0, api.OK, x)
		}
	}
	x, y := status(l, 1, 1, 1, 2), watch(l, 1, 0, 1, 1, 2)
	for _, index := range []int{0, 2, 5, 6, -1, math.MaxInt, math.MinInt} {
		x.Answer.Index, y.Answer.Index = index, index
		linear(t, "a status of another index", l, 0, api.ErrAnswer, x)
		want := api.OK // what happened by then stays alike for some entries
		if index != 2 {
			want = api.ErrAnswer
		}
		linear(t, "a watch of another index", l, 0, want, y)
	}
	for op := range 256 {
		z := asked(api.Command{Op: uint8(op)}, 1, 0, api.Message{})
		linear(t, "one that has not ended", l, 0, api.OK, z)
		if op < 1 || op > 2 && op < 6 || op > 7 {
			z.Ended = 2
			linear(t, "another one that has ended", l, 0, api.ErrAnswer, z)
		}
	}
}

// P28.5: all answers go ahead of all times.
func TestAnswerFirst(t *testing.T) {
	l := log(t, submit(1, 1, dialogue))
	first, late := asked(submit(1, 1, dialogue), 1, 4, api.Message{Talk: 1}), status(l, 1, 0, 5, 6)
	wrong := asked(submit(1, 1, dialogue), 1, 4, api.Message{Talk: 2})
	linear(t, "an answer behind a time", l, 2, api.ErrAnswer, first, late, wrong)
	linear(t, "both of them", l, 0, api.ErrAnswer, wrong, late)
}

// P28.5: of two calls, by their places, and by when they began and ended.
func TestTime(t *testing.T) {
	l := log(t, submit(1, 1, dialogue), cancel(2, 1, 1), cancel(3, 1, 9))
	at := func(place, begun, ended int) api.Asked { return status(l, 1, place, begun, ended) }
	change := func(place, begun, ended int) api.Asked {
		switch place {
		case 1:
			return asked(submit(1, 1, dialogue), begun, ended, api.Message{Talk: 1})
		case 2:
			return asked(cancel(2, 1, 1), begun, ended, api.Message{Talk: 1})
		}
		return asked(cancel(3, 1, 9), begun, ended, api.Message{Err: api.ErrNone})
	}
	for a := range 4 {
		for b := range 4 {
			for _, began := range []int{3, 4, 5} {
				// The one ends at the act 4: the other one that begins by then may stand anywhere.
				want := api.OK
				if began == 5 && a > b {
					want = api.ErrTime
				}
				linear(t, "two statuses", l, 1, want, at(a, 1, 4), at(b, began, 9))
				linear(t, "two statuses, listed in another order", l, 0, want, at(b, began, 9), at(a, 1, 4))
				linear(t, "one that never ended", l, 0, api.OK, at(b, began, 9), at(a, 1, 0))
				if a > 0 {
					linear(t, "a change and a status", l, 1, want, change(a, 1, 4), at(b, began, 9))
					linear(t, "a change that never ended, and a status", l, 1, api.OK, change(a, 1, 0), at(b, began, 9))
				}
				if b > 0 {
					if began == 5 && a >= b {
						want = api.ErrTime
					}
					linear(t, "a status and a change", l, 1, want, at(a, 1, 4), change(b, began, 9))
					// One that has not ended may have come into the log too early, too.
					linear(t, "a status and a change that has not ended", l, 1, want, at(a, 1, 4), change(b, began, 0))
				}
				if a > 0 && b > 0 {
					linear(t, "two changes", l, 1, want, change(a, 1, 4), change(b, began, 9))
				}
			}
		}
	}
	// Calls without a place are not in time.
	none := asked(submit(7, 1, "?"), 5, 6, api.Message{Err: api.ErrLong})
	linear(t, "no place", l, 0, api.OK, at(3, 1, 4), none, watch(l, 1, 0, 0, 5, 6))
	linear(t, "no place, ahead", l, 0, api.OK, watch(l, 1, 0, 3, 1, 2), at(0, 5, 9))
	// A call is not held against itself.
	linear(t, "one that ended ahead of its beginning", l, 0, api.OK, change(1, 9, 4))
}

// R3: what is handed in is not changed.
func TestKept(t *testing.T) {
	l := log(t, submit(1, 1, dialogue), output(1, 0, "ok"))
	calls := []api.Asked{status(l, 1, 2, 1, 2), asked(submit(1, 1, dialogue), 1, 2, api.Message{Talk: 1})}
	was, wasCalls := slices.Clone(l), slices.Clone(calls)
	said := map[int]string{1: "ok"}
	audit.Linear(l, calls)
	audit.Heard(l, said)
	x := audit.Replay(l)
	s := x.Save()
	audit.Meant(x, []api.Taken{taken(1, 1, 1, 1, "x")})
	if !slices.Equal(l, was) || calls[0].Answer.Data != wasCalls[0].Answer.Data || calls[1].Ended != wasCalls[1].Ended || len(said) != 1 || x.Save() != s {
		t.Error("something has changed")
	}
}
