package node_test

import (
	"math"
	"reflect"
	"strings"
	"testing"

	"dragoman/api"
	"dragoman/disk"
	"dragoman/message"
	"dragoman/node"
	"dragoman/snap"
	"dragoman/table"
	"dragoman/vote"
	"dragoman/wal"
)

// lines: a text of lines with / for the byte 10.
func lines(s string) string { return strings.ReplaceAll(s, "/", "\n") }

// dialogue is that of chapter 24.
var dialogue = lines(`a:/send "x"/expect {/"ok" goto b/timeout 5 goto b/}/b:/exit 7`)

func want(t *testing.T, what string, got, want api.Errno) {
	t.Helper()
	if got != want {
		t.Fatalf("%s: the error %d, want %d", what, got, want)
	}
}

func open(t *testing.T, self int, d *disk.Disk) *node.Node {
	t.Helper()
	n, e := node.Open(self, d, 100)
	if n == nil || e != api.OK {
		t.Fatalf("Open: %v, %d", n, e)
	}
	return n
}

func bytesOf(t *testing.T, m api.Message) string {
	t.Helper()
	s, e := message.Encode(m)
	if e != api.OK {
		t.Fatalf("%+v has no form: %d", m, e)
	}
	return s
}

func tick(t *testing.T, n *node.Node) []api.Message {
	t.Helper()
	l, e := n.Tick()
	want(t, "Tick", e, api.OK)
	return l
}

func receive(t *testing.T, n *node.Node, m api.Message) []api.Message {
	t.Helper()
	l, e := n.Receive(bytesOf(t, m))
	want(t, "Receive", e, api.OK)
	return l
}

// says: what is said is just this.
func says(t *testing.T, what string, got []api.Message, want ...api.Message) {
	t.Helper()
	if len(got) != len(want) || len(got) > 0 && !reflect.DeepEqual(got, want) {
		t.Fatalf("%s: said %+v, want %+v", what, got, want)
	}
}

// candidate: a node 0, which asks to be elected for the term 1.
func candidate(t *testing.T, d *disk.Disk) *node.Node {
	t.Helper()
	n := open(t, 0, d)
	for range 19 {
		says(t, "a tick", tick(t, n))
	}
	says(t, "the tick 20", tick(t, n), api.Message{Kind: api.MsgVote, To: 1, Term: 1}, api.Message{Kind: api.MsgVote, To: 2, Term: 1})
	return n
}

// leader: a node 0, which is the leader of the term 1, but not ready.
func leader(t *testing.T, d *disk.Disk) *node.Node {
	t.Helper()
	n := candidate(t, d)
	receive(t, n, api.Message{Kind: api.MsgVoted, From: 1, Term: 1, Good: true})
	return n
}

// ready: one that is ready, at its tick 20.
func ready(t *testing.T, d *disk.Disk) *node.Node {
	t.Helper()
	n := leader(t, d)
	agree(t, n)
	if v := n.View(); !v.Ready || n.Done() != v.Last {
		t.Fatalf("not ready: %+v", v)
	}
	return n
}

// agree: the node 1 has all that the leader has.
func agree(t *testing.T, n *node.Node) []api.Message {
	t.Helper()
	v := n.View()
	return receive(t, n, api.Message{Kind: api.MsgAppended, From: 1, Term: v.Ballot.Term, Good: true, Index: v.Last, Stamp: v.Now})
}

// call: of the client 2.
func call(request int, op uint8, talk, at int, data string) api.Message {
	return api.Message{Kind: api.MsgCall, From: 10, Client: 2, Request: request, Op: op, Talk: talk, At: at, Data: data}
}

// answer: what all answers of a node 0, the leader, to a call have.
func answer(m api.Message) api.Message {
	return api.Message{Kind: api.MsgAnswer, To: m.From, Client: m.Client, Request: m.Request, Op: m.Op, Leader: 1}
}

func answerErr(m api.Message, e api.Errno) api.Message {
	a := answer(m)
	a.Err = e
	return a
}

// answers: just the answers of what is said.
func answers(l []api.Message) []api.Message {
	var out []api.Message
	for _, m := range l {
		if m.Kind == api.MsgAnswer {
			out = append(out, m)
		}
	}
	return out
}

// The chapter's examples.
func TestExamples(t *testing.T) {
	d := disk.New()
	n := leader(t, d)
	if v := n.View(); v.Role != api.Leader || v.Ballot.Term != 1 || v.Last != 1 || v.Ready {
		t.Errorf("View: %+v", v)
	}
	agree(t, n)
	if n.Done() != 1 || !n.View().Ready {
		t.Errorf("Done %d, %+v", n.Done(), n.View())
	}
	for _, op := range []uint8{api.OpStatus, api.OpWatch} {
		a := receive(t, n, call(1, op, 1, 0, ""))
		if len(a) != 1 || a[0].Kind != api.MsgAnswer || a[0].To != 10 || a[0].Err != api.ErrNone || a[0].Leader != 1 {
			t.Errorf("the answer %+v", a)
		}
	}
	want(t, "Crash", d.Crash(nil, 0), api.OK)
	n = open(t, 0, d)
	if v := n.View(); v.Ballot != (api.Ballot{Term: 1}) || v.Last != 1 || n.Done() != 0 {
		t.Errorf("View: %+v, Done %d", v, n.Done())
	}
	if n, e := node.Open(3, d, 100); n != nil || e != api.ErrArg {
		t.Errorf("Open(3): %v, %d", n, e)
	}
	if n, e := node.Open(0, d, 501); n != nil || e != api.ErrArg {
		t.Errorf("Open, rho 501: %v, %d", n, e)
	}
}

// R4: of nil.
func TestNil(t *testing.T) {
	var n *node.Node
	if n.View() != (api.View{}) || n.Table() != nil || n.Done() != 0 {
		t.Error("something is seen of nil")
	}
	x, e := n.Entry(1)
	if x != (api.Entry{}) || e != api.ErrNil {
		t.Errorf("Entry: %v, %d", x, e)
	}
	want(t, "Draw", n.Draw(1), api.ErrNil)
	l, e := n.Tick()
	says(t, "Tick", l)
	want(t, "Tick", e, api.ErrNil)
	l, e = n.Receive("")
	says(t, "Receive", l)
	want(t, "Receive", e, api.ErrNil)
}

// P26.1: there and back; what is no record.
func TestRecord(t *testing.T) {
	for _, x := range []api.Entry{{Term: 1}, {Term: 258, Data: "ab\x00"}, {Term: 1 << 40, Data: strings.Repeat("x", 4000)}} {
		rec := node.Record(x)
		if got, e := node.Entry(rec); got != x || e != api.OK || len(rec) != 8+len(x.Data) {
			t.Errorf("%v: %v, %d", x, got, e)
		}
	}
	if got := node.Record(api.Entry{Term: 258, Data: "ab"}); got != "\x00\x00\x00\x00\x00\x00\x01\x02ab" {
		t.Errorf("Record: %q", got)
	}
	for _, rec := range []string{"", "\x00\x00\x00\x00\x00\x00\x01", node.Record(api.Entry{}), node.Record(api.Entry{Term: 1<<40 + 1}), node.Record(api.Entry{Term: -1}), node.Record(api.Entry{Term: math.MinInt, Data: "x"})} {
		if got, e := node.Entry(rec); got != (api.Entry{}) || e != api.ErrBytes {
			t.Errorf("%q: %v, %d", rec, got, e)
		}
	}
}

// P26.6: the texts, byte by byte.
func TestTexts(t *testing.T) {
	eight := func(n byte) string { return "\x00\x00\x00\x00\x00\x00\x00" + string([]byte{n}) }
	if got := node.StatusText(api.Status{State: 2, Sends: 3, Acked: 4, Got: 5, Turn: 6, History: 7, Code: 8}); got != "\x02"+eight(3)+eight(4)+eight(5)+eight(6)+eight(7)+eight(8) {
		t.Errorf("StatusText: %q", got)
	}
	if got := node.StatusText(api.Status{State: 255, Got: -1}); got != "\xff"+eight(0)+eight(0)+strings.Repeat("\xff", 8)+strings.Repeat("\x00", 24) {
		t.Errorf("StatusText: %q", got)
	}
	if got := node.HappenText(nil); got != "\x00" {
		t.Errorf("HappenText of none: %q", got)
	}
	l := []api.Happen{{Kind: 1, Text: "ab", N: 3}, {Kind: 258, N: -1}}
	if got := node.HappenText(l); got != "\x02\x01"+eight(3)+"\x00\x00\x00\x02ab\x02"+strings.Repeat("\xff", 8)+"\x00\x00\x00\x00" {
		t.Errorf("HappenText: %q", got)
	}
	if got := node.HappenText(make([]api.Happen, 257)); len(got) != 1+257*13 || got[0] != 1 {
		t.Errorf("HappenText of 257: %d bytes, %q", len(got), got[0])
	}
}

// P26.2: what can't be opened at all.
func TestOpenArgs(t *testing.T) {
	refuses := func(self int, d *disk.Disk, rho int, e api.Errno) {
		t.Helper()
		if n, got := node.Open(self, d, rho); n != nil || got != e {
			t.Errorf("Open(%d, .., %d): %v, %d; want %d", self, rho, n, got, e)
		}
	}
	refuses(9, nil, 999, api.ErrNil)
	off := disk.New()
	want(t, "Power", off.Power(0), api.OK)
	for _, c := range [][2]int{{-1, 100}, {3, 100}, {math.MaxInt, 0}, {0, -1}, {0, 501}, {2, math.MinInt}} {
		refuses(c[0], disk.New(), c[1], api.ErrArg)
		refuses(c[0], off, c[1], api.ErrArg)
	}
	refuses(0, off, 100, api.ErrOff)
	for self := range 3 {
		for _, rho := range []int{0, 100, 500} {
			if n, e := node.Open(self, disk.New(), rho); n == nil || e != api.OK || n.View().Role != api.Follower || n.View().Ballot.For != -1 || n.Done() != 0 || n.Table().Len() != 0 {
				t.Errorf("Open(%d, .., %d): %v, %d", self, rho, n, e)
			}
		}
	}
}

// stored is what a disk has.
type stored struct {
	ballot api.Ballot
	mark   api.Mark // none of the index 0
	text   string
	first  int      // of the log
	log    []string // its records
}

func (s stored) disk(t *testing.T) *disk.Disk {
	t.Helper()
	d := disk.New()
	box, e := vote.Open(d)
	want(t, "vote.Open", e, api.OK)
	want(t, "Write", box.Write(s.ballot), api.OK)
	if s.mark.Index > 0 {
		want(t, "snap.Save", snap.Save(d, s.mark, s.text), api.OK)
	}
	log, e := wal.Open(d)
	want(t, "wal.Open", e, api.OK)
	want(t, "Reset", log.Reset(s.first), api.OK)
	for _, rec := range s.log {
		want(t, "Append", log.Append(rec), api.OK)
	}
	want(t, "Sync", log.Sync(), api.OK)
	return d
}

// records: so many of a term, as of beats.
func records(many, term int) []string {
	var l []string
	for range many {
		l = append(l, node.Record(api.Entry{Term: term, Data: "d"}))
	}
	return l
}

// tableOf: the form of a table of one talk.
func tableOf(t *testing.T) string {
	t.Helper()
	x := table.New()
	s, e := table.Encode(api.Command{Op: api.OpSubmit, Client: 1, Request: 1, Data: dialogue})
	want(t, "Encode", e, api.OK)
	x.Apply(s)
	return x.Save()
}

// P26.2: what stands on a disk, and what comes of it.
func TestOpen(t *testing.T) {
	text := tableOf(t)
	two := api.Ballot{Term: 2, For: 1}
	at := func(index, term int) api.Mark { return api.Mark{Index: index, Term: term} }
	for name, c := range map[string]struct {
		stored
		e           api.Errno
		first, last int // of the log then
	}{
		"a log alone":                  {stored{two, at(0, 0), "", 1, records(11, 2)}, api.OK, 1, 11},
		"a log that begins late":       {stored{two, at(0, 0), "", 9, records(3, 2)}, api.ErrDisk, 0, 0},
		"no log, but its first index":  {stored{two, at(0, 0), "", 9, nil}, api.OK, 1, 0},
		"a snapshot alone":             {stored{two, at(32, 1), text, 1, nil}, api.OK, 33, 32},
		"a snapshot of the term 0":     {stored{two, at(8, 0), text, 1, nil}, api.OK, 9, 8},
		"a log behind it":              {stored{two, at(32, 1), text, 33, records(5, 2)}, api.OK, 33, 37},
		"a log that comes by it":       {stored{two, at(16, 1), text, 1, records(20, 1)}, api.OK, 17, 20},
		"a log that ends ahead of it":  {stored{two, at(16, 1), text, 1, records(15, 1)}, api.OK, 17, 16},
		"a log that ends with it":      {stored{two, at(16, 1), text, 9, records(8, 1)}, api.OK, 17, 16},
		"a log of another term":        {stored{two, at(16, 2), text, 1, records(20, 1)}, api.OK, 17, 16},
		"a log that is none":           {stored{two, at(8, 1), text, 1, append(append(records(7, 1), "torn"), records(2, 2)...)}, api.OK, 9, 8},
		"a log that is none, term 0":   {stored{two, at(8, 0), text, 1, append(append(records(7, 1), "torn"), records(2, 2)...)}, api.OK, 9, 10},
		"a gap":                        {stored{two, at(8, 1), text, 17, records(2, 1)}, api.ErrDisk, 0, 0},
		"no segment's mark":            {stored{two, at(9, 1), text, 1, nil}, api.ErrArg, 0, 0},
		"no segment's mark, a log":     {stored{two, at(5, 1), text, 1, records(7, 1)}, api.OK, 1, 7},
		"a gap of one":                 {stored{two, at(7, 1), text, 9, records(2, 1)}, api.ErrDisk, 0, 0},
		"a log that ends with it, too": {stored{two, at(5, 1), text, 1, records(5, 1)}, api.OK, 1, 5},
		"no table":                     {stored{two, at(8, 1), "text", 1, nil}, api.ErrDisk, 0, 0},
		"a record that is none":        {stored{two, at(0, 0), "", 1, append(records(3, 1), "1234567")}, api.ErrDisk, 0, 0},
		"one ahead of the mark":        {stored{two, at(5, 1), text, 1, append([]string{"x"}, records(6, 1)...)}, api.ErrDisk, 0, 0},
		"a ballot below the log":       {stored{two, at(0, 0), "", 1, records(3, 3)}, api.ErrDisk, 0, 0},
		"a ballot below the snapshot":  {stored{two, at(8, 3), text, 1, nil}, api.ErrDisk, 0, 0},
		"terms that fall":              {stored{two, at(0, 0), "", 1, append(records(3, 2), records(1, 1)...)}, api.ErrDisk, 0, 0},
		"terms that fall behind it":    {stored{two, at(8, 2), text, 9, records(2, 1)}, api.ErrDisk, 0, 0},
		"terms that fall ahead of it":  {stored{two, at(5, 1), text, 1, append(records(3, 2), records(4, 1)...)}, api.OK, 1, 7},
		"a ballot of the log's term":   {stored{two, at(8, 1), text, 9, records(9, 2)}, api.OK, 9, 17},
		"a mark of the greatest index": {stored{two, at(1<<20, 1), text, 1, nil}, api.OK, 1<<20 + 1, 1 << 20},
	} {
		d := c.stored.disk(t)
		n, e := node.Open(2, d, 100)
		if e != c.e || (n == nil) != (e != api.OK) {
			t.Errorf("%s: Open: %v, %d; want %d", name, n, e, c.e)
		}
		if e != api.OK {
			continue
		}
		v := n.View()
		if v.Ballot != two || v.Snap != c.mark || v.Last != c.last || v.Commit != c.mark.Index || n.Done() != c.mark.Index || v.Role != api.Follower {
			t.Errorf("%s: %+v, Done %d", name, v, n.Done())
		}
		if talks := min(c.mark.Index, 1); n.Table().Len() != talks {
			t.Errorf("%s: %d talks", name, n.Table().Len())
		}
		log, e := wal.Open(d)
		// A log without a record does not know where it begins, once it is opened anew.
		if c.last < c.first {
			if e != api.OK || log.Last() != 0 {
				t.Errorf("%s: the log ends with %d, %d", name, log.Last(), e)
			}
		} else if e != api.OK || log.First() != c.first || log.Last() != c.last {
			t.Errorf("%s: the log is from %d to %d, %d", name, log.First(), log.Last(), e)
		}
		if _, e := n.Entry(c.mark.Index); e != api.ErrNone {
			t.Errorf("%s: the mark has an entry", name)
		}
		for i := c.mark.Index + 1; i <= c.last; i++ {
			if x, e := n.Entry(i); e != api.OK || node.Record(x) != c.log[i-c.stored.first] {
				t.Errorf("%s: the entry %d is %v, %d", name, i, x, e)
			}
		}
	}
}

// P26.2: the power goes at some step of what is mended.
func TestOpenOff(t *testing.T) {
	s := stored{api.Ballot{Term: 2, For: 1}, api.Mark{Index: 16, Term: 2}, tableOf(t), 1, records(20, 1)}
	for n := 0; ; n++ {
		d := s.disk(t)
		want(t, "Append", d.Append(api.BallotA, "torn"), api.OK)
		want(t, "Power", d.Power(n), api.OK)
		x, e := node.Open(2, d, 100)
		if e == api.OK {
			if n < 8 {
				t.Errorf("just %d steps", n)
			}
			break
		}
		if x != nil || e != api.ErrOff {
			t.Errorf("power for %d steps: %v, %d", n, x, e)
		}
		want(t, "Crash", d.Crash(nil, 0), api.OK)
		y := open(t, 2, d)
		if v := y.View(); v.Snap != s.mark || v.Last != 16 || v.Ballot != s.ballot {
			t.Errorf("behind a crash at the step %d: %+v", n, v)
		}
	}
}

// P26.3: the core's, and a copy of the table.
func TestSeen(t *testing.T) {
	n := open(t, 0, stored{api.Ballot{Term: 2, For: 1}, api.Mark{Index: 8, Term: 1}, tableOf(t), 9, records(2, 2)}.disk(t))
	for index, e := range map[int]api.Errno{8: api.ErrNone, 9: api.OK, 10: api.OK, 11: api.ErrNone, -1: api.ErrNone} {
		if x, got := n.Entry(index); got != e || e == api.OK && x != (api.Entry{Term: 2, Data: "d"}) || e != api.OK && x != (api.Entry{}) {
			t.Errorf("Entry(%d): %v, %d", index, x, got)
		}
	}
	for k, e := range map[int]api.Errno{-1: api.ErrArg, 20: api.ErrArg, 0: api.OK, 19: api.OK, 3: api.OK} {
		want(t, "Draw", n.Draw(k), e)
	}
	want(t, "Draw", n.Draw(2), api.OK)
	for range 21 {
		says(t, "a tick", tick(t, n))
	}
	if l := tick(t, n); len(l) != 2 || n.View().Ballot != (api.Ballot{Term: 3, For: 0}) {
		t.Errorf("the tick 22: %v", l)
	}
	x := n.Table()
	s, _ := table.Encode(api.Command{Op: api.OpCancel, Client: 1, Request: 2, Talk: 1})
	x.Apply(s)
	if y, e := n.Table().Status(1); e != api.OK || y.State != api.TalkRuns {
		t.Error("the table is not a copy")
	}
}
