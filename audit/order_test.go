package audit_test

import (
	"cmp"
	"slices"
	"testing"

	"dragoman/api"
	"dragoman/audit"
	"dragoman/node"
	"dragoman/table"
)

// dice are numbers that look thrown, and are the same in each run.
type dice uint64

func (d *dice) below(n int) int {
	*d ^= *d << 13
	*d ^= *d >> 7
	*d ^= *d << 17
	return int(uint64(*d) >> 11 % uint64(n))
}

// placed is a call that ended, and where a log has it.
type placed struct {
	api.Asked
	place int
}

// inOrder: P28.6 of calls of which Linear finds nothing.
func inOrder(t *testing.T, log []api.Entry, l []placed) {
	t.Helper()
	slices.SortStableFunc(l, func(a, b placed) int {
		return cmp.Or(cmp.Compare(a.place, b.place), cmp.Compare(a.Call.Op, b.Call.Op), cmp.Compare(a.Begun, b.Begun))
	})
	for i, x := range l {
		for _, y := range l[:i] {
			if x.Ended < y.Begun {
				t.Fatalf("%+v ended ahead of %+v", x, y)
			}
		}
	}
	// One table, to which the other entries of the log are done between.
	y, done := table.New(), 0
	for _, x := range l {
		var last api.Result
		for ; done < x.place; done++ {
			last, _ = y.Apply(log[done].Data)
		}
		if x.Call.Op == api.OpStatus {
			s, e := y.Status(x.Call.Talk)
			if e != x.Answer.Err || node.StatusText(s) != x.Answer.Data {
				t.Fatalf("%+v is answered otherwise", x)
			}
		} else if last.Err != x.Answer.Err || last.Talk != x.Answer.Talk {
			t.Fatalf("%+v is answered otherwise: %+v", x, last)
		}
	}
}

// P28.6: whatever calls, at whatever times.
func TestOrder(t *testing.T) {
	l := log(t, submit(0, 1, dialogue), submit(1, 1, dialogue), output(1, 0, "no"), cancel(2, 1, 2), cancel(3, 1, 1), submit(4, 1, "?"), cancel(0, 2, 2))
	right, wrong := 0, 0
	for seed := range 2000 {
		d := dice(seed + 1)
		var calls []api.Asked
		var in []placed
		for range 2 + d.below(6) {
			// Somewhere near when its entry came; now and then not about it.
			place := d.below(len(l) + 1)
			near := 3*place + d.below(9)*d.below(2)*d.below(2) + 1
			begun := max(near-d.below(6), 1)
			ended := max(near+d.below(6), begun)
			x := status(l, 1+d.below(2), place, begun, ended)
			if place > 0 && d.below(2) == 0 {
				if c, _ := table.Decode(l[place-1].Data); c.Op == api.OpSubmit || c.Op == api.OpCancel {
					again := false
					for _, y := range calls {
						again = again || y.Call.Client == c.Client && y.Call.Request == c.Request && y.Call.Op == c.Op
					}
					if again {
						continue
					}
					r, _ := audit.Replay(l[:place-1]).Apply(l[place-1].Data)
					x = asked(c, begun, ended, api.Message{Err: r.Err, Talk: r.Talk, At: r.At})
				}
			}
			calls = append(calls, x)
			in = append(in, placed{x, place})
		}
		at, e := audit.Linear(l, calls)
		if e == api.OK {
			inOrder(t, l, in)
			right++
		} else if e != api.ErrTime || at < 0 {
			t.Fatalf("seed %d: %d, %d", seed, at, e)
		} else {
			wrong++
		}
	}
	if right < 500 || wrong < 50 {
		t.Errorf("%d right, %d wrong", right, wrong)
	}
}
