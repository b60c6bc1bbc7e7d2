package hub_test

import (
	"fmt"
	"math"
	"slices"
	"sync"
	"testing"

	"dragoman/api"
	"dragoman/hub"
)

func exit(n int) api.Happen    { return api.Happen{Kind: api.HapExit, N: n} }
func sent(s string) api.Happen { return api.Happen{Kind: api.HapSend, Text: s} }
func matched(n int) api.Happen { return api.Happen{Kind: api.HapMatch, Text: fmt.Sprint("m", n), N: n} }
func want(t *testing.T, what string, got, want api.Errno) {
	t.Helper()
	if got != want {
		t.Errorf("%s: the error %d, want %d", what, got, want)
	}
}

// many: so many happenings, each another one.
func many(n int) []api.Happen {
	l := make([]api.Happen, n)
	for i := range l {
		l[i] = matched(i)
	}
	return l
}

func watch(t *testing.T, h *hub.Hub, talk, from int) *hub.Watch {
	t.Helper()
	w, e := h.Watch(talk, from)
	if w == nil || e != api.OK || w.At() != from {
		t.Fatalf("Watch(%d, %d): %v, %d", talk, from, w, e)
	}
	return w
}

// next: what is told, and whether there may be more; the watch stands there then.
func next(t *testing.T, w *hub.Watch, most int, more bool, at int, want ...api.Happen) {
	t.Helper()
	l, got := w.Next(most)
	if !slices.Equal(l, want) || got != more || w.At() != at {
		t.Errorf("Next(%d): %v, %v, at %d; want %v, %v, at %d", most, l, got, w.At(), want, more, at)
	}
}

// The chapter's examples.
func TestExamples(t *testing.T) {
	h := hub.New()
	want(t, "Add", h.Add(1, exit(3)), api.OK)
	w := watch(t, h, 1, 0)
	next(t, w, 9, true, 1, exit(3))
	next(t, w, 9, true, 1)
	want(t, "Close", h.Close(1), api.OK)
	next(t, w, 9, false, 1)
	want(t, "Add", h.Add(1), api.ErrState)
	want(t, "Close", h.Close(1), api.ErrState)
	if w, e := h.Watch(1, 2); w != nil || e != api.ErrRange {
		t.Errorf("Watch(1, 2): %v, %d", w, e)
	}
	if w, e := h.Watch(8, 0); w != nil || e != api.ErrArg {
		t.Errorf("Watch(8, 0): %v, %d", w, e)
	}
	want(t, "Add(8)", h.Add(8), api.ErrArg)
	x := [][]api.Happen{{sent("x"), sent("y")}}
	spreads(t, x, []api.Watcher{{From: 0}, {From: 1}, {From: 2}})
	refuses(t, x, []api.Watcher{{From: 3}}, api.ErrRange)
	refuses(t, x, []api.Watcher{{Talk: 1}}, api.ErrArg)
}

// R4: of nil.
func TestNil(t *testing.T) {
	var h *hub.Hub
	want(t, "Add", h.Add(9, exit(1)), api.ErrNil)
	want(t, "Close", h.Close(9), api.ErrNil)
	if h.Len(0) != 0 {
		t.Errorf("Len %d", h.Len(0))
	}
	if w, e := h.Watch(9, 9); w != nil || e != api.ErrNil {
		t.Errorf("Watch: %v, %d", w, e)
	}
	var w *hub.Watch
	next(t, w, 9, false, 0)
	next(t, w, -1, false, 0)
}

// P29.1: dialogues are apart, and there are eight of them.
func TestDialogues(t *testing.T) {
	h := hub.New()
	for _, talk := range []int{-1, 8, math.MaxInt, math.MinInt} {
		want(t, "Add", h.Add(talk, exit(1)), api.ErrArg)
		want(t, "Close", h.Close(talk), api.ErrArg)
		if h.Len(talk) != 0 {
			t.Errorf("Len(%d): %d", talk, h.Len(talk))
		}
	}
	for talk := range 8 {
		for i := range talk {
			want(t, "Add", h.Add(talk, exit(i)), api.OK)
		}
	}
	for talk := range 8 {
		if h.Len(talk) != talk {
			t.Errorf("Len(%d): %d", talk, h.Len(talk))
		}
		if talk%2 == 0 {
			want(t, "Close", h.Close(talk), api.OK)
		}
	}
	for talk := range 8 {
		e := api.OK
		if talk%2 == 0 {
			e = api.ErrState
		}
		want(t, "Add", h.Add(talk, exit(9)), e)
		want(t, "Close", h.Close(talk), e)
		if h.Len(talk) != talk+talk%2 {
			t.Errorf("Len(%d): %d", talk, h.Len(talk))
		}
	}
}

// P29.1: as many as may be, and one more; what does not fit is not there in part.
func TestFull(t *testing.T) {
	all := many(4097)
	h := hub.New()
	want(t, "4097", h.Add(0, all...), api.ErrFull)
	want(t, "4096", h.Add(0, all[:4096]...), api.OK)
	want(t, "one more", h.Add(0, exit(1)), api.ErrFull)
	want(t, "none more", h.Add(0), api.OK)
	want(t, "4090", h.Add(1, all[:4090]...), api.OK)
	want(t, "7 more", h.Add(1, all[:7]...), api.ErrFull)
	if h.Len(1) != 4090 {
		t.Errorf("Len %d", h.Len(1))
	}
	want(t, "6 more", h.Add(1, all[:6]...), api.OK)
	want(t, "one more", h.Add(1, exit(1)), api.ErrFull)
	w := watch(t, h, 1, 4089)
	next(t, w, 9, true, 4096, append([]api.Happen{all[4089]}, all[:6]...)...)
	// Of one that is closed and full that it is closed.
	want(t, "Close", h.Close(1), api.OK)
	want(t, "one more", h.Add(1, exit(1)), api.ErrState)
}

// P29.2: each place, and one past them.
func TestWatch(t *testing.T) {
	h := hub.New()
	all := many(5)
	for n := range 6 {
		for from := range n + 1 {
			w := watch(t, h, 3, from)
			next(t, w, math.MaxInt, true, n, all[from:n]...)
		}
		for _, from := range []int{-1, n + 1, math.MaxInt, math.MinInt} {
			if w, e := h.Watch(3, from); w != nil || e != api.ErrRange {
				t.Errorf("Watch(3, %d) of %d: %v, %d", from, n, w, e)
			}
		}
		if n < 5 {
			want(t, "Add", h.Add(3, all[n]), api.OK)
		}
	}
	for _, talk := range []int{-1, 8, math.MaxInt, math.MinInt} {
		if w, e := h.Watch(talk, -1); w != nil || e != api.ErrArg {
			t.Errorf("Watch(%d, -1): %v, %d", talk, w, e)
		}
	}
	want(t, "Close", h.Close(3), api.OK)
	next(t, watch(t, h, 3, 2), 9, false, 5, all[2:]...)
}

// P29.3: so many at most; none with most below 1; more may come until it is closed, and is there until it was told.
func TestNext(t *testing.T) {
	h := hub.New()
	all := many(5)
	w := watch(t, h, 0, 0)
	next(t, w, 9, true, 0)
	want(t, "Add", h.Add(0, all[:3]...), api.OK)
	for _, most := range []int{0, -1, math.MinInt} {
		next(t, w, most, true, 0)
	}
	next(t, w, 2, true, 2, all[:2]...)
	want(t, "Add", h.Add(0, all[3:]...), api.OK)
	next(t, w, 1, true, 3, all[2])
	want(t, "Close", h.Close(0), api.OK)
	next(t, w, 0, true, 3)
	next(t, w, 1, true, 4, all[3])
	next(t, w, -5, true, 4)
	// What it is told now is the last of all: no more is there.
	next(t, w, 1, false, 5, all[4])
	next(t, w, 1, false, 5)
	next(t, w, 0, false, 5)
	empty := hub.New()
	w = watch(t, empty, 0, 0)
	next(t, w, 0, true, 0)
	want(t, "Close", empty.Close(0), api.OK)
	next(t, w, 0, false, 0)
}

// R3: what is handed in is not changed or kept, what is told is new memory.
func TestNew(t *testing.T) {
	h := hub.New()
	l := many(3)
	want(t, "Add", h.Add(0, l[:2]...), api.OK)
	l[0], l[2] = exit(9), exit(8)
	want(t, "Add", h.Add(0, exit(1)), api.OK)
	if l[2] != exit(8) {
		t.Error("the room behind what was handed in was changed")
	}
	all := []api.Happen{matched(0), matched(1), exit(1)}
	got, _ := watch(t, h, 0, 0).Next(2)
	got[0] = exit(7)
	_ = append(got, exit(6))
	next(t, watch(t, h, 0, 0), 9, true, 3, all...)
	x := [][]api.Happen{all}
	told, _ := hub.Spread(x, []api.Watcher{{}, {}, {From: 1}})
	told[0][0] = exit(5)
	_ = append(told[0][:1], exit(4))
	if all[0] != matched(0) || told[1][0] != matched(0) || told[2][0] != matched(1) {
		t.Error("lists share memory")
	}
}

// spreads: what each watcher was told is what is in its dialogue, from its place on.
func spreads(t *testing.T, talks [][]api.Happen, watchers []api.Watcher) {
	t.Helper()
	told, e := hub.Spread(talks, watchers)
	if e != api.OK || len(told) != len(watchers) {
		t.Fatalf("Spread: %d lists, %d", len(told), e)
	}
	for i, x := range watchers {
		if !slices.Equal(told[i], talks[x.Talk][x.From:]) {
			t.Errorf("the watcher %d: %d happenings, want those from %d on of %d", i, len(told[i]), x.From, len(talks[x.Talk]))
		}
	}
}

func refuses(t *testing.T, talks [][]api.Happen, watchers []api.Watcher, e api.Errno) {
	t.Helper()
	if told, got := hub.Spread(talks, watchers); len(told) != 0 || got != e {
		t.Errorf("Spread: %v, %d; want %d", told, got, e)
	}
}

// P29.4: what is too much, and who watches what there is not.
func TestSpreadRefused(t *testing.T) {
	eight := make([][]api.Happen, 8)
	eight[2] = many(3)
	full := [][]api.Happen{many(4096), many(4097)}
	none := make([]api.Watcher, 65)
	wrong := api.Watcher{Talk: 9}
	spreads(t, eight, none[:64])
	refuses(t, eight, none, api.ErrLong)
	refuses(t, make([][]api.Happen, 9), nil, api.ErrLong)
	refuses(t, make([][]api.Happen, 9), []api.Watcher{wrong}, api.ErrLong)
	refuses(t, full, none, api.ErrLong)
	refuses(t, full, nil, api.ErrFull)
	refuses(t, full, []api.Watcher{wrong}, api.ErrFull)
	spreads(t, full[:1], none[:3])
	for _, talk := range []int{-1, 8, math.MaxInt, math.MinInt} {
		refuses(t, eight, []api.Watcher{{}, {Talk: talk, From: -1}, {Talk: 2, From: 4}}, api.ErrArg)
		refuses(t, eight, []api.Watcher{{}, {Talk: 2, From: 4}, {Talk: talk}}, api.ErrRange)
	}
	for _, from := range []int{-1, 4, math.MaxInt, math.MinInt} {
		refuses(t, eight, []api.Watcher{{Talk: 2, From: 3}, {Talk: 2, From: from}}, api.ErrRange)
	}
	refuses(t, nil, []api.Watcher{{}}, api.ErrArg)
}

// P29.4: of nothing, and of one without the other.
func TestSpreadEmpty(t *testing.T) {
	spreads(t, nil, nil)
	spreads(t, [][]api.Happen{many(3), nil}, nil)
	spreads(t, [][]api.Happen{nil, many(3)}, []api.Watcher{{}, {}, {Talk: 1, From: 3}})
	spreads(t, [][]api.Happen{many(3)}, []api.Watcher{{From: 1}})
}

// P29.4: all dialogues, as many watchers as may be, from everywhere on, again and again.
func TestSpread(t *testing.T) {
	for round := range 40 {
		var talks [][]api.Happen
		for talk := range 8 {
			talks = append(talks, many(talk*(round*7%60)))
		}
		var watchers []api.Watcher
		for i := range 64 {
			talk := (i*i + round) % 8
			watchers = append(watchers, api.Watcher{Talk: talk, From: (i * 13) % (len(talks[talk]) + 1)})
		}
		spreads(t, talks, watchers)
	}
	long := many(4096)
	spreads(t, [][]api.Happen{long, long}, []api.Watcher{{}, {Talk: 1, From: 4096}, {From: 4095}, {Talk: 1, From: 1}, {Talk: 1}})
}

// P29.5: many who add and many who watch at once: each is told what has happened, from its place on, once and in order.
func TestAtOnce(t *testing.T) {
	h := hub.New()
	const adders, each, watchers = 4, 300, 12
	var adding, watching sync.WaitGroup
	var told [watchers][]api.Happen
	for a := range adders {
		adding.Add(1)
		go func() {
			defer adding.Done()
			for i := 0; i < each; i += 3 {
				h.Add(a%2, api.Happen{Kind: a, N: i}, api.Happen{Kind: a, N: i + 1}, api.Happen{Kind: a, N: i + 2})
				h.Len(a % 2)
			}
		}()
	}
	for i := range watchers {
		watching.Add(1)
		go func() {
			defer watching.Done()
			w, _ := h.Watch(i%2, 0)
			for more := true; more; {
				var l []api.Happen
				l, more = w.Next(i)
				told[i] = append(told[i], l...)
				if i < 2 {
					return
				}
			}
			if w.At() != len(told[i]) {
				t.Errorf("the watch %d is at %d, and was told %d", i, w.At(), len(told[i]))
			}
		}()
	}
	adding.Wait()
	want(t, "Close", h.Close(0), api.OK)
	want(t, "Close", h.Close(1), api.OK)
	watching.Wait()
	for i := 2; i < watchers; i++ {
		all, more := watch(t, h, i%2, 0).Next(math.MaxInt)
		if more || len(all) != adders/2*each || !slices.Equal(told[i], all) {
			t.Errorf("the watch %d was told %d of %d", i, len(told[i]), len(all))
		}
		// What each one added stands there in its order, and together what was added together.
		next := map[int]int{}
		for k, x := range all {
			if x.N != next[x.Kind] || x.N%3 > 0 && all[k-1].Kind != x.Kind {
				t.Fatalf("%v stands at %d", x, k)
			}
			next[x.Kind]++
		}
	}
}
