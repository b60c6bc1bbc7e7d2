package match

import (
	"dragoman/api"
	"dragoman/nfa"
	"dragoman/pattern"
)

// way is a way through a net, and the place of the byte that was handed to it first.
type way struct {
	*nfa.Run
	from int
}

// arm is a pattern that is looked for, and the ways that may still match, in the order in which they began.
type arm struct {
	net  *nfa.Net
	ways []way
}

// armsOf: the arms of a list that may be looked for.
func armsOf(l []api.Pattern) ([]arm, api.Errno) {
	if len(l) == 0 || len(l) > api.MaxArms {
		return nil, api.ErrArg
	}
	var arms []arm
	for _, p := range l {
		net, e := nfa.Of(p)
		if e != api.OK || pattern.Empty(p) {
			return nil, api.ErrArg
		}
		arms = append(arms, arm{net: net})
	}
	return arms, api.OK
}

// step: a byte more, which stands at a place; the first match that ends behind it. If there is one, not all arms have gone on.
func step(arms []arm, c byte, at int) (api.Hit, bool) {
	for i := range arms {
		if from, ok := arms[i].step(c, at); ok {
			return api.Hit{Arm: i, From: from, To: at + 1}, true
		}
	}
	return api.Hit{}, false
}

// step: a byte more, which stands at a place; where the longest match begins that ends behind it.
func (a *arm) step(c byte, at int) (from int, ok bool) {
	a.ways = append(a.ways, way{Run: a.net.Begin(), from: at})
	live := 0
	for _, w := range a.ways {
		w.Step(c)
		if w.Dead() {
			continue
		}
		if w.Done() && !ok {
			from, ok = w.from, true
		}
		a.ways[live] = w
		live++
	}
	a.over(live)
	return from, ok
}

// forget: ways that began ahead of a place are too old.
func (a *arm) forget(first int) {
	old := 0
	for old < len(a.ways) && a.ways[old].from < first {
		old++
	}
	a.over(copy(a.ways, a.ways[old:]))
}

// over: all ways but so many are over; nothing of them is kept.
func (a *arm) over(live int) {
	clear(a.ways[live:])
	a.ways = a.ways[:live]
}

// another: an arm that stands so, and goes on by itself.
func (a *arm) another() arm {
	b := arm{net: a.net}
	for _, w := range a.ways {
		b.ways = append(b.ways, way{Run: w.Copy(), from: w.from})
	}
	return b
}
