package audit

import (
	"dragoman/api"
	"dragoman/node"
	"dragoman/table"
)

// noPlace is the place of a call that has none.
const noPlace = -1

// watched is how many happenings one answer has at most.
const watched = 8

// Linear: the answers are those of one table, in an order that respects which ended ahead of which began.
func Linear(log []api.Entry, calls []api.Asked) (int, api.Errno) {
	places := placesOf(log, calls)
	for i, right := range answered(log, calls, places) {
		if !right {
			return i, api.ErrAnswer
		}
	}
	for i := range calls {
		if unaware(calls, places, i) {
			return i, api.ErrTime
		}
	}
	return nowhere, api.OK
}

// request is a client's request, by which a command of a log is told to be a call's.
type request struct {
	client, number int
}

// placesOf: the place of each call in a log.
func placesOf(log []api.Entry, calls []api.Asked) []int {
	first := map[request]int{}
	for i, x := range log {
		c, e := table.Decode(x.Data)
		if e != api.OK || !changes(c.Op) {
			continue
		}
		r := request{c.Client, c.Request}
		if _, there := first[r]; !there {
			first[r] = i + 1
		}
	}
	places := make([]int, len(calls))
	for i, x := range calls {
		places[i] = noPlace
		index, there := first[request{x.Call.Client, x.Call.Request}]
		switch {
		case changes(x.Call.Op) && there:
			places[i] = index
		case x.Call.Op == api.OpStatus && ended(x):
			places[i] = x.Answer.Index
		}
	}
	return places
}

// answered: whether each call was answered rightly.
func answered(log []api.Entry, calls []api.Asked, places []int) []bool {
	right := make([]bool, len(calls))
	by := map[int][]int{} // the calls, by how many entries their answers stand on
	for i, x := range calls {
		switch {
		case !ended(x):
			right[i] = true
		case changes(x.Call.Op) && places[i] == noPlace:
			right[i] = x.Answer.Err == api.ErrLong || x.Answer.Err == api.ErrArg
		case changes(x.Call.Op):
			by[places[i]] = append(by[places[i]], i)
		default:
			by[x.Answer.Index] = append(by[x.Answer.Index], i)
		}
	}
	// The log is gone through just once: a table for each call would take long.
	t := table.New()
	for many := 0; many <= len(log); many++ {
		var last api.Result
		if many > 0 {
			last, _ = t.Apply(log[many-1].Data)
		}
		for _, i := range by[many] {
			right[i] = fits(calls[i], t, last)
		}
	}
	return right
}

// fits: whether the answer of a call is that of a table, whose last command had that result.
func fits(x api.Asked, t *table.Table, last api.Result) bool {
	a := x.Answer
	switch x.Call.Op {
	case api.OpSubmit, api.OpCancel:
		return a.Err == last.Err && a.Talk == last.Talk && a.At == last.At
	case api.OpStatus:
		s, e := t.Status(x.Call.Talk)
		return a.Err == e && a.Data == node.StatusText(s)
	case api.OpWatch:
		l, e := t.Watch(x.Call.Talk, x.Call.At, watched)
		return a.Err == e && a.Data == node.HappenText(l)
	}
	return false
}

// unaware: whether a call, by its place, does not know of another one that ended ahead of its beginning.
func unaware(calls []api.Asked, places []int, i int) bool {
	if places[i] == noPlace {
		return false
	}
	for k, y := range calls {
		if k == i || places[k] == noPlace || !ended(y) || y.Ended >= calls[i].Begun {
			continue
		}
		if places[k] > places[i] || places[k] == places[i] && changes(calls[i].Call.Op) {
			return true
		}
	}
	return false
}

func ended(x api.Asked) bool { return x.Ended != 0 }

// changes: whether what a client asks so is a command.
func changes(op uint8) bool { return op == api.OpSubmit || op == api.OpCancel }
