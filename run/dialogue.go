package run

import (
	"dragoman/api"
	"dragoman/match"
)

// dialogue is one on its way: its configuration, and what has happened.
type dialogue struct {
	api.Config
	auto     api.Auto
	happened []api.Happen
}

// newDialogue: a dialogue that stands so, and shares nothing with what was handed in that it changes.
func newDialogue(a api.Auto, c api.Config) *dialogue {
	c.Counts = append([]int(nil), c.Counts...)
	return &dialogue{Config: c, auto: a}
}

// node: at which it stands.
func (d *dialogue) node() api.AutoNode { return d.auto.Nodes[d.Node] }

// run: from a node on, up to an expect or an exit.
func (d *dialogue) run(at int) {
	for {
		n := d.auto.Nodes[at]
		next := at + 1
		switch n.Op {
		case api.LineSend:
			d.Sends = more(d.Sends, api.MaxTurns)
			d.happens(api.Happen{Kind: api.HapSend, Text: n.Text, N: d.Sends})
		case api.LineSet:
			d.Counts[n.C] = n.N
		case api.LineInc:
			d.Counts[n.C] = more(d.Counts[n.C], api.MaxCount)
		case api.LineIf:
			if d.Counts[n.C] < n.N {
				next = n.To
			}
		case api.LineGoto:
			next = n.To
		case api.LineExit:
			d.Node, d.Ended, d.Code = at, true, n.N
			d.happens(api.Happen{Kind: api.HapExit, N: n.N})
			return
		case api.LineExpect:
			d.Node = at
			return
		}
		at = next
	}
}

// leave: its expect is left to a node, as that happens.
func (d *dialogue) leave(to int, why api.Happen) {
	d.Turn = more(d.Turn, api.MaxTurns)
	d.happens(why)
	d.run(to)
}

// settle: as long as there is a match in its buffer, the first one is taken.
func (d *dialogue) settle() {
	for !d.Ended {
		n := d.node()
		hit, found := match.First(patterns(n), d.Buffer)
		if !found {
			return
		}
		taken := d.Buffer[:hit.To]
		d.Buffer = d.Buffer[hit.To:]
		d.leave(n.Arms[hit.Arm].To, api.Happen{Kind: api.HapMatch, Text: taken, N: hit.Arm})
	}
}

// untilMatch: how many bytes of what comes in there are up to the first match; all of them, if there is none. In its buffer there is none yet.
func (d *dialogue) untilMatch(s string) int {
	m, e := match.New(patterns(d.node()))
	if e != api.OK {
		// An expect without arms only waits.
		return len(s)
	}
	m.Feed(d.Buffer)
	n, _, _ := m.Feed(s)
	return n
}

func (d *dialogue) happens(h api.Happen) { d.happened = append(d.happened, h) }

// patterns: those of a node's arms.
func patterns(n api.AutoNode) []api.Pattern {
	var l []api.Pattern
	for _, a := range n.Arms {
		l = append(l, a.Pattern)
	}
	return l
}

// more: one more, or most.
func more(n, most int) int { return min(n+1, most) }
