package compile

import (
	"dragoman/api"
	"dragoman/pattern"
)

// maxCode is the greatest number of an exit.
const maxCode = 255

// Right: may an automaton be?
func Right(a api.Auto) bool {
	last := len(a.Nodes) - 1
	if last < 0 || last >= api.MaxLines || !endsBlock(a.Nodes[last].Op) {
		return false
	}
	r := reviewer{blocks: blocksOf(a)}
	if len(r.blocks) > api.MaxBlocks {
		return false
	}
	for _, n := range a.Nodes {
		if !r.node(n) {
			return false
		}
	}
	return r.counters == a.Counts && a.Counts <= api.MaxCounters && !hasRound(a)
}

// blocksOf: which block begins at each head.
func blocksOf(a api.Auto) map[int]int {
	blocks := map[int]int{0: 0}
	for at := 1; at < len(a.Nodes); at++ {
		if endsBlock(a.Nodes[at-1].Op) {
			blocks[at] = len(blocks)
		}
	}
	return blocks
}

// endsBlock: whether a node of that kind is the last one of a block.
func endsBlock(op int) bool {
	return op == api.LineGoto || op == api.LineExit || op == api.LineExpect
}

// reviewer goes through an automaton's nodes, in order.
type reviewer struct {
	blocks   map[int]int // which block begins at each head
	counters int         // how many counters came so far
}

// node: whether the next node is as some line's: what it has is right, and all else is zero.
func (r *reviewer) node(n api.AutoNode) bool {
	rest := n
	right := true
	switch n.Op {
	case api.LineSend:
		right = len(n.Text) <= api.MaxSend
		rest.Text = ""
	case api.LineIf:
		right = r.leads(n.To)
		rest.To = 0
		fallthrough
	case api.LineSet:
		right = right && within(n.N, 0, api.MaxCount)
		rest.N = 0
		fallthrough
	case api.LineInc:
		right = right && r.counts(n.C)
		rest.C = 0
	case api.LineGoto:
		right = r.leads(n.To)
		rest.To = 0
	case api.LineExit:
		right = within(n.N, 0, maxCode)
		rest.N = 0
	case api.LineExpect:
		right = r.expect(n)
		rest.Arms, rest.Wait, rest.Late = nil, 0, noNode
	default:
		return false
	}
	return right && bare(rest)
}

// expect: whether the arms and the timeout of an expect are right.
func (r *reviewer) expect(n api.AutoNode) bool {
	if len(n.Arms) > api.MaxArms {
		return false
	}
	for _, x := range n.Arms {
		if _, fault := pattern.Tree(x.Pattern); fault.Err != api.OK || pattern.Empty(x.Pattern) || !r.leads(x.To) {
			return false
		}
	}
	if n.Late == noNode {
		return n.Wait == 0 && len(n.Arms) > 0
	}
	return r.leads(n.Late) && within(n.Wait, 1, api.MaxWait)
}

// leads: whether something may lead to that node.
func (r *reviewer) leads(to int) bool {
	_, ok := r.blocks[to]
	return ok
}

// counts: whether a counter may come now: one that came, or the next one.
func (r *reviewer) counts(c int) bool {
	if c == r.counters {
		r.counters++
	}
	return within(c, 0, r.counters-1)
}

// bare: whether all is zero that not every node has.
func bare(n api.AutoNode) bool {
	return n.Text == "" && n.C == 0 && n.N == 0 && n.To == 0 && len(n.Arms) == 0 && n.Wait == 0 && n.Late == noNode
}

func within(n, least, most int) bool { return n >= least && n <= most }

// hasRound: whether some way from node to node comes back to where it began, of an automaton whose nodes are all right.
func hasRound(a api.Auto) bool {
	const (
		fresh = iota // not come to yet
		open         // the way that is gone through came by it
		done         // no way from it on comes back
	)
	state := make([]int, len(a.Nodes))
	var round func(at int) bool
	round = func(at int) bool {
		if state[at] != fresh {
			return state[at] == open
		}
		state[at] = open
		n := a.Nodes[at]
		if (n.Op == api.LineIf || n.Op == api.LineGoto) && round(n.To) {
			return true
		}
		if !endsBlock(n.Op) && round(at+1) {
			return true
		}
		state[at] = done
		return false
	}
	for at := range a.Nodes {
		if round(at) {
			return true
		}
	}
	return false
}
