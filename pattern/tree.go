package pattern

import "dragoman/api"

const (
	lastByte  = 255
	wordBits  = 64
	wholeWord = 1<<wordBits - 1
)

// Tree: a pattern's tree.
func Tree(p api.Pattern) (n api.Node, fault api.Spot) {
	if p.Kind != api.PatLiteral && p.Kind != api.PatGlob && p.Kind != api.PatRe {
		return api.Node{}, api.Spot{Err: api.ErrArg}
	}
	if len(p.Text) > api.MaxPattern {
		return api.Node{}, api.Spot{Err: api.ErrLong, At: api.MaxPattern}
	}
	r := &reader{text: p.Text}
	fault = guard(func() { n = r.tree(p.Kind) })
	if fault.Err != api.OK {
		return api.Node{}, fault
	}
	return n, fault
}

// tree: the tree of the whole text, as one of that kind.
func (r *reader) tree(kind int) api.Node {
	switch kind {
	case api.PatGlob:
		return r.row(r.globPart)
	case api.PatRe:
		n := r.alternatives()
		r.end()
		return n
	}
	return r.row(r.literalPart)
}

// row: the parts up to the end, one behind the other.
func (r *reader) row(part func() api.Node) api.Node {
	var parts []api.Node
	for !r.ended() {
		parts = append(parts, part())
	}
	return inRow(parts)
}

func (r *reader) literalPart() api.Node { return oneByte(r.next()) }

func (r *reader) globPart() api.Node {
	switch c := r.next(); c {
	case '*':
		return over(api.NodeStar, anyByte())
	case '?':
		return anyByte()
	case '\\':
		return oneByte(r.next())
	default:
		return oneByte(c)
	}
}

// alternatives: a regular pattern, up to the end or a ) that it has not opened.
func (r *reader) alternatives() api.Node {
	l := []api.Node{r.regularRow()}
	for r.skips('|') {
		l = append(l, r.regularRow())
	}
	if len(l) == 1 {
		return l[0]
	}
	return over(api.NodeAlt, l...)
}

// regularRow: an alternative.
func (r *reader) regularRow() api.Node {
	var parts []api.Node
	for !r.ended() && !r.sees('|') && !r.sees(')') {
		parts = append(parts, r.regularPart())
	}
	return inRow(parts)
}

// regularPart: an atom, and perhaps a sign behind it.
func (r *reader) regularPart() api.Node {
	n := r.atom()
	switch {
	case r.skips('*'):
		return over(api.NodeStar, n)
	case r.skips('+'):
		return over(api.NodePlus, n)
	case r.skips('?'):
		return over(api.NodeOpt, n)
	}
	return n
}

func (r *reader) atom() api.Node {
	c := r.next()
	switch c {
	case '(':
		n := r.alternatives()
		r.take(')')
		return n
	case '.':
		return anyByte()
	case '[':
		return api.Node{Op: api.NodeSet, Set: r.members()}
	case '\\':
		return oneByte(r.next())
	case '|', ')', '*', '+', '?', ']':
		r.refuseLast()
	}
	return oneByte(c)
}

// members: the bytes of the members up to a ], or all others.
func (r *reader) members() api.ByteSet {
	others := r.skips('^')
	var set api.ByteSet
	r.member(&set)
	for !r.skips(']') {
		r.member(&set)
	}
	if others {
		for i := range set {
			set[i] ^= wholeWord
		}
	}
	return set
}

// member adds the bytes of a member to a set.
func (r *reader) member(set *api.ByteSet) {
	low := r.memberByte()
	high := low
	if r.skips('-') {
		high = r.memberByte()
		if high < low {
			r.refuseLast()
		}
	}
	addSpan(set, low, high)
}

func (r *reader) memberByte() byte {
	c := r.next()
	switch c {
	case '\\':
		return r.next()
	case '[', ']', '^', '-':
		r.refuseLast()
	}
	return c
}

// addSpan adds the bytes from low to high to a set.
func addSpan(set *api.ByteSet, low, high byte) {
	for c := int(low); c <= int(high); c++ {
		set[c/wordBits] |= 1 << (c % wordBits)
	}
}

// oneByte: the node of a byte.
func oneByte(c byte) api.Node {
	n := api.Node{Op: api.NodeSet}
	addSpan(&n.Set, c, c)
	return n
}

// anyByte: the node of any byte.
func anyByte() api.Node {
	n := api.Node{Op: api.NodeSet}
	addSpan(&n.Set, 0, lastByte)
	return n
}

// over: a node over these kids.
func over(op int, kids ...api.Node) api.Node { return api.Node{Op: op, Kids: kids} }

// inRow: parts, one behind the other.
func inRow(parts []api.Node) api.Node {
	switch len(parts) {
	case 0:
		return api.Node{Op: api.NodeEmpty}
	case 1:
		return parts[0]
	}
	return over(api.NodeCat, parts...)
}
