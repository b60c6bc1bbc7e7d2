package nfa

import "dragoman/api"

// piece is what a part of a tree fits, by its places.
type piece struct {
	empty       bool
	first, last uint64
}

// builder gives the sets of a tree their places, from the left.
type builder struct {
	net  *Net
	used int
}

// piece: what a tree fits; what may follow within it stands in the net then.
func (b *builder) piece(n api.Node) piece {
	switch n.Op {
	case api.NodeSet:
		return b.place(n.Set)
	case api.NodeCat:
		whole := piece{empty: true}
		for _, kid := range n.Kids {
			whole = b.behind(whole, b.piece(kid))
		}
		return whole
	case api.NodeAlt:
		whole := piece{}
		for _, kid := range n.Kids {
			p := b.piece(kid)
			whole = piece{empty: whole.empty || p.empty, first: whole.first | p.first, last: whole.last | p.last}
		}
		return whole
	case api.NodeStar, api.NodePlus:
		p := b.piece(n.Kids[0])
		b.follow(p.last, p.first)
		p.empty = p.empty || n.Op == api.NodeStar
		return p
	case api.NodeOpt:
		p := b.piece(n.Kids[0])
		p.empty = true
		return p
	}
	return piece{empty: true}
}

// place: a set's place.
func (b *builder) place(set api.ByteSet) piece {
	bit := uint64(1) << b.used
	b.used++
	for c := range b.net.takes {
		if set[c/64]>>(c%64)&1 == 1 {
			b.net.takes[c] |= bit
		}
	}
	return piece{first: bit, last: bit}
}

// behind: what fits one part, and then another one.
func (b *builder) behind(p, q piece) piece {
	b.follow(p.last, q.first)
	whole := piece{empty: p.empty && q.empty, first: p.first, last: q.last}
	if p.empty {
		whole.first |= q.first
	}
	if q.empty {
		whole.last |= p.last
	}
	return whole
}

// follow: these places may come behind those.
func (b *builder) follow(those, these uint64) {
	for i := range b.net.follows {
		if those>>i&1 == 1 {
			b.net.follows[i] |= these
		}
	}
}

// trim: places that take no byte, or from which no end can be reached, are come to no more; so a way is dead just when it is nowhere.
func (n *Net) trim() {
	some := uint64(0)
	for _, taking := range n.takes {
		some |= taking
	}
	live := n.last & some
	for more := live; more != 0; {
		more = n.ahead(live) & some &^ live
		live |= more
	}
	n.first &= live
	for c := range n.takes {
		n.takes[c] &= live
	}
}

// ahead: the places behind which one of these may come.
func (n *Net) ahead(these uint64) uint64 {
	before := uint64(0)
	for i, next := range n.follows {
		if next&these != 0 {
			before |= 1 << i
		}
	}
	return before
}
