package node

import (
	"dragoman/api"
	"dragoman/disk"
	"dragoman/lease"
	"dragoman/raft"
	"dragoman/snap"
	"dragoman/table"
	"dragoman/vote"
	"dragoman/wal"
)

// Open: the node that a disk has.
func Open(self int, d *disk.Disk, rho int) (*Node, api.Errno) {
	if d == nil {
		return nil, api.ErrNil
	}
	if _, e := lease.Span(rho); e != api.OK || self < 0 || self >= api.Nodes {
		return nil, api.ErrArg
	}
	n := &Node{self: self, rho: rho, disk: d, inbox: snap.NewInbox()}
	mark, e := n.openTable()
	if e != api.OK {
		return nil, e
	}
	if n.box, e = vote.Open(d); e != api.OK {
		return nil, e
	}
	if n.log, e = wal.Open(d); e != api.OK {
		return nil, e
	}
	if e := n.settle(); e != api.OK {
		return nil, e
	}
	if e := n.trim(mark); e != api.OK {
		return nil, e
	}
	entries, ok := entriesBehind(n.log, mark.Index)
	if !ok || n.log.First() > mark.Index+1 {
		return nil, api.ErrDisk
	}
	if n.core, e = raft.New(self, n.box.Now(), mark, entries); e != api.OK {
		return nil, api.ErrDisk
	}
	return n, api.OK
}

// openTable: its table is that of its disk's newest snapshot, or a new one.
func (n *Node) openTable() (mark api.Mark, e api.Errno) {
	mark, text, e := snap.Load(n.disk)
	if e == api.ErrNone {
		n.table = table.New()
		return api.Mark{}, api.OK
	}
	if e != api.OK {
		return api.Mark{}, e
	}
	if n.table, e = table.Load(text); e != api.OK {
		return api.Mark{}, api.ErrDisk
	}
	n.done = mark.Index
	return mark, api.OK
}

// settle: what its disk was told, and may lose yet, is sure: the power may have come again without a crash, and from now on the node stands on what it sees.
func (n *Node) settle() api.Errno {
	for f := range api.MaxFiles {
		if n.disk.Loose(f) == 0 {
			continue
		}
		if e := n.disk.Sync(f); e != api.OK {
			return e
		}
	}
	return api.OK
}

// trim: its log is without what stands in the snapshot, or does not stand behind it.
func (n *Node) trim(mark api.Mark) api.Errno {
	if n.astray(mark) {
		// The power went while a snapshot came in place of the log.
		if e := n.log.Reset(mark.Index + 1); e != api.OK {
			return e
		}
	}
	return n.log.Drop(mark.Index)
}

// astray: whether its log does not come by a mark.
func (n *Node) astray(mark api.Mark) bool {
	if n.log.Last() < mark.Index {
		return true
	}
	rec, e := n.log.Get(mark.Index)
	if e != api.OK {
		return false
	}
	// The term of what is no entry's is 0.
	x, _ := Entry(rec)
	return x.Term != mark.Term
}

// entriesBehind: the entries of a log behind an index; false, if some record is no entry's.
func entriesBehind(log *wal.Log, index int) ([]api.Entry, bool) {
	var l []api.Entry
	for i, rec := range log.All() {
		x, e := Entry(rec)
		if e != api.OK {
			return nil, false
		}
		if i > index {
			l = append(l, x)
		}
	}
	return l, true
}
