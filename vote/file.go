package vote

import (
	"dragoman/api"
	"dragoman/disk"
	"dragoman/frame"
	"dragoman/wire"
)

// frameMore is how many bytes a frame has beside its payload.
const frameMore = 12

// entry is a ballot as it is written: with how many were written so far.
type entry struct {
	count  int
	ballot api.Ballot
}

// frame: an entry's bytes in a file.
func (y entry) frame() (string, api.Errno) {
	return frame.Put(wire.U64(uint64(y.count)) + wire.U64(uint64(y.ballot.Term)) + wire.U8(uint8(y.ballot.For+1)))
}

// readEntry: the entry whose payload it is.
func readEntry(payload string) (y entry, ok bool) {
	r := wire.New(payload)
	count, term, node := r.U64(), r.U64(), r.U8()
	// Held against their limits as they are read: an int may be too narrow for them.
	if r.End().Err != api.OK || count < 1 || count > mostCount || term > api.MaxTerm || node > api.Nodes {
		return entry{}, false
	}
	return entry{count: int(count), ballot: api.Ballot{Term: int(term), For: int(node) - 1}}, true
}

// content is what a file of a box has: its entries, how many bytes these are, and how many it has in all.
type content struct {
	entries []entry
	good    int
	size    int
}

// look: what a file of a disk has; nothing, if it is not seen.
func look(d *disk.Disk, f int) content {
	text, e := d.Read(f)
	if e != api.OK {
		return content{}
	}
	c := content{size: len(text)}
	for at, payload := range frame.All(text) {
		y, ok := readEntry(payload)
		if !ok {
			break
		}
		c.entries = append(c.entries, y)
		c.good = at + len(payload) + frameMore
	}
	return c
}

// mend: what stands behind the last entry is gone.
func (c content) mend(d *disk.Disk, f int) api.Errno {
	if c.good == c.size {
		return api.OK
	}
	if e := d.Cut(f, c.good); e != api.OK {
		return e
	}
	return d.Sync(f)
}
