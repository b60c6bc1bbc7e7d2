package raft

import (
	"slices"

	"dragoman/api"
)

// send: a message goes behind what is sent.
func (c *Core) send(fx *api.Effects, m api.Message) {
	m.From, m.Term = c.self, c.ballot.Term
	fx.Send = append(fx.Send, m)
}

// save: a ballot is the node's.
func (c *Core) save(fx *api.Effects, b api.Ballot) {
	if b == c.ballot {
		return
	}
	c.ballot = b
	fx.Save, fx.Ballot = true, b
}

// follow: it is a follower in a term that is not below its own.
func (c *Core) follow(fx *api.Effects, term, leader int) {
	if term > c.ballot.Term {
		c.save(fx, api.Ballot{Term: term, For: nobody})
	}
	c.role, c.leader = api.Follower, leader
}

// stand: it asks the others to vote for it in the next term.
func (c *Core) stand(fx *api.Effects) {
	c.save(fx, api.Ballot{Term: c.ballot.Term + 1, For: c.self})
	c.role, c.leader, c.wait = api.Candidate, nobody, 0
	c.votes = [api.Nodes]bool{}
	c.votes[c.self] = true
	for n := range api.Nodes {
		if n != c.self {
			c.send(fx, api.Message{Kind: api.MsgVote, To: n, Index: c.last(), LogTerm: c.termOf(c.last())})
		}
	}
}

// lead: it is the leader of its term.
func (c *Core) lead(fx *api.Effects) {
	c.role, c.leader = api.Leader, c.self
	c.start = c.last() + 1
	for n := range c.peers {
		c.peers[n] = peer{next: c.start, heard: c.now}
	}
	// An entry of its own term, since only by one of these it sees what is committed.
	if c.last() < api.MaxIndex {
		c.put(fx, "")
	}
	c.speakToAll(fx)
}

// put: an entry of its term stands behind the log.
func (c *Core) put(fx *api.Effects, data string) {
	x := api.Entry{Term: c.ballot.Term, Data: data}
	c.log = append(c.log, x)
	fx.Append = append(fx.Append, x)
	c.peers[c.self].match = c.last()
}

// speakToAll: the leader's beat.
func (c *Core) speakToAll(fx *api.Effects) {
	c.beat = 0
	for n := range api.Nodes {
		if n != c.self {
			c.speak(fx, n)
		}
	}
}

// speak: another node is told what comes next for it.
func (c *Core) speak(fx *api.Effects, n int) {
	p := &c.peers[n]
	if p.next <= c.mark.Index {
		c.send(fx, api.Message{Kind: api.MsgSnap, To: n, Index: c.mark.Index, LogTerm: c.mark.Term, At: p.pieces, Stamp: c.now})
		return
	}
	ahead := p.next - 1
	c.send(fx, api.Message{Kind: api.MsgAppend, To: n, Index: ahead, LogTerm: c.termOf(ahead), Commit: c.commit, Stamp: c.now, Entries: c.load(ahead)})
}

// load: as many of the entries behind an index as one message carries.
func (c *Core) load(ahead int) []api.Entry {
	l := c.log[ahead-c.mark.Index:]
	l = l[:min(len(l), api.MaxShip)]
	data := 0
	for i, x := range l {
		data += len(x.Data)
		if data > api.MaxData {
			l = l[:i]
			break
		}
	}
	return slices.Clone(l)
}

// quietSince: how many ticks ago the newest stamp of the others came back.
func (c *Core) quietSince() int {
	newest := 0
	for n, p := range c.peers {
		if n != c.self {
			newest = max(newest, p.heard)
		}
	}
	return c.now - newest
}
