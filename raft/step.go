package raft

import (
	"slices"

	"dragoman/api"
)

// Tick: a tick went by.
func (c *Core) Tick() api.Effects {
	var fx api.Effects
	if c == nil {
		return fx
	}
	c.now++
	if c.role == api.Leader {
		c.tickLeader(&fx)
		return fx
	}
	c.quiet++
	c.wait++
	if c.wait >= api.ElectionTicks+c.draw && c.ballot.Term < api.MaxTerm {
		c.stand(&fx)
	}
	return fx
}

// tickLeader: a leader that nobody answers any more gives up; else it speaks from time to time.
func (c *Core) tickLeader(fx *api.Effects) {
	c.beat++
	if c.quietSince() >= api.ElectionTicks {
		c.follow(fx, c.ballot.Term, nobody)
		c.quiet, c.wait = 0, 0
		return
	}
	if c.beat >= api.BeatTicks {
		c.speakToAll(fx)
	}
}

// Propose: the leader puts an entry behind its log.
func (c *Core) Propose(data string) (index, term int, fx api.Effects, e api.Errno) {
	switch {
	case c == nil:
		return 0, 0, fx, api.ErrNil
	case c.role != api.Leader:
		return 0, 0, fx, api.ErrNotLeader
	case len(data) > api.MaxData:
		return 0, 0, fx, api.ErrLong
	case c.last() >= c.commit+api.MaxOpen || c.last() >= api.MaxIndex:
		return 0, 0, fx, api.ErrFull
	}
	c.put(&fx, data)
	c.speakToAll(&fx)
	return c.last(), c.ballot.Term, fx, api.OK
}

// Step: a message came.
func (c *Core) Step(m api.Message) api.Effects {
	var fx api.Effects
	if c == nil || m.To != c.self || !isNode(m.From) || m.From == c.self || m.Term < 1 || m.Term > api.MaxTerm {
		return fx
	}
	switch m.Kind {
	case api.MsgVote:
		c.asked(&fx, m)
	case api.MsgVoted:
		c.voted(&fx, m)
	case api.MsgAppend, api.MsgSnap:
		c.told(&fx, m)
	case api.MsgAppended, api.MsgSnapped:
		c.answered(&fx, m)
	}
	return fx
}

// asked: a candidate asks for its vote.
func (c *Core) asked(fx *api.Effects, m api.Message) {
	if c.role == api.Leader || c.quiet < api.ElectionTicks {
		return
	}
	if m.Term > c.ballot.Term {
		c.follow(fx, m.Term, nobody)
	}
	good := m.Term == c.ballot.Term && (c.ballot.For == nobody || c.ballot.For == m.From) && c.notBehind(m)
	if good {
		c.save(fx, api.Ballot{Term: c.ballot.Term, For: m.From})
		c.wait = 0
	}
	c.send(fx, api.Message{Kind: api.MsgVoted, To: m.From, Good: good})
}

// notBehind: whether the log of a candidate is not behind its own.
func (c *Core) notBehind(m api.Message) bool {
	if term := c.termOf(c.last()); m.LogTerm != term {
		return m.LogTerm > term
	}
	return m.Index >= c.last()
}

// voted: another node answered whether it votes for it.
func (c *Core) voted(fx *api.Effects, m api.Message) {
	if m.Term > c.ballot.Term {
		c.follow(fx, m.Term, nobody)
		return
	}
	if c.role != api.Candidate || m.Term < c.ballot.Term || !m.Good {
		return
	}
	c.votes[m.From] = true
	given := 0
	for _, vote := range c.votes {
		if vote {
			given++
		}
	}
	if given >= majority {
		c.lead(fx)
	}
}

// told: a leader speaks.
func (c *Core) told(fx *api.Effects, m api.Message) {
	if m.Term < c.ballot.Term {
		c.send(fx, api.Message{Kind: m.Kind + 1, To: m.From})
		return
	}
	if m.Term == c.ballot.Term && c.role == api.Leader || m.Index < 0 || m.LogTerm < 0 || m.LogTerm > m.Term {
		return
	}
	c.follow(fx, m.Term, m.From)
	c.quiet, c.wait = 0, 0
	if m.Kind == api.MsgSnap {
		c.toldSnap(fx, m)
		return
	}
	c.toldEntries(fx, m)
}

// toldSnap: a piece of a snapshot came.
func (c *Core) toldSnap(fx *api.Effects, m api.Message) {
	if m.Index <= c.mark.Index || m.Index <= c.last() && c.termOf(m.Index) == m.LogTerm {
		c.commit = max(c.commit, m.Index)
		c.send(fx, api.Message{Kind: api.MsgSnapped, To: m.From, Good: true, Index: m.Index, At: m.Total, Total: m.Total, Stamp: m.Stamp})
		return
	}
	fx.Piece = m.Index <= api.MaxIndex
}

// toldEntries: entries came, or a beat without any.
func (c *Core) toldEntries(fx *api.Effects, m api.Message) {
	if !entriesRight(m) {
		return
	}
	ahead, left := m.Index, m.Entries
	if ahead < c.mark.Index {
		left = left[min(c.mark.Index-ahead, len(left)):]
		ahead = c.mark.Index
		if len(left) > 0 && left[0].Term < c.mark.Term {
			return
		}
	} else if ahead > c.last() || c.termOf(ahead) != m.LogTerm {
		c.send(fx, api.Message{Kind: api.MsgAppended, To: m.From, Index: max(min(c.last(), ahead-1), 0), Stamp: m.Stamp})
		return
	}
	if !c.take(fx, ahead, left) {
		return
	}
	end := ahead + len(left)
	c.commit = max(c.commit, min(m.Commit, end))
	c.send(fx, api.Message{Kind: api.MsgAppended, To: m.From, Good: true, Index: end, Stamp: m.Stamp})
}

// entriesRight: whether a leader of that term may tell these entries.
func entriesRight(m api.Message) bool {
	if m.Index > api.MaxIndex-len(m.Entries) || !rising(m.LogTerm, m.Entries) {
		return false
	}
	for _, x := range m.Entries {
		if x.Term < 1 || x.Term > m.Term {
			return false
		}
	}
	return true
}

// take: entries stand behind an index; false, if that would undo what is committed.
func (c *Core) take(fx *api.Effects, ahead int, l []api.Entry) bool {
	for i, x := range l {
		index := ahead + i + 1
		if index <= c.last() {
			if c.termOf(index) == x.Term {
				continue
			}
			if index <= c.commit {
				return false
			}
			c.log = c.log[:index-c.mark.Index-1]
			fx.CutFrom = index
		}
		c.log = append(c.log, l[i:]...)
		fx.Append = slices.Clone(l[i:])
		return true
	}
	return true
}

// answered: another node answers what it was told.
func (c *Core) answered(fx *api.Effects, m api.Message) {
	if m.Term > c.ballot.Term {
		c.follow(fx, m.Term, nobody)
		return
	}
	if c.role != api.Leader || m.Term < c.ballot.Term || m.Stamp < 0 || m.Stamp > c.now {
		return
	}
	p := &c.peers[m.From]
	p.heard = max(p.heard, m.Stamp)
	switch {
	case m.Kind == api.MsgSnapped:
		c.answeredSnap(fx, m)
	case m.Good:
		c.answeredGood(fx, m)
	default:
		// One more is added behind the least, since the greatest index has none above it.
		p.next = max(min(p.next-2, m.Index), p.match) + 1
		c.speak(fx, m.From)
	}
}

// answeredSnap: how many bytes of the snapshot the other node has, or that it has it whole.
func (c *Core) answeredSnap(fx *api.Effects, m api.Message) {
	p := &c.peers[m.From]
	if m.Index != c.mark.Index || p.next > m.Index {
		return
	}
	if m.At < m.Total || !m.Good {
		p.pieces = max(m.At, 0)
	} else {
		p.match = max(p.match, m.Index)
		p.next = p.match + 1
	}
	c.speak(fx, m.From)
}

// answeredGood: up to which index the other node has what the leader has.
func (c *Core) answeredGood(fx *api.Effects, m api.Message) {
	if m.Index > c.last() {
		return
	}
	p := &c.peers[m.From]
	p.match = max(p.match, m.Index)
	p.next = max(p.next, p.match+1)
	was := c.commit
	c.commitOwn()
	if p.next <= c.last() || c.commit != was {
		c.speak(fx, m.From)
	}
}

// commitOwn: commit is the greatest index of its own term that a majority has.
func (c *Core) commitOwn() {
	for i := c.last(); i > c.commit && c.termOf(i) == c.ballot.Term; i-- {
		have := 0
		for _, p := range c.peers {
			if p.match >= i {
				have++
			}
		}
		if have >= majority {
			c.commit = i
			return
		}
	}
}
