package driver

import "dragoman/api"

// noTurn is the turn of a line that has seen none.
const noTurn = -1

// line is what a driver knows of a talk.
type line struct {
	fence    api.Fence // by which it is attached, or asked to be
	attached bool
	idle     int // ticks since the gateway was asked
	taken    int // how many sends the gateway told to have taken
	acks     int // up to which send something was proposed
	outs     int // up to which byte of output
	turn     int // the turn that goes on
	waits    int // the ticks that it was seen
	late     int // the turn whose timeout was proposed, and 1
}

// newLine: the gateway may be asked at once.
func newLine() line { return line{idle: api.RetryTicks, turn: noTurn} }

// tick: a tick went by.
func (x *line) tick(talk api.Talk) {
	x.idle++
	if !x.waiting(talk) {
		return
	}
	if turn := talk.Config.Turn; turn != x.turn {
		x.turn, x.waits = turn, 0
	}
	x.waits++
}

// waiting: whether all was sent that is meant, so that the talk waits for its terminal.
func (x *line) waiting(talk api.Talk) bool {
	return x.attached && x.taken >= len(talk.Sends) && talk.State == api.TalkRuns
}

// mayBeLate: whether the talk waits, all output that came is in the table, and no timeout was proposed for this turn.
func (x *line) mayBeLate(talk api.Talk) bool {
	return x.waiting(talk) && x.late != talk.Config.Turn+1 && x.outs <= talk.Got
}

// took: the gateway has taken so many sends; what is proposed then.
func (x *line) took(talk api.Talk, many int) []api.Command {
	x.attached = true
	x.taken = max(x.taken, many)
	x.idle = api.RetryTicks
	if x.taken <= max(talk.Acked, x.acks) || x.taken > len(talk.Sends) {
		return nil
	}
	x.acks = x.taken
	return []api.Command{{Op: api.OpAck, Talk: talk.Id, At: x.taken}}
}

// said: the terminal has said something; what is proposed then.
func (x *line) said(talk api.Talk, m api.Message) []api.Command {
	end := m.At + len(m.Data)
	if m.Err != api.OK || talk.State != api.TalkRuns || len(m.Data) > api.MaxOutput || end <= max(talk.Got, x.outs) {
		return nil
	}
	x.outs = end
	return []api.Command{{Op: api.OpOutput, Talk: talk.Id, At: m.At, Data: m.Data}}
}
