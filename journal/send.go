package journal

import (
	"dragoman/api"
	"dragoman/frame"
	"dragoman/wire"
)

// frameMore is how many bytes a frame has beside its payload.
const frameMore = 12

// counted is how many numbers a send has.
const counted = 4

// number is a number of a send, and the most that it may be; the least is 1.
type number struct {
	value, most int
}

// numbers: those of a send, in the order in which its frame has them.
func numbers(x api.Taken) [counted]number {
	return [counted]number{
		{x.Talk, api.MaxIndex},
		{x.Token.Term, api.MaxTerm},
		{x.Token.Epoch, api.MaxIndex},
		{x.Seq, api.MaxIndex},
	}
}

// framed: a send's frame.
func framed(x api.Taken) (string, api.Errno) {
	payload := ""
	for _, n := range numbers(x) {
		payload += wire.U64(uint64(n.value))
	}
	text, e := wire.Text(x.Text)
	if e != api.OK {
		return "", e
	}
	return frame.Put(payload + text)
}

// sendOf: the send whose payload it is.
func sendOf(payload string) (x api.Taken, ok bool) {
	r := wire.New(payload)
	var n [counted]int
	for i := range n {
		// No number of a send is above MaxTerm: so a greater one is told by one that an int can hold.
		n[i] = int(min(r.U64(), api.MaxTerm+1))
	}
	x = api.Taken{Talk: n[0], Token: api.Fence{Term: n[1], Epoch: n[2]}, Seq: n[3], Text: r.Text(api.MaxSend)}
	if r.End().Err != api.OK || Check(x) != api.OK {
		return api.Taken{}, false
	}
	return x, true
}
