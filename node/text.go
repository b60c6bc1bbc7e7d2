package node

import (
	"strings"

	"dragoman/api"
	"dragoman/wire"
)

// termBytes is how many bytes of a record have its term.
const termBytes = 8

// Record: the record of an entry.
func Record(e api.Entry) string { return number(e.Term) + e.Data }

// Entry: the entry of a record.
func Entry(rec string) (api.Entry, api.Errno) {
	term := wire.New(rec).U64()
	if term < 1 || term > api.MaxTerm {
		return api.Entry{}, api.ErrBytes
	}
	return api.Entry{Term: int(term), Data: rec[termBytes:]}, api.OK
}

// StatusText: a status as the data of an answer.
func StatusText(s api.Status) string {
	text := wire.U8(s.State)
	for _, n := range [...]int{s.Sends, s.Acked, s.Got, s.Turn, s.History, s.Code} {
		text += number(n)
	}
	return text
}

// HappenText: happenings as the data of an answer.
func HappenText(l []api.Happen) string {
	var b strings.Builder
	b.WriteString(wire.U8(uint8(len(l))))
	for _, h := range l {
		b.WriteString(wire.U8(uint8(h.Kind)))
		b.WriteString(number(h.N))
		b.WriteString(wire.U32(uint32(len(h.Text))))
		b.WriteString(h.Text)
	}
	return b.String()
}

// number: a number's bytes.
func number(n int) string { return wire.U64(uint64(n)) }
