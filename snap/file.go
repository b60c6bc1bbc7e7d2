package snap

import (
	"strings"

	"dragoman/api"
	"dragoman/frame"
	"dragoman/wire"
)

// name is the word with which a snapshot's file begins.
const name = "snapshot"

// held is what a file has: a snapshot, or none.
type held struct {
	file int
	has  bool
	mark api.Mark
	text string
}

// bytesOf: the bytes of a snapshot's file.
func bytesOf(m api.Mark, text string) string {
	var b strings.Builder
	b.WriteString(framed(name + wire.U64(uint64(m.Index)) + wire.U64(uint64(m.Term)) + wire.U64(uint64(len(text)))))
	for text != "" {
		piece := chunk(text)
		b.WriteString(framed(piece))
		text = text[len(piece):]
	}
	return b.String()
}

// read: the snapshot of which these are the file's bytes, if they are one's.
func read(s string) (m api.Mark, text string, has bool) {
	payloads, _ := frame.Scan(s)
	if len(payloads) == 0 || !strings.HasPrefix(payloads[0], name) {
		return api.Mark{}, "", false
	}
	r := wire.New(payloads[0][len(name):])
	m = api.Mark{Index: int(r.U64()), Term: int(r.U64())}
	text = strings.Join(payloads[1:], "")
	// A file has one form alone: whatever else could be wrong with it is told by writing it anew.
	if !markRight(m) || len(text) > api.MaxSnap || bytesOf(m, text) != s {
		return api.Mark{}, "", false
	}
	return m, text, true
}

// chunk: the first bytes of a text, as many as one piece has.
func chunk(text string) string { return text[:min(len(text), api.MaxChunk)] }

// framed: the frame of a payload. (None of a snapshot's is longer than a frame's may be.)
func framed(payload string) string {
	s, _ := frame.Put(payload)
	return s
}
