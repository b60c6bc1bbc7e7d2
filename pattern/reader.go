package pattern

import "dragoman/api"

// reader goes through a text from the front on. At a byte that can't be it ends by a panic of a wrong.
type reader struct {
	text string
	at   int
}

// wrong is what a reader has met.
type wrong struct {
	spot api.Spot
}

// guard: what is wrong with what is read.
func guard(read func()) (fault api.Spot) {
	defer func() {
		if x := recover(); x != nil {
			w, ok := x.(wrong)
			if !ok {
				panic(x)
			}
			fault = w.spot
		}
	}()
	read()
	return api.Spot{}
}

// refuse ends the reading at a place.
func refuse(e api.Errno, at int) {
	panic(wrong{spot: api.Spot{Err: e, At: at}})
}

// refuseLast ends the reading at the byte that was read last.
func (r *reader) refuseLast() { refuse(api.ErrText, r.at-1) }

// ended: whether no byte is left.
func (r *reader) ended() bool { return r.at == len(r.text) }

// sees: whether that byte is the next one.
func (r *reader) sees(c byte) bool { return !r.ended() && r.text[r.at] == c }

// skips: whether that byte is the next one, which is read then.
func (r *reader) skips(c byte) bool {
	if !r.sees(c) {
		return false
	}
	r.at++
	return true
}

// next: the next byte, which there must be.
func (r *reader) next() byte {
	if r.ended() {
		refuse(api.ErrText, r.at)
	}
	r.at++
	return r.text[r.at-1]
}

// take reads a byte, which must be that one.
func (r *reader) take(c byte) {
	if !r.skips(c) {
		refuse(api.ErrText, r.at)
	}
}

// word reads these bytes, which must stand there.
func (r *reader) word(s string) {
	for i := range len(s) {
		r.take(s[i])
	}
}

// end: no byte may be left.
func (r *reader) end() {
	if !r.ended() {
		refuse(api.ErrText, r.at)
	}
}
