package parse

import (
	"dragoman/api"
	"dragoman/lex"
)

// wrong is what a parser has met.
type wrong struct {
	spot api.Spot
}

// refuseAt ends the parsing at a place.
func refuseAt(e api.Errno, at int) {
	panic(wrong{spot: api.Spot{Err: e, At: at}})
}

// refuse ends the parsing at the next token.
func (p *parser) refuse(e api.Errno) {
	if len(p.tokens) == 0 {
		refuseAt(e, p.end)
	}
	refuseAt(e, p.tokens[0].At)
}

// stands: whether the next token is of that kind.
func (p *parser) stands(kind int) bool { return len(p.tokens) > 0 && p.tokens[0].Kind == kind }

// wordStands: whether that word stands next.
func (p *parser) wordStands(word string) bool {
	return p.stands(api.TokWord) && p.tokens[0].Text == word
}

// next reads the next token, which there is.
func (p *parser) next() api.Token {
	t := p.tokens[0]
	p.tokens = p.tokens[1:]
	return t
}

// take reads a token, which must be of that kind.
func (p *parser) take(kind int) api.Token {
	if !p.stands(kind) {
		p.refuse(api.ErrText)
	}
	return p.next()
}

// sign reads a sign, which must be that one.
func (p *parser) sign(sign string) {
	if !p.stands(api.TokSign) || p.tokens[0].Text != sign {
		p.refuse(api.ErrText)
	}
	p.next()
}

// lineEnds reads the end of a line.
func (p *parser) lineEnds() { p.take(api.TokEnd) }

// name reads a name.
func (p *parser) name() string {
	if !p.stands(api.TokWord) || !lex.Name(p.tokens[0].Text) {
		p.refuse(api.ErrText)
	}
	return p.next().Text
}

// gotoName reads a goto, and the name behind it.
func (p *parser) gotoName() string {
	if !p.wordStands(wordGoto) {
		p.refuse(api.ErrText)
	}
	p.next()
	return p.name()
}

// number reads a number from least to most.
func (p *parser) number(least, most int) int {
	t := p.take(api.TokNumber)
	if t.N < least || t.N > most {
		refuseAt(api.ErrRange, t.At)
	}
	return t.N
}
