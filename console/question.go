package console

import (
	"strconv"
	"strings"

	"dragoman/api"
	"dragoman/pattern"
)

// The questions.
const (
	wordUp     = "up"
	wordTaken  = "taken"
	wordSaid   = "said"
	wordCalls  = "calls"
	wordFlight = "flight"
	wordActs   = "acts"
)

// questionFields: what stands behind a question's word; false, if it is none's.
func questionFields(word string) (fields string, ok bool) {
	switch word {
	case wordUp, wordTaken, wordCalls, wordFlight, wordActs:
		return "", true
	case wordSaid:
		return string(letterN), true
	}
	return "", false
}

// answer: a question's answer; n is the number behind it, if it has one.
func (c *Console) answer(word string, n int) string {
	var things []string
	numbers := func(l ...int) string {
		var words []string
		for _, n := range l {
			words = append(words, strconv.Itoa(n))
		}
		return strings.Join(words, " ")
	}
	w := c.world
	switch word {
	case wordUp:
		return c.up()
	case wordSaid:
		return pattern.Quote(w.Said(n))
	case wordActs:
		return numbers(w.Acts())
	case wordTaken:
		for _, x := range w.Taken() {
			things = append(things, numbers(x.Talk, x.Seq, x.Token.Term, x.Token.Epoch)+" "+pattern.Quote(x.Text))
		}
	case wordCalls:
		for _, x := range w.Calls() {
			m, a := x.Call, x.Answer
			things = append(things, numbers(m.Client, m.Request, int(m.Op), x.Begun, x.Ended, int(a.Err), a.Talk))
		}
	case wordFlight:
		for _, x := range w.Flight() {
			things = append(things, numbers(x.Id, x.From, x.To, len(x.Bytes)))
		}
	}
	if len(things) == 0 {
		return "none"
	}
	return strings.Join(things, "; ")
}

// up: whether each machine is up or down.
func (c *Console) up() string {
	var words []string
	for i := range api.Nodes + 1 {
		word := "down"
		if c.world.Up(i) {
			word = "up"
		}
		words = append(words, word)
	}
	return strings.Join(words, " ")
}
