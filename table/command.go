package table

import (
	"strings"

	"dragoman/api"
	"dragoman/wire"
)

// The greatest number of a command, and how many bytes its data have at most.
const (
	mostNumber = 1 << 49
	mostData   = 3000
)

// counted is how many numbers of eight bytes a command has.
const counted = 4

// Check: may it be?
func Check(c api.Command) api.Errno {
	if c.Op < api.OpSubmit || c.Op > api.OpTimeout || c.Client >= api.MaxClients || asks(c.Op) && c.Request < 1 {
		return api.ErrArg
	}
	for _, n := range numbers(&c) {
		if *n < 0 || *n > mostNumber {
			return api.ErrArg
		}
	}
	most := mostData
	if c.Op == api.OpOutput {
		most = api.MaxOutput
	}
	if len(c.Data) > most {
		return api.ErrLong
	}
	return api.OK
}

// Encode: its form.
func Encode(c api.Command) (string, api.Errno) {
	if e := Check(c); e != api.OK {
		return "", e
	}
	var b strings.Builder
	b.WriteString(wire.U8(c.Op))
	for _, n := range numbers(&c) {
		b.WriteString(wire.U64(uint64(*n)))
	}
	b.WriteString(c.Data)
	return b.String(), api.OK
}

// Decode: the command of which these bytes are the form.
func Decode(s string) (api.Command, api.Errno) {
	r := wire.New(s)
	c := api.Command{Op: r.U8()}
	for _, n := range numbers(&c) {
		*n = int(r.U64())
	}
	c.Data = r.Rest()
	if r.Fault().Err != api.OK || Check(c) != api.OK {
		return api.Command{}, api.ErrBytes
	}
	return c, api.OK
}

// numbers: a command's numbers that have eight bytes in the form, in their order.
func numbers(c *api.Command) [counted]*int {
	return [counted]*int{&c.Client, &c.Request, &c.Talk, &c.At}
}

// asks: whether a command of this kind is a client's, and answered.
func asks(op uint8) bool { return op == api.OpSubmit || op == api.OpCancel }
