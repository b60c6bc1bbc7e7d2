package snap

import "dragoman/api"

// Inbox is a snapshot that comes in pieces.
type Inbox struct {
	mark  api.Mark
	total int
	came  []byte
}

// NewInbox: an inbox to which nothing came.
func NewInbox() *Inbox { return &Inbox{} }

// Put: a piece came; which byte it wants next, and the text, if it is whole.
func (x *Inbox) Put(m api.Message) (want int, text string, whole bool) {
	if x == nil || m.Total < 0 || m.Total > api.MaxSnap || m.At < 0 || m.Index < 1 {
		return 0, "", false
	}
	mark := api.Mark{Index: m.Index, Term: m.LogTerm}
	if mark != x.mark || m.Total != x.total {
		*x = Inbox{mark: mark, total: m.Total}
	}
	if m.At == len(x.came) && len(m.Data) <= x.total-len(x.came) {
		x.came = append(x.came, m.Data...)
	}
	if len(x.came) < x.total {
		return len(x.came), "", false
	}
	return x.total, string(x.came), true
}
