package hub

import (
	"sync"
	"sync/atomic"

	"dragoman/api"
)

// Spread: dialogues and watchers, all at the same time: what each watcher was told.
func Spread(talks [][]api.Happen, watchers []api.Watcher) ([][]api.Happen, api.Errno) {
	if e := mayBe(talks, watchers); e != api.OK {
		return nil, e
	}
	h := New()
	told := make([][]api.Happen, len(watchers))
	var all sync.WaitGroup
	all.Add(len(watchers) + len(talks))
	// The dialogues begin when the last watcher is there: so all of them are watched while they go on.
	var missing atomic.Int64
	missing.Store(int64(len(watchers)))
	begin := make(chan struct{})
	if len(watchers) == 0 {
		close(begin)
	}
	for i, x := range watchers {
		go func() {
			defer all.Done()
			if missing.Add(-1) == 0 {
				close(begin)
			}
			w := &Watch{dialogue: &h.dialogues[x.Talk], at: x.From}
			told[i] = w.follow()
		}()
	}
	for talk, l := range talks {
		go func() {
			defer all.Done()
			<-begin
			h.goThrough(talk, l)
		}()
	}
	all.Wait()
	return told, api.OK
}

// mayBe: why these can't be dialogues and those who watch them, if so.
func mayBe(talks [][]api.Happen, watchers []api.Watcher) api.Errno {
	if len(talks) > api.MaxTalks || len(watchers) > api.MaxWatches {
		return api.ErrLong
	}
	for _, l := range talks {
		if len(l) > api.MaxWatched {
			return api.ErrFull
		}
	}
	for _, x := range watchers {
		if x.Talk < 0 || x.Talk >= len(talks) {
			return api.ErrArg
		}
		if x.From < 0 || x.From > len(talks[x.Talk]) {
			return api.ErrRange
		}
	}
	return api.OK
}

// goThrough: a dialogue happens, and is closed.
func (h *Hub) goThrough(talk int, l []api.Happen) {
	for _, x := range l {
		h.Add(talk, x)
	}
	h.Close(talk)
}

// follow: all that happens from its place on, till the dialogue is closed.
func (w *Watch) follow() []api.Happen {
	var told []api.Happen
	for {
		grown := w.growth()
		l, more := w.Next(api.MaxWatched)
		told = append(told, l...)
		if !more {
			return told
		}
		// Which of both it is makes no difference: what there is then is asked for anew.
		select {
		case <-grown:
		case <-w.dialogue.over:
		}
	}
}

// growth: what is closed when more happens than has happened by now.
func (w *Watch) growth() <-chan struct{} {
	w.dialogue.mutex.Lock()
	defer w.dialogue.mutex.Unlock()
	return w.dialogue.grown
}
