package wal

import (
	"cmp"
	"slices"

	"dragoman/api"
	"dragoman/disk"
)

// found is a file as it was when the disk was opened.
type found struct {
	file int
	text string
}

// Open: the log that a disk has.
func Open(d *disk.Disk) (*Log, api.Errno) {
	if d == nil {
		return nil, api.ErrNil
	}
	files, e := find(d)
	if e != api.OK {
		return nil, e
	}
	segments, e := mend(d, files)
	if e != api.OK {
		return nil, e
	}
	slices.SortFunc(segments, func(a, b segment) int { return cmp.Compare(a.number, b.number) })
	n := run(segments)
	for _, s := range slices.Backward(segments[n:]) {
		if e := s.remove(d); e != api.OK {
			return nil, e
		}
	}
	l := &Log{disk: d, first: 1, segments: segments[:n]}
	if n > 0 {
		l.first = segments[0].first()
	}
	return l, api.OK
}

// find: the log's files, rising. All are read ahead of the first step: so what is answered hangs on the steps alone, not on where the power goes between them.
func find(d *disk.Disk) ([]found, api.Errno) {
	if !d.On() {
		return nil, api.ErrOff
	}
	var l []found
	for _, f := range d.Files() {
		if f < api.FirstSegment {
			continue
		}
		text, e := d.Read(f)
		if e != api.OK {
			return nil, e
		}
		l = append(l, found{file: f, text: text})
	}
	return l, api.OK
}

// mend: the segments whose files these are; of the files only what is whole stays.
func mend(d *disk.Disk, files []found) ([]segment, api.Errno) {
	var l []segment
	for _, x := range files {
		e := api.OK
		if s, ok := read(x.file, x.text); !ok {
			e = remove(d, x.file)
		} else {
			l = append(l, s)
			if s.size < len(x.text) {
				e = cut(d, x.file, s.size)
			}
		}
		if e != api.OK {
			return nil, e
		}
	}
	return l, api.OK
}

// run: how many segments, from the first one on, follow one another without a gap.
func run(l []segment) int {
	for i := 1; i < len(l); i++ {
		if ahead := l[i-1]; !ahead.full() || l[i].number != ahead.number+1 {
			return i
		}
	}
	return len(l)
}
