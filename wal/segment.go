package wal

import (
	"strings"

	"dragoman/api"
	"dragoman/disk"
	"dragoman/frame"
	"dragoman/wire"
)

// The words with which the payloads of a segment's file begin.
const (
	headWord   = "segment"
	recordWord = "record"
)

// frameMore is how many bytes a frame has beside its payload.
const frameMore = 12

// record is a record, and where its frame begins in its segment's file.
type record struct {
	text string
	at   int
}

// segment is the records of one file.
type segment struct {
	number  int
	records []record
	size    int  // bytes of its file
	fresh   bool // whether something was put to its file that was not synced
}

func (s *segment) file() int { return api.FirstSegment + s.number%api.Segments }

func (s *segment) first() int { return api.MaxSegment*s.number + 1 }

func (s *segment) last() int { return s.first() + len(s.records) - 1 }

func (s *segment) full() bool { return len(s.records) >= api.MaxSegment }

// begin: the head is put to the file.
func (s *segment) begin(d *disk.Disk) api.Errno {
	return s.put(d, headWord+wire.U64(uint64(s.number)))
}

// add: a record is put behind the others.
func (s *segment) add(d *disk.Disk, text string) api.Errno {
	at := s.size
	e := s.put(d, recordWord+wire.U64(uint64(s.last()+1))+text)
	if e == api.OK {
		s.records = append(s.records, record{text: text, at: at})
	}
	return e
}

// put: a payload's frame is put behind the file.
func (s *segment) put(d *disk.Disk, payload string) api.Errno {
	text, e := frame.Put(payload)
	if e == api.OK {
		e = d.Append(s.file(), text)
	}
	if e != api.OK {
		return e
	}
	s.size += len(text)
	s.fresh = true
	return api.OK
}

// sync: what was put to the file is sure; no step, if nothing was.
func (s *segment) sync(d *disk.Disk) api.Errno {
	if !s.fresh {
		return api.OK
	}
	e := d.Sync(s.file())
	s.fresh = e != api.OK
	return e
}

// cut: the records from an index on are gone.
func (s *segment) cut(d *disk.Disk, from int) api.Errno {
	n := from - s.first()
	size := s.records[n].at
	if e := cut(d, s.file(), size); e != api.OK {
		return e
	}
	// Without room behind the end: who still goes over these records must not see those that come in their place.
	s.records = s.records[:n:n]
	s.size = size
	s.fresh = false
	return api.OK
}

// remove: the file is gone.
func (s *segment) remove(d *disk.Disk) api.Errno { return remove(d, s.file()) }

// read: the segment whose file this is, as far as it is whole; ok: it is one's.
func read(file int, text string) (s segment, ok bool) {
	for at, payload := range frame.All(text) {
		if at == 0 {
			s.number, ok = readHead(payload)
			if !ok || s.file() != file {
				return segment{}, false
			}
		} else {
			rec, next := readRecord(payload, s.last()+1)
			if !next || s.full() {
				break
			}
			s.records = append(s.records, record{text: rec, at: at})
		}
		s.size = at + len(payload) + frameMore
	}
	return s, ok
}

// readHead: the number of the segment whose head a payload is.
func readHead(payload string) (number int, ok bool) {
	rest, ok := strings.CutPrefix(payload, headWord)
	r := wire.New(rest)
	n := r.U64()
	if !ok || r.End().Err != api.OK || n > api.MaxIndex {
		return 0, false
	}
	return int(n), true
}

// readRecord: the record of an index whose payload it is.
func readRecord(payload string, index int) (rec string, ok bool) {
	rest, ok := strings.CutPrefix(payload, recordWord)
	r := wire.New(rest)
	n := r.U64()
	if !ok || r.Fault().Err != api.OK || n != uint64(index) {
		return "", false
	}
	return r.Rest(), true
}

// remove: a file is gone, for sure.
func remove(d *disk.Disk, file int) api.Errno {
	if e := d.Remove(file); e != api.OK {
		return e
	}
	return d.Sync(file)
}

// cut: a file is cut, for sure.
func cut(d *disk.Disk, file, size int) api.Errno {
	if e := d.Cut(file, size); e != api.OK {
		return e
	}
	return d.Sync(file)
}
