package house

import (
	"strings"

	"hushhouse/api"
	"hushhouse/laid"
)

// record is an entry as it lies on a disk.
type record [api.MaxRecord]int64

// The places of a record's words.
const (
	atHead = iota
	atDo
	atPart
	atUp
	atDown
	atName
)

// recordOf is the record of an entry whose name fits into it.
func recordOf(e api.Entry) record {
	r := record{atHead: laid.Whole, atDo: int64(e.Do), atPart: int64(e.Part), atUp: int64(e.Loss.Up), atDown: int64(e.Loss.Down)}
	copy(r[atName:], laid.Words(e.Name))
	return r
}

// entry is what a record says; false, if its words are not those of that. (A Part that says nothing may be any number: the book leaves it out.)
func (r record) entry() (api.Entry, bool) {
	e := api.Entry{Do: int(r[atDo]), Name: r.name(), Part: int(r[atPart]), Loss: api.Ratio{Up: int(r[atUp]), Down: int(r[atDown])}}
	return e, r == recordOf(e)
}

// name is all bytes that are not nought, wherever they stand: that none stand behind a nought is seen when they are laid again.
func (r record) name() string { return strings.ReplaceAll(laid.Bytes(r[atName:]), "\x00", "") }

// room tells whether one more record fits on the disk.
func (h *House) room() bool { return (h.records+1)*api.MaxRecord <= h.disk.Size() }

// start is the disk's word from which on the next record lies.
func (h *House) start() int { return h.records * api.MaxRecord }

// remember does what the disk's records say, up to the first one that doesn't count. A book takes no more than MaxEntries, so it ends.
func (h *House) remember() {
	for h.room() {
		e, ok := h.read().entry()
		if !ok || h.book.Do(e) != api.OK {
			return
		}
		h.records++
	}
}

// read is what lies on the disk as the next record.
func (h *House) read() record {
	var r record
	for i := range r {
		r[i] = h.disk.Get(h.start() + i)
	}
	return r
}

// write lays the next record; false, if the power went.
func (h *House) write(r record) bool { return laid.Put(h.disk, h.start(), r[:]) }

// noWords is the disk of a house that was given none.
type noWords struct{}

func (noWords) Size() int           { return 0 }
func (noWords) Get(int) int64       { return 0 }
func (noWords) Put(int, int64) bool { return false }
