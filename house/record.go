package house

import "hushhouse/api"

// record is an entry as it lies on a disk.
type record [api.MaxRecord]int64

// The places of a record's words.
const (
	atHead = iota
	atDo
	atPart
	atUp
	atDown
	atName
)

// What a head says.
const (
	headBegun = 0
	headWhole = 1
)

// inWord: bytes of a name.
const inWord = 8

// recordOf is the record of an entry whose name fits into it.
func recordOf(e api.Entry) record {
	r := record{atHead: headWhole, atDo: int64(e.Do), atPart: int64(e.Part), atUp: int64(e.Loss.Up), atDown: int64(e.Loss.Down)}
	for i := range len(e.Name) {
		r[atName+i/inWord] |= int64(e.Name[i]) << highestFirst(i)
	}
	return r
}

// highestFirst is how far a name's byte is above the lowest one of its word.
func highestFirst(i int) int { return 8 * (inWord - 1 - i%inWord) }

// entry is what a record says; false, if its words are not those of that. (A Part that says nothing may be any number: the book leaves it out.)
func (r record) entry() (api.Entry, bool) {
	e := api.Entry{Do: int(r[atDo]), Name: r.name(), Part: int(r[atPart]), Loss: api.Ratio{Up: int(r[atUp]), Down: int(r[atDown])}}
	return e, r == recordOf(e)
}

// name is all bytes that are not nought, wherever they stand: that none stand behind a nought is seen when they are laid again.
func (r record) name() string {
	var out []byte
	for i := range inWord * (api.MaxRecord - atName) {
		if b := byte(r[atName+i/inWord] >> highestFirst(i)); b != 0 {
			out = append(out, b)
		}
	}
	return string(out)
}

// room tells whether one more record fits on the disk.
func (h *House) room() bool { return (h.records+1)*api.MaxRecord <= h.disk.Size() }

// start is the disk's word from which on the next record lies.
func (h *House) start() int { return h.records * api.MaxRecord }

// remember does what the disk's records say, up to the first one that doesn't count. A book takes no more than MaxEntries, so it ends.
func (h *House) remember() {
	for h.room() {
		e, ok := h.read().entry()
		if !ok || h.book.Do(e) != api.OK {
			return
		}
		h.records++
	}
}

// read is what lies on the disk as the next record.
func (h *House) read() record {
	var r record
	for i := range r {
		r[i] = h.disk.Get(h.start() + i)
	}
	return r
}

// write lays the next record; false, if the power went. The head says that it is whole only when all else lies there: so what lies there by halves never counts.
func (h *House) write(r record) bool {
	put := func(i int, w int64) bool { return h.disk.Put(h.start()+i, w) }
	if !put(atHead, headBegun) {
		return false
	}
	for i := atDo; i < api.MaxRecord; i++ {
		if !put(i, r[i]) {
			return false
		}
	}
	return put(atHead, headWhole)
}

// noWords is the disk of a house that was given none.
type noWords struct{}

func (noWords) Size() int           { return 0 }
func (noWords) Get(int) int64       { return 0 }
func (noWords) Put(int, int64) bool { return false }
