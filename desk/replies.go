package desk

import (
	"slices"
	"strings"

	"hushhouse/api"
	"hushhouse/laid"
	"hushhouse/runs"
	"hushhouse/wire"
)

// part is words of a disk, as a disk of its own.
type part struct {
	api.Disk
	from, size int
}

func (p part) Size() int               { return p.size }
func (p part) Get(i int) int64         { return p.Disk.Get(p.from + i) }
func (p part) Put(i int, w int64) bool { return p.Disk.Put(p.from+i, w) }

// halves are a disk's first half, and the other one, which has the word more. Of no disk they have no words, so that it is never asked for any.
func halves(disk api.Disk) (part, part) {
	n := 0
	if disk != nil {
		n = disk.Size()
	}
	return part{Disk: disk, size: n / 2}, part{Disk: disk, from: n / 2, size: n - n/2}
}

// reply is the last one of a session: packed, so that whoever is told it gets memory of their own each time.
type reply struct {
	number int
	packed string
}

// replies lie on a part of a disk, one behind the other.
type replies struct {
	part
	end  int // the word behind them
	last map[string]reply
}

// The places of a record's words.
const (
	atHead = iota
	atCount
	atBytes
)

// maxBytes: of a reply on a disk.
const maxBytes = laid.InWord * (api.MaxReply - atBytes)

// recordOf is a reply as it lies on a disk.
func recordOf(packed string) []int64 {
	return append([]int64{laid.Whole, int64(len(packed))}, laid.Words(packed)...)
}

// left is how many words are behind the replies.
func (r *replies) left() int { return r.Size() - r.end }

// room tells whether one more reply fits, whatever it will be.
func (r *replies) room() bool { return r.left() >= api.MaxReply }

// remember takes up what lies there, up to the first record that doesn't count.
func (r *replies) remember() {
	for {
		packed, ok := r.read()
		if !ok {
			return
		}
		m, err := wire.Unpack(packed)
		if err != api.OK || m.Kind != api.MessageReply || !runs.Name(m.Session) || m.Number != r.last[m.Session].number+1 {
			return
		}
		r.keep(m, packed)
	}
}

// read is the bytes of the record behind the replies; false, if its words are not those of such bytes, whatever they say.
func (r *replies) read() (string, bool) {
	if r.left() < atBytes {
		return "", false
	}
	count := r.Get(r.end + atCount)
	if count < 1 || count > maxBytes {
		return "", false
	}
	words := atBytes + (int(count)+laid.InWord-1)/laid.InWord
	if words > r.left() {
		return "", false
	}
	record := make([]int64, words)
	for i := range words {
		record[i] = r.Get(r.end + i)
	}
	packed := laid.Bytes(record[atBytes:])[:count]
	return packed, slices.Equal(record, recordOf(packed))
}

// lay puts a reply behind the others: it, packed, or ErrPower.
func (r *replies) lay(m api.Message) (string, api.Errno) {
	packed, _ := wire.Pack(m) // of no more than MaxPlaces places there is nothing too long
	if !laid.Put(r, r.end, recordOf(packed)) {
		return "", api.ErrPower
	}
	r.keep(m, packed)
	return packed, api.OK
}

// keep remembers a reply that lies behind the others: of each session the last one is enough. The name is a copy, since a message's may be a piece of a long text.
func (r *replies) keep(m api.Message, packed string) {
	r.last[strings.Clone(m.Session)] = reply{m.Number, packed}
	r.end += len(recordOf(packed))
}
