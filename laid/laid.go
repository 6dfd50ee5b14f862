// Package laid: what several layers need of records that lie on a disk.
package laid

import "hushhouse/api"

// InWord: bytes of a word.
const InWord = 8

// What a record's head, its first word, says.
const (
	Begun = 0
	Whole = 1
)

// Words are bytes, eight to a word, the first one the highest, noughts behind them.
func Words(b string) []int64 {
	out := make([]int64, (len(b)+InWord-1)/InWord)
	for i := range len(b) {
		out[i/InWord] |= int64(b[i]) << above(i)
	}
	return out
}

// Bytes are all bytes of words, the noughts behind them, too.
func Bytes(words []int64) string {
	out := make([]byte, InWord*len(words))
	for i := range out {
		out[i] = byte(words[i/InWord] >> above(i))
	}
	return string(out)
}

// above is how many bits of its word are below a byte.
func above(i int) int { return 8 * (InWord - 1 - i%InWord) }

// Put lays a record from a disk's word on; false, if the power went. The head says that it is whole only when all else lies there: so what lies there by halves never counts.
func Put(d api.Disk, at int, record []int64) bool {
	put := func(i int, w int64) bool { return d.Put(at+i, w) }
	if !put(0, Begun) {
		return false
	}
	for i := 1; i < len(record); i++ {
		if !put(i, record[i]) {
			return false
		}
	}
	return put(0, Whole)
}
