package wire

import "hushhouse/api"

// left is bytes off which the first ones are taken, as new memory: those of a message, or of a stream.
type left struct{ bytes []byte }

// has tells whether there are n bytes.
func (l *left) has(n uint64) bool { return n <= uint64(len(l.bytes)) }

// take takes n bytes off, if there are so many.
func (l *left) take(n uint64) (string, bool) {
	if !l.has(n) {
		return "", false
	}
	s := string(l.bytes[:n])
	l.bytes = l.bytes[n:]
	return s, true
}

// reader reads what a writer may have written; it is bad from the first thing on that no writer writes.
type reader struct {
	left
	bad bool
}

// must makes the reader bad, if something isn't so: whether it is so.
func (r *reader) must(so bool) bool {
	r.bad = r.bad || !so
	return so
}

func (r *reader) next() byte {
	s, so := r.take(1)
	if !r.must(so) {
		return 0
	}
	return s[0]
}

// count reads no count of more bytes than it takes, and none from 2^64 on: of that the last bit alone is in the last byte there may be.
func (r *reader) count() uint64 {
	n := uint64(0)
	for shift := 0; ; shift += seven {
		b := r.next()
		if !r.must(shift == 0 || b > 0) || !r.must(shift < 63 || b == 1) {
			return 0
		}
		n |= uint64(b%more) << shift
		if b < more {
			return n
		}
	}
}

func (r *reader) number() int {
	n := r.count()
	if n%2 == 1 {
		return -int(n/2) - 1
	}
	return int(n / 2)
}

func (r *reader) text() string {
	s, so := r.take(r.count())
	r.must(so)
	return s
}

func (r *reader) ratio() api.Ratio {
	up := r.number()
	return api.Ratio{Up: up, Down: r.number()}
}

// values takes memory for no more values than there are bytes, since each has one at least.
func (r *reader) values() []int {
	n := r.count()
	if !r.must(r.has(n)) {
		return nil
	}
	out := make([]int, n)
	for i := range out {
		out[i] = r.number()
	}
	return out
}

func (r *reader) message() api.Message {
	m := api.Message{Kind: int(r.next())}
	m.Session = r.text()
	m.Number = r.number()
	switch m.Kind {
	case api.MessageAsk:
		m.Purse = r.text()
		m.Text = r.text()
		m.R = r.ratio()
		m.Low = r.number()
		m.High = r.number()
	case api.MessageReply:
		m.Err = api.Errno(r.number())
		m.Values = r.values()
		m.Lost = r.ratio()
	default:
		r.bad = true
	}
	return m
}
