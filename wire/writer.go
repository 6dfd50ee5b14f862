package wire

import "hushhouse/api"

// more is the bit of a count's byte that says that more come; below it are seven bits of the count.
const (
	more  = 1 << seven
	seven = 7
)

// formed tells whether a message has a kind, and nothing in the fields that its kind does not have.
func formed(m api.Message) bool {
	var none api.Ratio
	switch m.Kind {
	case api.MessageAsk:
		return m.Err == api.OK && len(m.Values) == 0 && m.Lost == none
	case api.MessageReply:
		return m.Purse == "" && m.Text == "" && m.R == none && m.Low == 0 && m.High == 0
	}
	return false
}

// writer is the bytes of a message so far; over, if there would be more than MaxFrame: so no message, however long, takes more memory than that.
type writer struct {
	bytes []byte
	over  bool
}

// fit tells whether n bytes may come behind the others.
func (w *writer) fit(n int) bool {
	w.over = w.over || n > api.MaxFrame-len(w.bytes)
	return !w.over
}

func (w *writer) put(b byte) {
	if w.fit(1) {
		w.bytes = append(w.bytes, b)
	}
}

func (w *writer) count(n uint64) {
	for ; n >= more; n >>= seven {
		w.put(byte(n) | more)
	}
	w.put(byte(n))
}

// number turns round n + 1, not n, where it is below 0: of the least int there is no other sign.
func (w *writer) number(n int) {
	if n < 0 {
		w.count(2*uint64(-(n+1)) + 1)
		return
	}
	w.count(2 * uint64(n))
}

func (w *writer) text(s string) {
	w.count(uint64(len(s)))
	if w.fit(len(s)) {
		w.bytes = append(w.bytes, s...)
	}
}

func (w *writer) ratio(r api.Ratio) {
	w.number(r.Up)
	w.number(r.Down)
}

func (w *writer) values(l []int) {
	w.count(uint64(len(l)))
	for _, v := range l {
		w.number(v)
	}
}

func (w *writer) message(m api.Message) {
	w.put(byte(m.Kind))
	w.text(m.Session)
	w.number(m.Number)
	if m.Kind == api.MessageAsk {
		w.text(m.Purse)
		w.text(m.Text)
		w.ratio(m.R)
		w.number(m.Low)
		w.number(m.High)
		return
	}
	w.number(int(m.Err))
	w.values(m.Values)
	w.ratio(m.Lost)
}
