package wire_test

import (
	"math/big"
	"math/rand"
	"slices"
	"strings"
	"testing"

	"hushhouse/api"
	"hushhouse/wire"
)

// slowCount is a count in bytes, by division.
func slowCount(n *big.Int) string {
	var out []byte
	rest := new(big.Int).Set(n)
	for {
		digit := new(big.Int)
		rest.DivMod(rest, big.NewInt(128), digit)
		out = append(out, byte(digit.Int64()))
		if rest.Sign() == 0 {
			break
		}
	}
	for i := range len(out) - 1 {
		out[i] += 128
	}
	return string(out)
}

func slowNumber(n int) string {
	x := new(big.Int).Mul(big.NewInt(2), big.NewInt(int64(n)))
	if n < 0 {
		x.Neg(x).Sub(x, big.NewInt(1))
	}
	return slowCount(x)
}

func slowText(s string) string { return slowCount(big.NewInt(int64(len(s)))) + s }

// slow is a message in bytes, piece by piece.
func slow(m api.Message) string {
	l := []string{string([]byte{byte(m.Kind)}), slowText(m.Session), slowNumber(m.Number)}
	if m.Kind == api.MessageAsk {
		l = append(l, slowText(m.Purse), slowText(m.Text), slowNumber(m.R.Up), slowNumber(m.R.Down), slowNumber(m.Low), slowNumber(m.High))
		return strings.Join(l, "")
	}
	l = append(l, slowNumber(int(m.Err)), slowCount(big.NewInt(int64(len(m.Values)))))
	for _, v := range m.Values {
		l = append(l, slowNumber(v))
	}
	return strings.Join(append(l, slowNumber(m.Lost.Up), slowNumber(m.Lost.Down)), "")
}

// anyNumber has any count of bits, and often one of the edges.
func anyNumber(r *rand.Rand) int {
	n := int(r.Uint64() >> r.Intn(64))
	switch r.Intn(4) {
	case 0:
		n = 1<<r.Intn(64) - 1 + r.Intn(3)
	case 1:
		n = 0
	}
	if r.Intn(2) == 0 {
		n = -n
	}
	return n
}

func anyText(r *rand.Rand) string {
	b := make([]byte, []int{0, 1, r.Intn(10), r.Intn(300)}[r.Intn(4)])
	r.Read(b)
	return string(b)
}

func anyMessage(r *rand.Rand) api.Message {
	m := api.Message{Kind: 1 + r.Intn(2), Session: anyText(r), Number: anyNumber(r)}
	if m.Kind == api.MessageAsk {
		m.Purse, m.Text, m.R, m.Low, m.High = anyText(r), anyText(r), f(anyNumber(r), anyNumber(r)), anyNumber(r), anyNumber(r)
		return m
	}
	m.Err, m.Lost = api.Errno(anyNumber(r)), f(anyNumber(r), anyNumber(r))
	for range []int{0, 1, r.Intn(8), r.Intn(300)}[r.Intn(4)] {
		m.Values = append(m.Values, anyNumber(r))
	}
	return m
}

func TestAnyMessages(t *testing.T) {
	r := rand.New(rand.NewSource(16))
	for range 20000 {
		m := anyMessage(r)
		hold(t, m, slow(m))
		if t.Failed() {
			return
		}
	}
}

// holdRight: bytes are unpacked just if they are what a message is packed as; no two messages are one.
func holdRight(t *testing.T, b string) bool {
	t.Helper()
	m, err := wire.Unpack(b)
	if err != api.OK {
		holdBad(t, b, api.ErrForm)
		return false
	}
	if slow(m) != b {
		t.Errorf("Unpack of %x is %v, which is %x", b, m, slow(m))
	}
	return true
}

// TestChangedMessages: bytes that are changed a little are told, or are another message.
func TestChangedMessages(t *testing.T) {
	r := rand.New(rand.NewSource(17))
	right := 0
	for range 60000 {
		b := []byte(slow(anyMessage(r)))
		b = b[:min(len(b), 60+r.Intn(40))]
		for range 1 + r.Intn(2) {
			at := r.Intn(len(b))
			switch r.Intn(4) {
			case 0:
				b[at] = byte(r.Intn(256))
			case 1:
				b[at] ^= 0x80
			case 2:
				b = slices.Insert(b, at, []byte{0, 0x80, 0xff, 1}[r.Intn(4)])
			default:
				b = append(slices.Delete(b, at, at+1), 0)
			}
		}
		if holdRight(t, string(b)) {
			right++
		}
		if t.Failed() {
			return
		}
	}
	if right < 1000 {
		t.Errorf("%d of the changed ones are messages", right)
	}
}

// counts are all counts, of a few bytes of an alphabet, as the document says: bytes with the highest bit, one without it, which is 0 only if it is alone.
func counts(alphabet string, most int) []string {
	out, ahead := []string{}, []string{""}
	for range most {
		var longer []string
		for _, a := range ahead {
			for i := range len(alphabet) {
				b := alphabet[i : i+1]
				if b[0] >= 128 {
					longer = append(longer, a+b)
				} else if b[0] > 0 || a == "" {
					out = append(out, a+b)
				}
			}
		}
		ahead = longer
	}
	return out
}

// joined are all texts of one behind another, of at most so many bytes.
func joined(most int, l ...[]string) []string {
	out := []string{""}
	for _, next := range l {
		var longer []string
		for _, a := range out {
			for _, b := range next {
				if len(a)+len(b) <= most {
					longer = append(longer, a+b)
				}
			}
		}
		out = longer
	}
	return out
}

// every is all texts of so many bytes of an alphabet.
func every(alphabet string, n int) []string {
	out := []string{""}
	for range n {
		var longer []string
		for _, a := range out {
			for i := range len(alphabet) {
				longer = append(longer, a+alphabet[i:i+1])
			}
		}
		out = longer
	}
	return out
}

// TestAllReplies: of all bytes of an alphabet, just those are replies that the document's rule makes.
func TestAllReplies(t *testing.T) {
	const alphabet, long = "\x00\x01\x02\x80\x81", 9
	number := counts(alphabet, 3)
	var texts, values []string
	for n := range 3 {
		count := "\x00\x01\x02"[n : n+1]
		for _, s := range every(alphabet, n) {
			texts = append(texts, count+s)
		}
		for _, l := range joined(long, slices.Repeat([][]string{number}, n)...) {
			values = append(values, count+l)
		}
	}
	want := map[string]int{}
	for _, s := range joined(long, []string{"\x02"}, texts, number, number, values, number, number) {
		want[s]++
	}
	seen := 0
	for n := 6; n <= long; n++ {
		for _, b := range every(alphabet, n-1) {
			b = "\x02" + b
			if got := holdRight(t, b); got != (want[b] == 1) {
				t.Fatalf("%x: %v", b, got)
			} else if got {
				seen++
			}
		}
	}
	if seen != len(want) || seen == 0 {
		t.Errorf("%d are replies, not %d", seen, len(want))
	}
}

// slowStream has all bytes that ever came, and cuts them from the first one on.
type slowStream struct {
	all    string
	told   int
	broken bool
}

func (s *slowStream) feed(b string) ([]string, api.Errno) {
	if s.broken {
		return nil, api.ErrState
	}
	s.all += b
	var frames []string
	rest, err := s.all, api.OK
	for len(rest) >= 4 {
		n := 0
		for _, c := range []byte(rest[:4]) {
			n = 256*n + int(c)
		}
		if n == 0 || n > 65536 {
			s.broken, err = true, api.ErrForm
			break
		}
		if len(rest) < 4+n {
			break
		}
		frames = append(frames, rest[4:4+n])
		rest = rest[4+n:]
	}
	now := frames[s.told:]
	s.told = len(frames)
	return now, err
}

// TestAnyCrumbs: frames, whole and in crumbs, some of them broken, are told as the slow one does.
func TestAnyCrumbs(t *testing.T) {
	r := rand.New(rand.NewSource(18))
	for range 3000 {
		var all string
		for range r.Intn(8) {
			framed, _ := wire.Frame("f" + anyText(r))
			all += framed
			if r.Intn(12) == 0 {
				all += []string{"\x00\x00\x00\x00", "\x00\x01\x00\x01", "\x80\x00\x00\x01", "\x00"}[r.Intn(4)]
			}
		}
		s, other := wire.NewStream(), &slowStream{}
		size := 1 + r.Intn(100)
		for len(all) > 0 {
			n := min(r.Intn(size+1), len(all))
			got, err := s.Feed(all[:n])
			want, wanted := other.feed(all[:n])
			if !slices.Equal(got, want) || err != wanted {
				t.Fatalf("%x is told as %q, %v, not %q, %v", all[:n], got, err, want, wanted)
			}
			all = all[n:]
		}
	}
}

// TestThereAndBack: messages that are packed, framed, sent in crumbs, taken out and unpacked are what they were.
func TestThereAndBack(t *testing.T) {
	r := rand.New(rand.NewSource(19))
	var sent []api.Message
	var all strings.Builder
	for range 300 {
		m := anyMessage(r)
		b, _ := wire.Pack(m)
		framed, _ := wire.Frame(b)
		sent = append(sent, m)
		all.WriteString(framed)
	}
	s := wire.NewStream()
	for rest := all.String(); rest != ""; {
		n := min(1+r.Intn(700), len(rest))
		frames, err := s.Feed(rest[:n])
		if err != api.OK {
			t.Fatalf("Feed is %v", err)
		}
		for _, b := range frames {
			if got, err := wire.Unpack(b); !equal(got, sent[0]) || err != api.OK {
				t.Fatalf("%v comes, %v, not %v", got, err, sent[0])
			}
			sent = sent[1:]
		}
		rest = rest[n:]
	}
	if len(sent) > 0 {
		t.Errorf("%d are missing", len(sent))
	}
}
