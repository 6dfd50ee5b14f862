package wire

import "hushhouse/api"

// heading is how many bytes say how long a frame is.
const heading = 4

// sendable tells whether a frame may have so many bytes.
func sendable(n uint64) bool { return n > 0 && n <= api.MaxFrame }

// head says how long a frame is.
func head(n int) string {
	return string([]byte{byte(n >> 24), byte(n >> 16), byte(n >> 8), byte(n)})
}

// said is how long a frame is by its head.
func said(head string) uint64 {
	n := uint64(0)
	for i := range len(head) {
		n = n<<8 | uint64(head[i])
	}
	return n
}

// begin takes a head off, if no frame has begun: whether one has now. A head that can't be one breaks the stream.
func (s *Stream) begin() bool {
	if s.due > 0 {
		return true
	}
	head, whole := s.take(heading)
	if !whole {
		return false
	}
	s.due = said(head)
	s.broken = !sendable(s.due)
	return !s.broken
}

// settle lets go of the memory of frames that were taken off, which else would stay as long as the stream.
func (s *Stream) settle(frames int) {
	if frames > 0 {
		s.bytes = append([]byte(nil), s.bytes...)
	}
}
