package server

import (
	"campanile/api"
	"campanile/short"
)

// quickLength is how many bytes one frame tells beside a place.
const quickLength = 4

// read tells a value, if one frame does, or begins to.
func (s *Server) read(c short.Cmd) []api.Frame {
	t := s.beginRead(c.Place)
	if n := len(t.bytes); n < 1 || n > quickLength {
		t.waits = short.More
		return s.say(short.Cmd{Kind: short.Read, Place: c.Place, Sized: true, Size: uint32(n)})
	}
	s.transfer = nil
	return s.say(short.Cmd{Kind: short.Read, Place: c.Place, Quick: true, Sized: true, Data: t.bytes})
}

// beginRead begins a read of the value as it is now, if it may begin.
func (s *Server) beginRead(p api.Place) *transfer {
	t := &transfer{place: p}
	s.transfer = t
	b, code := s.dict.Read(p)
	heed(code)
	t.bytes = b
	return t
}

// tellMore tells the next bytes of a read in segments; those that are left stay in the transfer.
func (s *Server) tellMore(c short.Cmd) []api.Frame {
	t := s.transfer
	must(c.Toggle == t.toggle, api.AbToggle)
	n := min(segmentLength, len(t.bytes))
	part := t.bytes[:n]
	t.bytes = t.bytes[n:]
	t.toggle = !t.toggle
	last := len(t.bytes) == 0
	if last {
		s.transfer = nil
	}
	return s.say(short.Cmd{Kind: short.More, Toggle: c.Toggle, Last: last, Data: part})
}
