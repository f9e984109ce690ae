package server

import (
	"slices"

	"campanile/api"
	"campanile/short"
	"campanile/types"
)

// write begins a write, or does it, if all of it is there.
func (s *Server) write(c short.Cmd) []api.Frame {
	if c.Quick {
		s.writeAtOnce(c)
	} else {
		s.beginWrite(c).waits = short.Part
	}
	return s.say(short.Cmd{Kind: short.Write, Place: c.Place})
}

// writeAtOnce does a write in one frame; it is under way till then, so that a stop tells its place.
func (s *Server) writeAtOnce(c short.Cmd) {
	s.transfer = &transfer{place: c.Place}
	e, code := s.dict.Find(c.Place)
	heed(code)
	b := c.Data
	if size, sized := types.Size(e.Type); sized && !c.Sized && size < len(b) {
		b = b[:size]
	}
	s.commit(b)
}

// beginWrite begins a write of bytes that are to come, if it may begin.
func (s *Server) beginWrite(c short.Cmd) *transfer {
	t := &transfer{place: c.Place}
	s.transfer = t
	e, code := s.dict.Find(c.Place)
	heed(code)
	must(e.Rights&api.RWrite != 0, api.AbReadOnly)
	must(c.Size <= api.MaxValue, api.AbMemory)
	t.sized, t.size = c.Sized, int(c.Size)
	return t
}

// takePart takes the next bytes of a write in segments.
func (s *Server) takePart(c short.Cmd) []api.Frame {
	t := s.transfer
	must(c.Toggle == t.toggle, api.AbToggle)
	t.bytes = append(t.bytes, c.Data...)
	t.mustFit()
	if c.Last {
		t.mustBeWhole()
		s.commit(t.bytes)
	}
	t.toggle = !t.toggle
	return s.say(short.Cmd{Kind: short.Part, Toggle: c.Toggle})
}

// commit writes all bytes of the transfer at once, and ends it. The hook has a copy: what it does to that is not written.
func (s *Server) commit(b []byte) {
	p := s.transfer.place
	tag, code := s.dict.May(p, b)
	heed(code)
	if tag != 0 && s.hook != nil {
		heed(s.hook.Asked(tag, p, slices.Clone(b)))
	}
	heed(s.dict.Write(p, b))
	s.transfer = nil
}
