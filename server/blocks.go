package server

import (
	"campanile/api"
	"campanile/short"
)

// put begins a write in blocks.
func (s *Server) put(c short.Cmd) []api.Frame {
	t := s.beginWrite(c)
	t.check, t.waits, t.next = c.Check, segments, 1
	return s.say(short.Cmd{Kind: short.Put, Place: c.Place, Check: c.Check, Block: api.MaxBlock})
}

// takeSegment takes a segment of a write in blocks, if it is its turn. (The number 0 is told as an error, with nothing beside: it is nobody's turn.)
func (s *Server) takeSegment(b [8]byte) []api.Frame {
	t := s.transfer
	seq, last, data, _ := short.Segmented(b)
	inTurn := seq == t.next
	if inTurn {
		t.bytes = append(t.bytes, data...)
		t.next++
		// How many of the last seven are no data is not known yet.
		must(len(t.bytes) <= api.MaxValue+segmentLength, api.AbMemory)
	}
	if !last && seq != api.MaxBlock {
		return nil
	}
	if last && inTurn {
		t.waits = short.PutEnd
	}
	came := t.next - 1
	t.next = 1
	return s.say(short.Cmd{Kind: short.Ack, Seq: came, Block: api.MaxBlock})
}

// endPut ends a write in blocks. (Of seven bytes at least that came, at most seven go.)
func (s *Server) endPut(c short.Cmd) []api.Frame {
	t := s.transfer
	t.bytes = t.bytes[:len(t.bytes)-c.Empty]
	t.mustBeWhole()
	must(!t.check || t.sum() == c.Sum, api.AbCheck)
	s.commit(t.bytes)
	return s.say(short.Cmd{Kind: short.PutEnd})
}

// get begins a read in blocks.
func (s *Server) get(c short.Cmd) []api.Frame {
	t := s.beginRead(c.Place)
	t.check, t.waits, t.block = c.Check, short.GetStart, c.Block
	return s.say(short.Cmd{Kind: short.Get, Place: c.Place, Check: c.Check, Sized: true, Size: uint32(len(t.bytes))})
}

// tellSegments tells a block's segments, from the first one on that is not done.
func (s *Server) tellSegments(block int) []api.Frame {
	t := s.transfer
	count := t.segmentCount()
	t.told = min(block, count-t.done)
	t.waits = short.Ack
	var said []api.Frame
	for i := range t.told {
		n := t.done + i
		data := t.segment(n)
		b, _ := short.Segment(i+1, n == count-1, data[:])
		said = append(said, s.frameOf(b))
	}
	return said
}

// goOnBehind goes on with a read in blocks behind the segments that have come.
func (s *Server) goOnBehind(c short.Cmd) []api.Frame {
	t := s.transfer
	must(c.Seq <= t.told, api.AbSeq)
	t.done += c.Seq
	count := t.segmentCount()
	if t.done < count {
		return s.tellSegments(c.Block)
	}
	t.waits = short.GetEnd
	end := short.Cmd{Kind: short.GetEnd, Empty: count*segmentLength - len(t.bytes)}
	if t.check {
		end.Sum = t.sum()
	}
	return s.say(end)
}
