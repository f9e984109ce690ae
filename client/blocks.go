package client

import (
	"campanile/api"
	"campanile/short"
)

// goOnBehindPut asks the first segments of a write in blocks.
func (c *Client) goOnBehindPut(a short.Cmd) []api.Frame {
	c.transfer.check = a.Check
	return c.askSegments(a.Block)
}

// askSegments asks a block's segments, from the first one on that is not done.
func (c *Client) askSegments(block int) []api.Frame {
	t := c.transfer
	count := t.segmentCount()
	t.asked = min(block, count-t.done)
	t.waits = short.Ack
	var asked []api.Frame
	for i := range t.asked {
		n := t.done + i
		data := t.segment(n)
		b, _ := short.Segment(i+1, n == count-1, data[:])
		asked = append(asked, c.frameOf(b))
	}
	return asked
}

// goOnBehindAck goes on with a write in blocks behind the segments that have come, or asks for its end.
func (c *Client) goOnBehindAck(a short.Cmd) []api.Frame {
	t := c.transfer
	must(a.Seq <= t.asked, api.AbSeq)
	t.done += a.Seq
	count := t.segmentCount()
	if t.done < count {
		return c.askSegments(a.Block)
	}
	t.waits = short.PutEnd
	end := short.Cmd{Kind: short.PutEnd, Empty: count*segmentLength - len(t.bytes)}
	if t.check {
		end.Sum = t.sum()
	}
	return c.ask(end)
}

// goOnBehindGet asks for the segments of a read in blocks.
func (c *Client) goOnBehindGet(a short.Cmd) []api.Frame {
	t := c.transfer
	t.expectSize(a)
	t.check, t.waits, t.next = a.Check, blockSegments, 1
	return c.ask(short.Cmd{Kind: short.GetStart})
}

// takeSegment takes a segment of a read in blocks, if it is its turn. (The number 0 is told as an error, with nothing beside: it is nobody's turn.)
func (c *Client) takeSegment(b [8]byte) []api.Frame {
	t := c.transfer
	seq, last, data, _ := short.Segmented(b)
	inTurn := seq == t.next
	if inTurn {
		t.bytes = append(t.bytes, data...)
		t.next++
		// How many of the last seven are no data is not known yet.
		must(len(t.bytes) <= api.MaxValue+segmentLength, api.AbMemory)
	}
	if !last && seq != api.MaxBlock {
		return nil
	}
	if last && inTurn {
		t.waits = short.GetEnd
	}
	came := t.next - 1
	t.next = 1
	return c.ask(short.Cmd{Kind: short.Ack, Seq: came, Block: api.MaxBlock})
}

// endGet ends a read in blocks. (Of seven bytes at least that came, at most seven go.)
func (c *Client) endGet(a short.Cmd) []api.Frame {
	t := c.transfer
	t.bytes = t.bytes[:len(t.bytes)-a.Empty]
	t.mustBeWhole()
	must(!t.check || t.sum() == a.Sum, api.AbCheck)
	c.end(0)
	return c.ask(short.Cmd{Kind: short.GetEnd})
}
