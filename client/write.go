package client

import (
	"campanile/api"
	"campanile/short"
)

// firstOfWrite tells the command that a write begins with.
func firstOfWrite(p api.Place, b []byte, mode uint8) short.Cmd {
	size := uint32(len(b))
	switch {
	case mode == Blocks:
		return short.Cmd{Kind: short.Put, Place: p, Check: true, Sized: true, Size: size}
	case mode == Auto && size >= 1 && size <= quickLength:
		return short.Cmd{Kind: short.Write, Place: p, Quick: true, Sized: true, Data: b}
	}
	return short.Cmd{Kind: short.Write, Place: p, Sized: true, Size: size}
}

// goOnBehindWrite asks the first bytes of a write in segments; one in one frame is done.
func (c *Client) goOnBehindWrite() []api.Frame {
	if c.transfer.isQuick {
		return c.end(0)
	}
	return c.askPart()
}

// goOnBehindPart asks the next bytes, unless none are left: then the last ones were asked, and are written.
func (c *Client) goOnBehindPart(a short.Cmd) []api.Frame {
	t := c.transfer
	must(a.Toggle == t.toggle, api.AbToggle)
	if len(t.bytes) == 0 {
		return c.end(0)
	}
	t.toggle = !t.toggle
	return c.askPart()
}

// askPart asks the next bytes of a write in segments; those that are left stay in the transfer.
func (c *Client) askPart() []api.Frame {
	t := c.transfer
	n := min(segmentLength, len(t.bytes))
	part := t.bytes[:n]
	t.bytes = t.bytes[n:]
	t.waits = short.Part
	return c.ask(short.Cmd{Kind: short.Part, Toggle: t.toggle, Last: len(t.bytes) == 0, Data: part})
}
