package client

import (
	"campanile/api"
	"campanile/short"
)

// firstOfRead tells the command that a read begins with.
func firstOfRead(p api.Place, mode uint8) short.Cmd {
	if mode == Blocks {
		return short.Cmd{Kind: short.Get, Place: p, Check: true, Block: api.MaxBlock}
	}
	return short.Cmd{Kind: short.Read, Place: p}
}

// goOnBehindRead takes a value that came in one frame, or asks for the first bytes of it.
func (c *Client) goOnBehindRead(a short.Cmd) []api.Frame {
	t := c.transfer
	if a.Quick {
		t.bytes = a.Data
		return c.end(0)
	}
	t.expectSize(a)
	return c.askMore()
}

// takeMore takes the next bytes of a read in segments.
func (c *Client) takeMore(a short.Cmd) []api.Frame {
	t := c.transfer
	must(a.Toggle == t.toggle, api.AbToggle)
	t.bytes = append(t.bytes, a.Data...)
	t.mustFit()
	if a.Last {
		t.mustBeWhole()
		return c.end(0)
	}
	t.toggle = !t.toggle
	return c.askMore()
}

// askMore asks for the next bytes of a read in segments.
func (c *Client) askMore() []api.Frame {
	c.transfer.waits = short.More
	return c.ask(short.Cmd{Kind: short.More, Toggle: c.transfer.toggle})
}
