package client

import (
	"slices"

	"campanile/api"
	"campanile/crc"
	"campanile/short"
)

// blockSegments is what a read in blocks waits for, beside the kinds of answers: a number that is none of theirs.
const blockSegments uint8 = 255

const (
	quickLength   = 4 // how many bytes one frame tells beside a place
	segmentLength = 7 // how many bytes a part of a value has, in a block or not
)

// transfer is what is under way.
type transfer struct {
	place   api.Place
	isWrite bool
	isQuick bool  // a write whose bytes were all asked in one frame
	last    int64 // when something was asked or heard last
	waits   uint8 // the kind of answer that it waits for, or blockSegments
	toggle  bool
	check   bool   // in blocks: did the server tell that it checks?
	bytes   []byte // of a write in segments those that are left, of one in blocks all, of a read those that came

	sized bool // of a read: was a size told?
	size  int

	next int // of a read in blocks: the number of the segment whose turn it is

	done  int // of a write in blocks: how many segments of the value are done
	asked int // how many were asked since
}

// begin begins a transfer by its first command; the answer to it is of that command's kind.
func (c *Client) begin(first short.Cmd, b []byte, now int64) []api.Frame {
	c.result = nil
	c.transfer = &transfer{
		place:   first.Place,
		isWrite: first.Kind == short.Write || first.Kind == short.Put,
		isQuick: first.Quick,
		last:    timeOf(now),
		waits:   first.Kind,
		bytes:   slices.Clone(b),
	}
	return c.ask(first)
}

// isAnsweredBy: is it an answer that the transfer waits for?
func (t *transfer) isAnsweredBy(a short.Cmd) bool {
	return a.Kind == t.waits && (!hasPlace(a.Kind) || a.Place == t.place)
}

// hasPlace: do answers of a kind tell a place?
func hasPlace(kind uint8) bool {
	return kind == short.Write || kind == short.Read || kind == short.Put || kind == short.Get
}

// must gives a transfer up by its code, unless something holds; Hear recovers.
func must(holds bool, code api.Abort) {
	if !holds {
		panic(code)
	}
}

// expectSize notes the size of what is to be read, if one is told, and gives up what has no room.
func (t *transfer) expectSize(a short.Cmd) {
	must(a.Size <= api.MaxValue, api.AbMemory)
	t.sized, t.size = a.Sized, int(a.Size)
}

// mustFit gives a read up that has more bytes than may come.
func (t *transfer) mustFit() {
	must(len(t.bytes) <= api.MaxValue, api.AbMemory)
	must(!t.sized || len(t.bytes) <= t.size, api.AbLong)
}

// mustBeWhole gives a read up, all of whose bytes have come, that has more or fewer than were told.
func (t *transfer) mustBeWhole() {
	t.mustFit()
	must(!t.sized || len(t.bytes) == t.size, api.AbShort)
}

// segmentCount tells how many segments the value has: without a byte, one.
func (t *transfer) segmentCount() int {
	return max(1, (len(t.bytes)+segmentLength-1)/segmentLength)
}

// segment tells the bytes of a segment of the value, those that are no data as 0.
func (t *transfer) segment(n int) [segmentLength]byte {
	var b [segmentLength]byte
	copy(b[:], t.bytes[n*segmentLength:])
	return b
}

// sum is crc.Sum of the bytes, by Add: Add meets no variable that is assigned while the program runs.
func (t *transfer) sum() uint16 { return crc.Add(0, t.bytes) }
