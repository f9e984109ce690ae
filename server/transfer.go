package server

import (
	"campanile/api"
	"campanile/crc"
)

// segments is what a write in blocks waits for, beside the kinds of commands: a number that is none of theirs.
const segments uint8 = 255

// segmentLength is how many bytes a part of a value has, in a block or not.
const segmentLength = 7

// transfer is what is under way.
type transfer struct {
	place  api.Place
	last   int64 // when something was heard last
	waits  uint8 // the kind of command that it waits for, or segments
	toggle bool
	check  bool   // in blocks: was a check asked for?
	bytes  []byte // of a write those that came, of a read those that were there when it began

	sized bool // of a write: was a size told?
	size  int

	next int // of a write in blocks: the number of the segment whose turn it is

	block int // of a read in blocks: how many segments may be told at once
	done  int // how many segments of the value are done
	told  int // how many were told since
}

// must gives a transfer up by its code, unless something holds; Hear recovers.
func must(holds bool, code api.Abort) {
	if !holds {
		panic(code)
	}
}

// heed gives a transfer up by a code that is one.
func heed(code api.Abort) { must(code == 0, code) }

// codeOf tells the code by which a transfer was given up. What is no code comes out of a hook, which may not bring the server down.
func codeOf(cause any) api.Abort {
	if code, isCode := cause.(api.Abort); isCode {
		return code
	}
	return api.AbGeneral
}

// mustFit gives a write up that has more bytes than may come.
func (t *transfer) mustFit() {
	must(len(t.bytes) <= api.MaxValue, api.AbMemory)
	must(!t.sized || len(t.bytes) <= t.size, api.AbLong)
}

// mustBeWhole gives a write up, all of whose bytes have come, that has more or fewer than were told.
func (t *transfer) mustBeWhole() {
	t.mustFit()
	must(!t.sized || len(t.bytes) == t.size, api.AbShort)
}

// segmentCount tells how many segments the value has: without a byte, one.
func (t *transfer) segmentCount() int {
	return max(1, (len(t.bytes)+segmentLength-1)/segmentLength)
}

// segment tells the bytes of a segment of the value, those that are no data as 0.
func (t *transfer) segment(n int) [segmentLength]byte {
	var b [segmentLength]byte
	copy(b[:], t.bytes[n*segmentLength:])
	return b
}

// sum is crc.Sum of the bytes, by Add: Add meets no variable that is assigned while the program runs.
func (t *transfer) sum() uint16 { return crc.Add(0, t.bytes) }
