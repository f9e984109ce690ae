package short

import (
	"slices"

	"campanile/api"
)

// lastSegment is the bit of the first byte by which a segment is the last one.
const lastSegment = 0x80

// Segment tells the bytes of a block's segment.
func Segment(seq int, last bool, data []byte) ([8]byte, api.Errno) {
	if seq < 1 || seq > api.MaxBlock || len(data) == 0 || !fitsPart(len(data), last) {
		return [8]byte{}, api.ErrArg
	}
	b := [8]byte{byte(seq) | bit(last, lastSegment)}
	copy(b[1:], data)
	return b, api.OK
}

// Segmented tells a segment's number, whether it is the last one, and its seven bytes.
func Segmented(b [8]byte) (int, bool, []byte, api.Errno) {
	seq := int(b[0] &^ lastSegment)
	if seq == 0 {
		return 0, false, nil, api.ErrBytes
	}
	return seq, b[0]&lastSegment != 0, slices.Clone(b[1:]), api.OK
}
