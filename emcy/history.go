package emcy

import (
	"slices"

	"campanile/api"
)

// history is what was raised, a field each, the newest first.
type history struct {
	fields [api.MaxErrors]uint32
	length int
}

// add puts an error's field ahead of the others; of a full history the oldest goes.
func (h *history) add(code uint16, info [5]byte) {
	copy(h.fields[1:], h.fields[:])
	h.fields[0] = uint32(code) | uint32(info[0])<<16 | uint32(info[1])<<24
	h.length = min(h.length+1, api.MaxErrors)
}

func (h *history) list() []uint32 { return slices.Clone(h.fields[:h.length]) }
