package journal

import (
	"slices"

	"campanile/api"
	"campanile/flash"
)

// region is sectors of a flash, taken as one row of bytes.
type region struct {
	memory  *flash.Flash
	first   int
	sectors int
}

func (r region) size() int { return r.sectors * api.SectorSize }

func (r region) read() ([]byte, api.Errno) {
	var all []byte
	for n := range r.sectors {
		b, errno := r.memory.Read(r.first + n)
		if errno != api.OK {
			return nil, errno
		}
		all = append(all, b...)
	}
	return all, api.OK
}

// write writes whole words, the first one first.
func (r region) write(at int, b []byte) api.Errno {
	for ; len(b) > 0; b, at = b[api.WordSize:], at+api.WordSize {
		var word [api.WordSize]byte
		copy(word[:], b)
		sector, place := at/api.SectorSize, at%api.SectorSize/api.WordSize
		if errno := r.memory.Write(r.first+sector, place, word); errno != api.OK {
			return errno
		}
	}
	return api.OK
}

func (r region) erase() api.Errno {
	for n := range r.sectors {
		if errno := r.memory.Erase(r.first + n); errno != api.OK {
			return errno
		}
	}
	return api.OK
}

// half is one of a journal's two regions, with its records. Of two that were begun the newer one counts.
type half struct {
	region
	begun  bool
	number uint8
	end    int // where the next record is to stand
}

// lookAt tells a half as it stands, and what its records make of the groups.
func lookAt(at region) (half, groups, api.Errno) {
	b, errno := at.read()
	if errno != api.OK {
		return half{}, groups{}, errno
	}
	h, found := half{region: at}, groups{}
	for r := range records(b) {
		if !h.begun {
			if r.kind != begins || len(r.bytes) != 1 {
				break
			}
			h.begun, h.number = true, r.bytes[0]
		}
		found.take(r)
		h.end += room(len(r.bytes))
	}
	if slices.ContainsFunc(b[h.end:], func(x byte) bool { return x != 255 }) {
		h.end = h.size() // what was cut stands in the way: nothing can be written behind it
	}
	return h, found, api.OK
}

// newer: does this half count, and not the other one? A half is begun with the number behind the other one's, round the end of the numbers, too.
func (h half) newer(other half) bool {
	return h.begun && (!other.begun || int8(h.number-other.number) > 0)
}

// add writes a record behind the others; ErrFull, if there is no place for it.
func (h *half) add(r record) api.Errno {
	b := r.encoded()
	if !h.begun || len(b) > h.size()-h.end {
		return api.ErrFull
	}
	errno := h.write(h.end, b)
	if errno == api.OK {
		h.end += len(b)
	}
	return errno
}

// fill makes a region the half with a number, and with the groups that stay. The record that begins it is written last: up to then the other half counts.
func fill(r region, number uint8, all groups) (half, api.Errno) {
	begin := record{kind: begins, bytes: []byte{number}}.encoded()
	h := half{region: r, begun: true, number: number, end: len(begin)}
	if errno := h.erase(); errno != api.OK {
		return half{}, errno
	}
	for n, g := range all {
		if !g.stays() {
			continue
		}
		if errno := h.add(record{kind: stores, group: uint8(n), bytes: g.bytes}); errno != api.OK {
			return half{}, errno
		}
	}
	return h, h.write(0, begin)
}
