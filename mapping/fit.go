package mapping

import (
	"campanile/api"
	"campanile/dict"
	"campanile/types"
)

// check tells why a Map may not be one of a mapping, whatever stands beside it; 0: it may.
func (m Map) check(d *dict.Dict, out bool) api.Abort {
	if m.isGap() {
		if out {
			return api.AbNoMap
		}
		return 0
	}
	e, code := d.Find(m.Place)
	if code != 0 {
		return code
	}
	right := api.RWrite
	if out {
		right = api.RRead
	}
	if !m.fits(e) || e.Rights&right == 0 {
		return api.AbNoMap
	}
	return 0
}

// isGap: are bits left out of it? Its place is then just that of its type, a byte, as an index.
func (m Map) isGap() bool {
	t := uint8(m.Place.Index)
	return m.Place == api.Place{Index: uint16(t)} && hasBits(t, m.Bits)
}

// fits: may the entry be mapped, with so many bits?
func (m Map) fits(e api.Entry) bool {
	return e.Rights&api.RMap != 0 && hasBits(e.Type, m.Bits)
}

// hasBits: is it a type of a fixed size, of which a Map has so many bits?
func hasBits(t uint8, n int) bool {
	size, sized := types.Size(t)
	return sized && (n == 8*size || t == api.TBool && n == 1)
}
