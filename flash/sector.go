package flash

import "campanile/api"

// words is how many of them a sector has.
const words = api.SectorSize / api.WordSize

// word is what is written at once.
type word = [api.WordSize]byte

// sector is its words: a value, which is copied whole.
type sector [words]word

// erased is a sector as an erasing leaves it.
func erased() sector {
	var s sector
	for i := range s {
		s[i] = word{255, 255, 255, 255}
	}
	return s
}

// bytes tells a sector's bytes, in new memory.
func (s sector) bytes() []byte {
	b := make([]byte, 0, api.SectorSize)
	for _, w := range s {
		b = append(b, w[:]...)
	}
	return b
}

// falls: can b be written over what stands? Bits only go from 1 to 0, so what is left of b among them must be b.
func falls(stands, b word) bool {
	left := b
	for i := range left {
		left[i] &= stands[i]
	}
	return left == b
}
