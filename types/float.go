package types

import (
	"cmp"
	"math"
	"math/bits"
)

// A layout tells how a float shares out its bits: so many are its fraction's; its exponent is kept with the bias added.
type layout struct {
	fraction, bias int
}

// layoutOf tells the layout of the floats of 4 bytes, or of 8.
func layoutOf(size int) layout {
	if size == 4 {
		return layout{fraction: 23, bias: 127}
	}
	return layout{fraction: 52, bias: 1023}
}

// infinity tells the bits of the infinity above all; a NaN's, without its sign, are more.
func (l layout) infinity() uint64 {
	return uint64(2*l.bias+1) << l.fraction
}

// least tells the exponent of the lowest bit of the smallest floats.
func (l layout) least() int {
	return 1 - l.bias - l.fraction
}

// apart tells the m and e of the finite float m times 2^e with these bits, its sign left out.
func (l layout) apart(n uint64) (uint64, int) {
	f, e := n&(1<<l.fraction-1), int(n>>l.fraction)
	if e == 0 {
		return f, l.least()
	}
	return f | 1<<l.fraction, l.least() + e - 1
}

// together tells the bits of m times 2^e; false, if that is no float of the layout.
func (l layout) together(m uint64, e int) (uint64, bool) {
	if m == 0 {
		return 0, true
	}
	m, e = odd(m, e)
	length := bits.Len64(m)
	top := e + length - 1
	if e < l.least() || top > l.bias || length > l.fraction+1 {
		return 0, false
	}
	if top < 1-l.bias {
		return m << (e - l.least()), true
	}
	// The highest bit is always 1 here, and is not kept.
	f := m<<(l.fraction+1-length) - 1<<l.fraction
	return uint64(top+l.bias)<<l.fraction | f, true
}

// odd tells m times 2^e with an odd m; m is not 0.
func odd(m uint64, e int) (uint64, int) {
	zeros := bits.TrailingZeros64(m)
	return m >> zeros, e + zeros
}

// floatOf tells the float of 4 or 8 bytes.
func floatOf(b []byte) float64 {
	n := number(b)
	if len(b) == 4 {
		n = widened(n)
	}
	return math.Float64frombits(n)
}

// widened tells the bits of a float of 4 bytes as one of 8 bytes; a NaN stays one, but not the same.
func widened(n uint64) uint64 {
	narrow, wide := layoutOf(4), layoutOf(8)
	sign := n >> 31 << 63
	n &= 1<<31 - 1
	switch {
	case n == narrow.infinity():
		return sign | wide.infinity()
	case n > narrow.infinity():
		return sign | wide.infinity() | 1
	}
	// Each float of 4 bytes is one of 8 bytes, too.
	n, _ = wide.together(narrow.apart(n))
	return sign | n
}

// compareFloats tells the order of two floats that are numbers.
func compareFloats(x, y float64) int {
	switch {
	case x < y:
		return -1
	case x > y:
		return 1
	}
	// To Go -0 and 0 are equal: only their signs tell them apart.
	return cmp.Compare(signBit(y), signBit(x))
}

// signBit tells 1 of a float whose sign is -, else 0.
func signBit(x float64) uint64 {
	return math.Float64bits(x) >> 63
}
