// Package types is layer 1: the types of values. See shared/doc/01-types.md.
package types

import (
	"cmp"
	"math"

	"campanile/api"
)

// A kind is what types have in common that are ordered, told and read alike.
type kind uint8

const (
	noKind kind = iota
	truth
	signed
	unsigned
	float
	moment
	quoted
	octets
)

// dayLength is one past the greatest number of milliseconds of a time.
const dayLength = 86400000

// kindOf tells a type's kind and its size; 0: it has none.
func kindOf(t uint8) (kind, int) {
	switch t {
	case api.TBool:
		return truth, 1
	case api.TInt8:
		return signed, 1
	case api.TInt16:
		return signed, 2
	case api.TInt24:
		return signed, 3
	case api.TInt32:
		return signed, 4
	case api.TInt64:
		return signed, 8
	case api.TUint8:
		return unsigned, 1
	case api.TUint16:
		return unsigned, 2
	case api.TUint24:
		return unsigned, 3
	case api.TUint32:
		return unsigned, 4
	case api.TUint64:
		return unsigned, 8
	case api.TReal32:
		return float, 4
	case api.TReal64:
		return float, 8
	case api.TTime, api.TDiff:
		return moment, 6
	case api.TText:
		return quoted, 0
	case api.TOctets, api.TDomain:
		return octets, 0
	}
	return noKind, 0
}

// Right: is it a type?
func Right(t uint8) bool {
	k, _ := kindOf(t)
	return k != noKind
}

// Size tells a type's size.
func Size(t uint8) (int, bool) {
	_, size := kindOf(t)
	return size, size > 0
}

// Zero tells so many bytes 0.
func Zero(t uint8) []byte {
	size, sized := Size(t)
	if !sized {
		return nil
	}
	return make([]byte, size)
}

// Check tells why bytes are no value within bounds; 0: they are.
func Check(t uint8, b, low, high []byte) api.Abort {
	if code := checkBytes(t, b); code != 0 {
		return code
	}
	against := func(bound []byte) (order int, counts bool) {
		if !hasPlace(t, bound) {
			return 0, false
		}
		order, _ = Compare(t, b, bound)
		return order, true
	}
	toHigh, hasHigh := against(high)
	toLow, hasLow := against(low)
	switch {
	case (hasHigh || hasLow) && !hasPlace(t, b):
		return api.AbValue
	case toHigh > 0:
		return api.AbHigh
	case toLow < 0:
		return api.AbLow
	}
	return 0
}

// checkBytes is Check without bounds.
func checkBytes(t uint8, b []byte) api.Abort {
	k, size := kindOf(t)
	least, most := size, size
	if size == 0 {
		most = api.MaxValue
	}
	switch {
	case k == noKind:
		return api.AbGeneral
	case len(b) > most:
		return api.AbLong
	case len(b) < least:
		return api.AbShort
	case k == truth && b[0] > 1, k == moment && number(b[:4]) >= dayLength:
		return api.AbValue
	}
	return 0
}

// hasPlace: are the bytes a value that has a place in the type's order?
func hasPlace(t uint8, b []byte) bool {
	k, _ := kindOf(t)
	switch {
	case k == quoted, k == octets, checkBytes(t, b) != 0:
		return false
	case k == float:
		return !math.IsNaN(floatOf(b))
	}
	return true
}

// Compare tells the order of two values.
func Compare(t uint8, a, b []byte) (int, bool) {
	if !hasPlace(t, a) || !hasPlace(t, b) {
		return 0, false
	}
	switch k, _ := kindOf(t); k {
	case signed:
		return cmp.Compare(signedNumber(a), signedNumber(b)), true
	case float:
		return compareFloats(floatOf(a), floatOf(b)), true
	}
	// Days are the highest bytes of a time, so that it goes by size as a number does.
	return cmp.Compare(number(a), number(b)), true
}

// number tells bytes, at most 8, as a number without a sign.
func number(b []byte) uint64 {
	n := uint64(0)
	for i, x := range b {
		n |= uint64(x) << (8 * i)
	}
	return n
}

// signedNumber tells bytes, from 1 to 8, as a number with a sign.
func signedNumber(b []byte) int64 {
	unused := 64 - 8*len(b)
	return int64(number(b)<<unused) >> unused
}

// bytesOf tells so many of a number's bytes.
func bytesOf(n uint64, size int) []byte {
	b := make([]byte, size)
	for i := range b {
		b[i] = byte(n >> (8 * i))
	}
	return b
}
