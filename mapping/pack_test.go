package mapping_test

import (
	"testing"

	"campanile/api"
	"campanile/dict"
	"campanile/mapping"
)

// patterns tells for each type of a fixed size a value of which no two bytes, and no byte turned, are the same.
func patterns() map[uint8][]byte {
	return map[uint8][]byte{
		api.TBool: {1}, api.TInt8: {0x93}, api.TUint8: {0xA7},
		api.TInt16: {0x93, 0xC5}, api.TUint16: {0xA7, 0x8B},
		api.TInt24: {0x93, 0xC5, 0xE2}, api.TUint24: {0xA7, 0x8B, 0xD1},
		api.TInt32: {0x93, 0xC5, 0xE2, 0x9A}, api.TUint32: {0xA7, 0x8B, 0xD1, 0xF4},
		api.TReal32: {0x0B, 0x16, 0x2D, 0xC0}, api.TReal64: {0x0B, 0x16, 0x2D, 0x35, 0x4E, 0x87, 0x9C, 0xBF},
		api.TInt64: {0x93, 0xC5, 0xE2, 0x9A, 0x17, 0x2E, 0x5C, 0x81}, api.TUint64: {0xA7, 0x8B, 0xD1, 0xF4, 0x39, 0x72, 0x6E, 0xDB},
		api.TTime: {0x81, 0x42, 0x25, 0x04, 0x6B, 0xD3}, api.TDiff: {0x97, 0x2C, 0x1B, 0x03, 0xE9, 0x8D},
	}
}

// eachType tells a dictionary with an entry of each type of a fixed size, at 6000 and the type as sub-index, and a bool at 6001, at first 1.
func eachType(t *testing.T) *dict.Dict {
	t.Helper()
	l := []api.Entry{{Index: 0x6001, Type: api.TBool, Rights: rwm, Default: bytesOf(1)}}
	for kind, b := range patterns() {
		l = append(l, api.Entry{Index: 0x6000, Sub: kind, Type: kind, Rights: rwm, Default: b})
	}
	return made(t, l...)
}

// shifted tells bytes with one bit ahead of their first one.
func shifted(first byte, b []byte) []byte {
	row := make([]byte, len(b)+1)
	row[0] = first
	for i, x := range b {
		row[i] += x << 1
		row[i+1] = x >> 7
	}
	return row
}

func TestPackEachType(t *testing.T) { // P12.4
	d := eachType(t)
	if len(patterns()) != len(sized()) {
		t.Fatal("types are left out")
	}
	for kind, b := range patterns() {
		m := to(0x6000, kind, 8*len(b))
		packs(t, d, row(m), b...)
		if len(b) < 8 {
			packs(t, d, row(to(0x6001, 0, 1), m), shifted(1, b)...)
			packs(t, d, row(m, to(0x6001, 0, 1)), append(b, 1)...)
		}
	}
}

func TestPackBits(t *testing.T) { // P12.4: 1 bit between others, and what is behind the last one
	d := eachType(t)
	one, eight := to(0x6000, api.TBool, 1), to(0x6000, api.TBool, 8)
	byte8, word := to(0x6000, api.TUint8, 8), to(0x6000, api.TUint16, 16)
	packs(t, d, nil)
	packs(t, d, row())
	packs(t, d, row(one), 1)
	packs(t, d, row(eight), 1)
	packs(t, d, times(3, one), 7)
	packs(t, d, times(8, one), 255)
	packs(t, d, times(9, one), 255, 1)
	packs(t, d, times(63, one), 255, 255, 255, 255, 255, 255, 255, 127)
	packs(t, d, times(64, one), 255, 255, 255, 255, 255, 255, 255, 255)
	packs(t, d, row(one, eight, one), 3, 2)
	packs(t, d, row(eight, one, eight), 1, 3, 0)
	packs(t, d, row(byte8, one, word), 0xA7, 0x4F, 0x17, 1)         // 8BA7 and a bit: 1174F
	packs(t, d, row(one, byte8, one, byte8, one), 0x4F, 0x9F, 0x06) // 69F4F
	d.Write(at(0x6000, api.TBool), bytesOf(0))
	packs(t, d, times(64, one), 0, 0, 0, 0, 0, 0, 0, 0)
	packs(t, d, row(to(0x6001, 0, 1), one, to(0x6001, 0, 1), one, byte8), 0x75, 0x0A)
	packs(t, d, row(byte8, one), 0xA7, 0)
}

// Each bit of a frame is that of the value that the mapping has there, and no other.
func TestPackBitByBit(t *testing.T) { // P12.4
	d := made(t, example()...)
	l := exampleRow()
	for bit := range 25 {
		want := make([]byte, 4)
		want[bit/8] = 1 << (bit % 8)
		n := uint32(1) << bit
		d.Set(at(0x6000, 1), bytesOf(byte(n)))
		d.Set(at(0x6000, 2), bytesOf(byte(n>>8&1)))
		d.Set(at(0x6000, 3), bytesOf(byte(n>>9), byte(n>>17)))
		packs(t, d, l, want...)
	}
}

// What is packed is the value that is there, also one that is out of its bounds, and the same place as often as it is mapped.
func TestPackTellsValues(t *testing.T) { // P12.4
	d := made(t, api.Entry{Index: 0x6000, Type: api.TUint16, Rights: rwm, Default: bytesOf(1, 2), High: bytesOf(1, 3)})
	m := to(0x6000, 0, 16)
	packs(t, d, row(m, m), 1, 2, 1, 2)
	d.Write(at(0x6000, 0), bytesOf(7, 1))
	packs(t, d, times(4, m), 7, 1, 7, 1, 7, 1, 7, 1)
	d.Set(at(0x6000, 0), bytesOf(255, 254))
	packs(t, d, row(m), 255, 254)
}

func TestPackRefuses(t *testing.T) { // P12.4: Check's code
	d := made(t, append(example(),
		api.Entry{Index: 0x6001, Type: api.TUint8, Rights: api.RWrite | api.RMap},
		api.Entry{Index: 0x6002, Type: api.TUint8, Rights: api.RRead | api.RMap, Default: bytesOf(6)},
	)...)
	ok := to(0x6000, 1, 8)
	for _, x := range []struct {
		d    *dict.Dict
		l    []mapping.Map
		want api.Abort
	}{
		{nil, row(ok), api.AbGeneral},
		{d, row(ok, to(0x6001, 0, 8)), api.AbNoMap}, // it may not be read
		{d, row(ok, gap(api.TUint8, 8)), api.AbNoMap},
		{nil, row(gap(api.TBool, 1)), api.AbNoMap},
		{d, row(ok, to(0x6000, 1, 7)), api.AbNoMap},
		{d, row(ok, to(0x6000, 9, 8)), api.AbNoSub},
		{d, row(ok, to(0x6009, 9, 8)), api.AbNoEntry},
		{d, times(9, ok), api.AbMapLen},
		{d, times(65, ok), api.AbMapLen},
	} {
		if b, code := mapping.Pack(x.d, x.l); len(b) != 0 || code != x.want {
			t.Errorf("Pack(%x): % x, %x, want %x", x.l, b, code, x.want)
		}
	}
	packs(t, d, row(to(0x6002, 0, 8), ok), 6, 3) // it need not be written
	packs(t, nil, nil)
}
