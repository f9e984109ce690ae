package mapping_test

import (
	"math"
	"testing"

	"campanile/api"
	"campanile/dict"
	"campanile/mapping"
)

// ofType tells an entry 6000 sub 1 of a type, with rights.
func ofType(kind, rights uint8) api.Entry {
	return api.Entry{Index: 0x6000, Sub: 1, Type: kind, Rights: rights}
}

// strange tells numbers of bits that are no type's.
func strange() []int {
	return []int{math.MinInt, math.MinInt + 8, -1 << 32, -256, -64, -8, -1, 0, 2, 3, 4, 5, 6, 7, 9, 12, 15, 17, 33, 40, 56, 63, 65, 72, 128, 255, 256, 264, 1 << 31, 1 << 32, 1<<32 + 8, 1<<32 + 1, math.MaxInt}
}

func TestCheckCountsMaps(t *testing.T) { // P12.2: 0, 64 and 65 Maps
	d := made(t, example()...)
	for _, out := range []bool{true, false} {
		for _, d := range []*dict.Dict{d, nil, {}} {
			checks(t, d, nil, out, 0)
			checks(t, d, row(), out, 0)
			checks(t, d, times(65, to(0x6000, 2, 1)), out, api.AbMapLen)
			checks(t, d, times(65, to(0x6000, 2, 0)), out, api.AbMapLen) // whatever the Maps are
			checks(t, d, times(65, to(0x7777, 2, -8)), out, api.AbMapLen)
			checks(t, d, times(65, gap(api.TBool, 1)), out, api.AbMapLen)
			checks(t, d, times(5000, to(0x7777, 2, 1)), out, api.AbMapLen)
		}
		checks(t, d, times(63, to(0x6000, 2, 1)), out, 0)
		checks(t, d, times(64, to(0x6000, 2, 1)), out, 0)
	}
	for _, d := range []*dict.Dict{d, nil} {
		checks(t, d, times(64, gap(api.TBool, 1)), false, 0)
	}
}

func TestCheckCountsBits(t *testing.T) { // P12.2: 64 and 65 bits
	entries := append(example(), api.Entry{Index: 0x6001, Type: api.TUint64, Rights: rwm}, api.Entry{Index: 0x6002, Type: api.TUint24, Rights: rwm})
	d := made(t, entries...)
	one, eight, sixteen, whole, three := to(0x6000, 2, 1), to(0x6000, 1, 8), to(0x6000, 3, 16), to(0x6001, 0, 64), to(0x6002, 0, 24)
	for _, out := range []bool{true, false} {
		checks(t, d, row(whole), out, 0)
		checks(t, d, row(whole, one), out, api.AbMapLen)
		checks(t, d, row(one, whole), out, api.AbMapLen)
		checks(t, d, row(whole, whole), out, api.AbMapLen)
		checks(t, d, times(8, eight), out, 0)
		checks(t, d, append(times(8, eight), one), out, api.AbMapLen)
		checks(t, d, times(9, eight), out, api.AbMapLen)
		checks(t, d, times(4, sixteen), out, 0)
		checks(t, d, append(times(4, sixteen), one), out, api.AbMapLen)
		checks(t, d, append(times(3, sixteen), three), out, api.AbMapLen)
		checks(t, d, row(three, three, sixteen), out, 0)
		checks(t, d, append(times(8, one), times(7, eight)...), out, 0)
		checks(t, d, append(times(9, one), times(7, eight)...), out, api.AbMapLen)
	}
	for _, d := range []*dict.Dict{d, nil} { // gaps count as others do
		checks(t, d, row(gap(api.TUint64, 64)), false, 0)
		checks(t, d, row(gap(api.TUint64, 64), gap(api.TBool, 1)), false, api.AbMapLen)
		checks(t, d, row(gap(api.TBool, 1), gap(api.TUint64, 64)), false, api.AbMapLen)
		checks(t, d, times(8, gap(api.TUint8, 8)), false, 0)
		checks(t, d, times(9, gap(api.TUint8, 8)), false, api.AbMapLen)
	}
	checks(t, d, row(gap(api.TUint32, 32), three, eight), false, 0)
	checks(t, d, row(gap(api.TUint32, 32), three, eight, one), false, api.AbMapLen)
	checks(t, d, row(three, three, eight, gap(api.TUint8, 8)), false, 0)
	checks(t, d, row(three, three, eight, gap(api.TUint16, 16)), false, api.AbMapLen)
}

func TestGapsOfEachType(t *testing.T) { // P12.2
	d := made(t, example()...)
	for kind, size := range sized() {
		checks(t, d, row(gap(kind, 8*size)), false, 0)
		checks(t, d, row(gap(kind, 8*size)), true, api.AbNoMap)
		checks(t, nil, row(gap(kind, 8*size)), false, 0) // no dictionary is asked
		checks(t, nil, row(gap(kind, 8*size)), true, api.AbNoMap)
		for _, out := range []bool{true, false} {
			for _, wrong := range append(strange(), 1, 8, 16, 24, 32, 48, 64) {
				if wrong != 8*size && (kind != api.TBool || wrong != 1) { // then it is a place that is not there
					checks(t, d, row(gap(kind, wrong)), out, api.AbNoEntry)
					checks(t, nil, row(gap(kind, wrong)), out, api.AbGeneral)
				}
			}
			for _, sub := range bytesOf(1, 2, 128, 255) {
				checks(t, d, row(to(uint16(kind), sub, 8*size)), out, api.AbNoEntry)
				checks(t, nil, row(to(uint16(kind), sub, 8*size)), out, api.AbGeneral)
			}
			for _, high := range []uint16{0x0100, 0x8000, 0xFF00} { // an index whose lower byte is a type is none
				checks(t, d, row(to(high+uint16(kind), 0, 8*size)), out, api.AbNoEntry)
			}
			checks(t, d, row(to(uint16(kind)<<8, 0, 8*size)), out, api.AbNoEntry)
		}
	}
	checks(t, d, row(gap(api.TBool, 1)), false, 0)
	checks(t, d, row(gap(api.TBool, 1)), true, api.AbNoMap)
}

func TestNoGaps(t *testing.T) { // P12.2: of types without a fixed size, and of what is no type
	d := made(t, example()...)
	fixed := sized()
	for index := range 1024 {
		if _, is := fixed[uint8(index)]; is && index < 256 {
			continue
		}
		for _, bits := range []int{0, 1, 8, 16, 24, 32, 48, 64, 8 * 4096} {
			for _, out := range []bool{true, false} {
				checks(t, d, row(to(uint16(index), 0, bits)), out, api.AbNoEntry)
			}
		}
	}
}

// Where an entry has the place of a gap, it is the gap; where Bits are not the gap's, it is the entry.
func TestGapOrEntry(t *testing.T) { // P12.2
	d := made(t,
		api.Entry{Index: uint16(api.TUint8), Type: api.TUint8, Rights: rwm, Default: bytesOf(7)},
		api.Entry{Index: uint16(api.TUint16), Type: api.TUint32, Rights: rwm, Default: bytesOf(1, 2, 3, 4)},
		api.Entry{Index: uint16(api.TUint8), Sub: 1, Type: api.TUint8, Rights: rwm, Default: bytesOf(9)},
		api.Entry{Index: uint16(api.TBool), Type: api.TBool, Rights: rwm, Default: bytesOf(1)},
		api.Entry{Index: uint16(api.TText), Type: api.TUint8, Rights: rwm, Default: bytesOf(8)},
	)
	checks(t, d, row(gap(api.TUint8, 8)), false, 0)
	checks(t, d, row(gap(api.TUint8, 8)), true, api.AbNoMap)
	for _, bits := range []int{1, 8} {
		checks(t, d, row(gap(api.TBool, bits)), true, api.AbNoMap)
		writes(t, d, row(gap(api.TBool, bits)), bytesOf(0))
	}
	for _, out := range []bool{true, false} {
		checks(t, d, row(gap(api.TUint8, 16)), out, api.AbNoMap) // it does not fit the entry
		checks(t, d, row(gap(api.TUint16, 32)), out, 0)
		checks(t, d, row(to(uint16(api.TUint8), 1, 8)), out, 0)
		checks(t, d, row(gap(api.TText, 8)), out, 0)
		checks(t, d, row(to(uint16(api.TUint8), 2, 8)), out, api.AbNoSub)
	}
	packs(t, d, row(gap(api.TUint16, 32), to(uint16(api.TUint8), 1, 8), gap(api.TText, 8)), 1, 2, 3, 4, 9, 8)
	writes(t, d, row(gap(api.TUint8, 8), to(uint16(api.TUint8), 1, 8), gap(api.TUint16, 16), gap(api.TUint16, 32)), bytesOf(11, 12, 13, 14, 15, 16, 17, 18),
		is(uint16(api.TUint8), 1, 12), is(uint16(api.TUint16), 0, 15, 16, 17, 18))
}

func TestCheckFindsPlaces(t *testing.T) { // P12.2
	d := made(t, example()...)
	for _, out := range []bool{true, false} {
		for _, bits := range append(strange(), 1, 8, 16) { // whatever Bits are
			checks(t, d, row(to(0x6001, 1, bits)), out, api.AbNoEntry)
			checks(t, d, row(to(0, 0, bits)), out, api.AbNoEntry)
			checks(t, d, row(to(0xFFFF, 255, bits)), out, api.AbNoEntry)
			checks(t, d, row(to(0x6000, 0, bits)), out, api.AbNoSub)
			checks(t, d, row(to(0x6000, 4, bits)), out, api.AbNoSub)
			checks(t, nil, row(to(0x6000, 1, bits)), out, api.AbGeneral)
			checks(t, &dict.Dict{}, row(to(0x6000, 1, bits)), out, api.AbNoEntry)
		}
	}
}

func TestCheckAsksRights(t *testing.T) { // P12.2
	for rights := range uint8(16) {
		d := made(t, ofType(api.TInt16, rights))
		for _, out := range []bool{true, false} {
			want := api.AbNoMap
			if needs := map[bool]uint8{true: api.RRead, false: api.RWrite}[out] | api.RMap; rights&needs == needs {
				want = 0
			}
			checks(t, d, row(to(0x6000, 1, 16)), out, want)
			checks(t, d, row(to(0x6000, 1, 8)), out, api.AbNoMap)
		}
	}
}

func TestCheckAsksBits(t *testing.T) { // P12.2
	for kind, size := range sized() {
		d := made(t, ofType(kind, 15))
		for _, bits := range append(strange(), 1, 8, 16, 24, 32, 48, 64) {
			want := api.AbNoMap
			if bits == 8*size || kind == api.TBool && bits == 1 {
				want = 0
			}
			checks(t, d, row(to(0x6000, 1, bits)), true, want)
			checks(t, d, row(to(0x6000, 1, bits)), false, want)
		}
	}
	for _, kind := range unsized() {
		d := made(t, api.Entry{Index: 0x6000, Sub: 1, Type: kind, Rights: 15, Default: bytesOf(1, 2)})
		for _, bits := range append(strange(), 1, 8, 16, 24, 32, 48, 64) {
			checks(t, d, row(to(0x6000, 1, bits)), true, api.AbNoMap)
			checks(t, d, row(to(0x6000, 1, bits)), false, api.AbNoMap)
		}
	}
}

func TestWhichCodeComesFirst(t *testing.T) { // P12.2
	d := made(t, append(example(),
		api.Entry{Index: 0x6001, Type: api.TUint64, Rights: rwm},
		api.Entry{Index: 0x6002, Type: api.TUint8, Rights: rw},
	)...)
	whole, eight, hole := to(0x6001, 0, 64), to(0x6000, 1, 8), gap(api.TUint8, 8)
	gone, noSub, noMap := to(0x7777, 0, 8), to(0x6001, 1, 8), to(0x6002, 0, 8)
	for _, x := range []struct {
		d       *dict.Dict
		l       []mapping.Map
		out, in api.Abort
	}{
		{d, append(row(gone), times(64, eight)...), api.AbMapLen, api.AbMapLen}, // how many there are, ahead of each
		{nil, append(row(eight), times(64, eight)...), api.AbMapLen, api.AbMapLen},
		{d, append(row(hole), times(64, noMap)...), api.AbMapLen, api.AbMapLen},
		{d, append(row(gone), times(63, eight)...), api.AbNoEntry, api.AbNoEntry},
		{d, row(gone, noMap, noSub), api.AbNoEntry, api.AbNoEntry}, // Map by Map
		{d, row(noMap, gone, noSub), api.AbNoMap, api.AbNoMap},
		{d, row(noSub, gone, noMap), api.AbNoSub, api.AbNoSub},
		{d, row(hole, gone), api.AbNoMap, api.AbNoEntry},
		{d, row(gone, hole), api.AbNoEntry, api.AbNoEntry},
		{d, row(eight, hole, gone), api.AbNoMap, api.AbNoEntry},
		{d, row(whole, gone), api.AbNoEntry, api.AbNoEntry}, // of one Map the bits come last
		{d, row(whole, noSub), api.AbNoSub, api.AbNoSub},
		{d, row(whole, noMap), api.AbNoMap, api.AbNoMap},
		{d, row(whole, hole), api.AbNoMap, api.AbMapLen},
		{d, row(whole, eight, gone), api.AbMapLen, api.AbMapLen}, // of one Map all, ahead of the next one
		{d, row(whole, eight, noMap), api.AbMapLen, api.AbMapLen},
		{d, row(whole, eight, hole), api.AbMapLen, api.AbMapLen},
		{d, row(whole, hole, gone), api.AbNoMap, api.AbMapLen},
		{d, row(to(0x6000, 1, 7), gone), api.AbNoMap, api.AbNoMap},
		{d, row(to(0x6000, 1, 128)), api.AbNoMap, api.AbNoMap}, // too many bits for it, and for a frame
		{d, row(whole, to(0x6000, 1, -8)), api.AbNoMap, api.AbNoMap},
		{d, row(whole, to(0x6000, 1, 0)), api.AbNoMap, api.AbNoMap},
		{d, row(to(0x6000, 1, -8), whole, eight), api.AbNoMap, api.AbNoMap},
		{nil, row(hole), api.AbNoMap, 0},
		{nil, row(hole, eight), api.AbNoMap, api.AbGeneral},
		{nil, row(eight, hole), api.AbGeneral, api.AbGeneral},
		{nil, append(times(8, hole), eight), api.AbNoMap, api.AbGeneral},
		{nil, append(times(9, hole), eight), api.AbNoMap, api.AbMapLen},
	} {
		checks(t, x.d, x.l, true, x.out)
		checks(t, x.d, x.l, false, x.in)
	}
}
