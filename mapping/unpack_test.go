package mapping_test

import (
	"bytes"
	"testing"

	"campanile/api"
	"campanile/dict"
	"campanile/mapping"
)

func TestUnpackEachType(t *testing.T) { // P12.5
	for kind, b := range patterns() {
		d := made(t,
			api.Entry{Index: 0x6000, Sub: 1, Type: kind, Rights: rwm},
			api.Entry{Index: 0x6001, Type: api.TBool, Rights: rwm, Default: bytesOf(1)})
		m, bit := to(0x6000, 1, 8*len(b)), to(0x6001, 0, 1)
		writes(t, d, row(m), b, is(0x6000, 1, b...))
		if len(b) == 8 {
			continue
		}
		for _, first := range bytesOf(0, 1) {
			writes(t, d, row(bit, m), shifted(first, b), is(0x6001, 0, first), is(0x6000, 1, b...))
			writes(t, d, row(m, bit), append(bytes.Clone(b), first), is(0x6000, 1, b...), is(0x6001, 0, first))
		}
	}
}

func TestUnpackNothing(t *testing.T) { // P12.5
	d := made(t, example()...)
	for _, d := range []*dict.Dict{d, nil, {}} {
		for _, b := range [][]byte{nil, {}, {1}, make([]byte, 100)} {
			writes(t, d, nil, b)
			writes(t, d, row(), b)
		}
	}
}

func TestTooFewBytes(t *testing.T) { // P12.5
	d := made(t, example()...)
	b := bytesOf(5, 2, 0, 0)
	for n := range b {
		refuses(t, d, exampleRow(), b[:n], api.AbLength)
	}
	refuses(t, d, exampleRow(), nil, api.AbLength)
	refuses(t, d, row(to(0x6000, 2, 1)), nil, api.AbLength)
	refuses(t, d, times(9, to(0x6000, 2, 1)), bytesOf(255), api.AbLength)
	refuses(t, d, times(64, to(0x6000, 2, 1)), make([]byte, 7), api.AbLength)
	for _, d := range []*dict.Dict{d, nil} { // bits of a gap must be there, too
		refuses(t, d, row(gap(api.TUint64, 64)), make([]byte, 7), api.AbLength)
		refuses(t, d, row(gap(api.TBool, 1)), nil, api.AbLength)
	}
	refuses(t, d, row(to(0x6000, 1, 8), gap(api.TUint8, 8)), bytesOf(5), api.AbLength)
	refuses(t, d, row(gap(api.TBool, 8), to(0x6000, 2, 8)), bytesOf(1), api.AbLength)
}

func TestBytesBehind(t *testing.T) { // P12.5: they are left out, and so are the bits behind the last one
	l := exampleRow()
	for _, b := range [][]byte{{5, 2, 0, 0}, {5, 2, 0, 0, 0}, {5, 2, 0, 0, 255, 255, 255, 255}, append(bytesOf(5, 2, 0, 0), make([]byte, 5000)...), {5, 2, 0, 0xFE}, {5, 2, 0, 0x54, 0xFF}} {
		d := made(t, example()...)
		writes(t, d, l, b, is(0x6000, 1, 5), is(0x6000, 2, 0), is(0x6000, 3, 1, 0))
	}
	d := made(t, example()...)
	writes(t, d, row(to(0x6000, 2, 1)), bytesOf(0xFE), is(0x6000, 2, 0))
	writes(t, d, row(to(0x6000, 2, 1)), bytesOf(0xFF), is(0x6000, 2, 1))
}

func TestGapsAreLeftOut(t *testing.T) { // P12.5
	for kind, size := range sized() {
		d := made(t, example()...)
		hole := gap(kind, 8*size)
		b := append(bytes.Repeat(bytesOf(0xFF), size), 9)
		if size < 8 {
			writes(t, d, row(hole, to(0x6000, 1, 8)), b, is(0x6000, 1, 9))
			writes(t, d, row(to(0x6000, 1, 8), hole), append(bytesOf(8), b...), is(0x6000, 1, 8))
		}
		writes(t, d, row(hole), b) // any bits, also such as are no value of its type
		writes(t, nil, row(hole), b)
	}
	d := made(t, example()...)
	one := gap(api.TBool, 1)
	writes(t, d, row(one, to(0x6000, 2, 1), one, to(0x6000, 1, 8)), bytesOf(0x5D, 0xFA), is(0x6000, 2, 0), is(0x6000, 1, 0x4B))
	writes(t, d, row(one, to(0x6000, 2, 1), one, to(0x6000, 1, 8)), bytesOf(0xA2, 0x05), is(0x6000, 2, 1), is(0x6000, 1, 0xB4))
	writes(t, d, append(times(7, gap(api.TUint8, 8)), to(0x6000, 1, 8)), bytesOf(1, 2, 3, 4, 5, 6, 7, 8), is(0x6000, 1, 8))
	writes(t, d, times(64, one), bytes.Repeat(bytesOf(255), 8))
}

// bounded tells entries with bounds: a byte from 2 to 9, a bool, a word from -5 to 5, a float of at least 0, a time, a byte without bounds.
func bounded() []api.Entry {
	return []api.Entry{
		{Index: 0x6000, Sub: 1, Type: api.TUint8, Rights: rwm, Default: bytesOf(3), Low: bytesOf(2), High: bytesOf(9)},
		{Index: 0x6000, Sub: 2, Type: api.TBool, Rights: rwm, Default: bytesOf(1)},
		{Index: 0x6000, Sub: 3, Type: api.TInt16, Rights: rwm, Low: bytesOf(251, 255), High: bytesOf(5, 0)},
		{Index: 0x6000, Sub: 4, Type: api.TReal32, Rights: rwm, Low: bytesOf(0, 0, 0, 0)},
		{Index: 0x6000, Sub: 5, Type: api.TTime, Rights: rwm},
		{Index: 0x6000, Sub: 6, Type: api.TUint8, Rights: rwm},
		{Index: 0x6000, Sub: 7, Type: api.TBool, Rights: rwm, Default: bytesOf(1), Low: bytesOf(1)},
	}
}

func TestOutOfBounds(t *testing.T) { // P12.5: nothing is written, of the values ahead neither
	d := made(t, bounded()...)
	free, low, word, real := to(0x6000, 6, 8), to(0x6000, 1, 8), to(0x6000, 3, 16), to(0x6000, 4, 32)
	refuses(t, d, row(low), bytesOf(10), api.AbHigh)
	refuses(t, d, row(low), bytesOf(1), api.AbLow)
	refuses(t, d, row(free, low), bytesOf(77, 10), api.AbHigh)
	refuses(t, d, row(free, low), bytesOf(77, 1), api.AbLow)
	refuses(t, d, row(low, free), bytesOf(1, 77), api.AbLow)
	refuses(t, d, row(free, word, free), bytesOf(77, 6, 0, 88), api.AbHigh)
	refuses(t, d, row(free, word, free), bytesOf(77, 250, 255, 88), api.AbLow)
	refuses(t, d, row(free, real), bytesOf(77, 0, 0, 192, 127), api.AbValue) // no number
	refuses(t, d, row(free, real), bytesOf(77, 0, 0, 0, 128), api.AbLow)     // -0
	refuses(t, d, row(free, to(0x6000, 5, 48)), bytesOf(77, 0, 0x5C, 0x26, 5, 0, 0), api.AbValue)
	refuses(t, d, row(free, to(0x6000, 7, 1)), bytesOf(77, 0xFE), api.AbLow)
	refuses(t, d, row(low, word), bytesOf(10, 250, 255), api.AbHigh) // the first one's code
	refuses(t, d, row(word, low), bytesOf(250, 255, 10), api.AbLow)
	refuses(t, d, row(gap(api.TUint8, 8), low, free), bytesOf(5, 10, 5), api.AbHigh)
	writes(t, d, row(free, low, word, real), bytesOf(77, 9, 251, 255, 0, 0, 0, 0), is(0x6000, 6, 77), is(0x6000, 1, 9), is(0x6000, 3, 251, 255), is(0x6000, 4, 0, 0, 0, 0))
	writes(t, d, row(low, word, to(0x6000, 7, 1)), bytesOf(2, 5, 0, 1), is(0x6000, 1, 2), is(0x6000, 3, 5, 0), is(0x6000, 7, 1))
	writes(t, d, row(to(0x6000, 5, 48)), bytesOf(0xFF, 0x5B, 0x26, 5, 0, 0), is(0x6000, 5, 0xFF, 0x5B, 0x26, 5, 0, 0))
}

func TestBoolOfEightBits(t *testing.T) { // P12.5
	d := made(t, bounded()...)
	eight, free := to(0x6000, 2, 8), to(0x6000, 6, 8)
	for b := range 256 {
		if b > 1 {
			refuses(t, d, row(free, eight), bytesOf(77, byte(b)), api.AbValue)
			continue
		}
		writes(t, d, row(free, eight), bytesOf(77, byte(b)), is(0x6000, 6, 77), is(0x6000, 2, byte(b)))
	}
	for b := range 256 { // of 1 bit the others do not count
		writes(t, d, row(free, to(0x6000, 2, 1)), bytesOf(77, byte(b)), is(0x6000, 6, 77), is(0x6000, 2, byte(b&1)))
	}
}

func TestOnePlaceTwice(t *testing.T) { // P12.5: each is told and written, in order
	d := made(t, bounded()...)
	m, other := to(0x6000, 1, 8), to(0x6000, 6, 8)
	writes(t, d, row(m, m), bytesOf(4, 5), is(0x6000, 1, 4), is(0x6000, 1, 5))
	value(t, d, at(0x6000, 1), 5)
	if n := d.Changes(); n != 2 {
		t.Errorf("%d changes", n)
	}
	writes(t, d, row(m, other, m, other), bytesOf(6, 60, 7, 70), is(0x6000, 1, 6), is(0x6000, 6, 60), is(0x6000, 1, 7), is(0x6000, 6, 70))
	value(t, d, at(0x6000, 1), 7)
	value(t, d, at(0x6000, 6), 70)
	writes(t, d, row(to(0x6000, 2, 8), to(0x6000, 2, 1)), bytesOf(1, 0), is(0x6000, 2, 1), is(0x6000, 2, 0))
	value(t, d, at(0x6000, 2), 0)
	refuses(t, d, row(m, m), bytesOf(4, 10), api.AbHigh)
	refuses(t, d, row(m, m), bytesOf(10, 4), api.AbHigh)
	value(t, d, at(0x6000, 1), 7)
}

func TestUnpackRefuses(t *testing.T) { // P12.5: Check's code, ahead of all else
	d := made(t, append(bounded(),
		api.Entry{Index: 0x6001, Type: api.TUint8, Rights: api.RWrite | api.RMap},
		api.Entry{Index: 0x6002, Type: api.TUint8, Rights: api.RRead | api.RMap, Default: bytesOf(6)},
	)...)
	ok := to(0x6000, 1, 8)
	for _, b := range [][]byte{nil, {10}, {5, 5, 5, 5, 5, 5, 5, 5, 5}} {
		refuses(t, nil, row(ok), b, api.AbGeneral)
		refuses(t, nil, row(gap(api.TUint8, 8), ok), b, api.AbGeneral)
		refuses(t, d, row(ok, to(0x6002, 0, 8)), b, api.AbNoMap) // it may not be written
		refuses(t, d, row(ok, to(0x6000, 1, 7)), b, api.AbNoMap)
		refuses(t, d, row(ok, to(0x6000, 9, 8)), b, api.AbNoSub)
		refuses(t, d, row(ok, to(0x6009, 9, 8)), b, api.AbNoEntry)
		refuses(t, d, times(9, ok), b, api.AbMapLen)
		refuses(t, d, times(65, ok), b, api.AbMapLen)
	}
	refuses(t, d, row(ok, ok), bytesOf(10), api.AbLength) // ahead of what the value is
	writes(t, d, row(to(0x6001, 0, 8)), bytesOf(9), is(0x6001, 0, 9))
}

// What is packed of one dictionary, and written to another one, is there.
func TestPackedAndWritten(t *testing.T) { // P12.7
	from, into := eachType(t), eachType(t)
	for kind, b := range patterns() {
		if code := into.Write(at(0x6000, kind), make([]byte, len(b))); code != 0 {
			t.Fatal(code)
		}
	}
	into.Write(at(0x6001, 0), bytesOf(0))
	all := times(1, to(0x6001, 0, 1))
	for kind, b := range patterns() {
		all = append(all, to(0x6000, kind, 8*len(b)))
	}
	for _, m := range all {
		for _, l := range [][]mapping.Map{row(m), row(to(0x6000, api.TBool, 1), m), row(m, to(0x6000, api.TBool, 1)), row(to(0x6001, 0, 1), to(0x6000, api.TBool, 8), m)} {
			b, code := mapping.Pack(from, l)
			if code == api.AbMapLen && mapping.Size(l) > 8 {
				continue
			}
			if code != 0 {
				t.Fatalf("Pack(%x): %x", l, code)
			}
			if code := mapping.Write(into, l, b); code != 0 {
				t.Errorf("Write(%x, % x): %x", l, b, code)
			}
			for _, m := range l {
				want, _ := from.Get(m.Place)
				value(t, into, m.Place, want...)
			}
		}
	}
	for _, m := range all {
		want, _ := from.Get(m.Place)
		value(t, into, m.Place, want...)
	}
}
