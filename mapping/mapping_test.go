package mapping_test

import (
	"bytes"
	"fmt"
	"math"
	"slices"
	"strings"
	"testing"

	"campanile/api"
	"campanile/dict"
	"campanile/mapping"
)

const (
	r   = api.RRead
	w   = api.RWrite
	rw  = r | w
	rwm = r | w | api.RMap
)

func at(index uint16, sub uint8) api.Place { return api.Place{Index: index, Sub: sub} }

// to tells a Map of a place.
func to(index uint16, sub uint8, bits int) mapping.Map {
	return mapping.Map{Place: at(index, sub), Bits: bits}
}

// gap tells a Map that leaves bits out.
func gap(kind uint8, bits int) mapping.Map { return to(uint16(kind), 0, bits) }

// row tells Maps as a list.
func row(l ...mapping.Map) []mapping.Map { return l }

// times tells a Map so many times.
func times(n int, m mapping.Map) []mapping.Map { return slices.Repeat(row(m), n) }

// bytesOf tells bytes as a list.
func bytesOf(b ...byte) []byte { return b }

// sized tells the types of a fixed size, with their bytes, as the chapter of types has them.
func sized() map[uint8]int {
	return map[uint8]int{
		api.TBool: 1, api.TInt8: 1, api.TInt16: 2, api.TInt24: 3, api.TInt32: 4, api.TInt64: 8,
		api.TUint8: 1, api.TUint16: 2, api.TUint24: 3, api.TUint32: 4, api.TUint64: 8,
		api.TReal32: 4, api.TReal64: 8, api.TTime: 6, api.TDiff: 6,
	}
}

// unsized tells the other types.
func unsized() []uint8 { return bytesOf(api.TText, api.TOctets, api.TDomain) }

// made tells a dictionary of entries that must be taken.
func made(t *testing.T, l ...api.Entry) *dict.Dict {
	t.Helper()
	d, errno := dict.New(l)
	if d == nil || errno != api.OK {
		t.Fatalf("New: %v, %d", d, errno)
	}
	return d
}

// example tells the chapter's entries.
func example() []api.Entry {
	return []api.Entry{
		{Index: 0x6000, Sub: 1, Type: api.TUint8, Rights: 15, Default: bytesOf(3)},
		{Index: 0x6000, Sub: 2, Type: api.TBool, Rights: 15, Default: bytesOf(1)},
		{Index: 0x6000, Sub: 3, Type: api.TInt16, Rights: 15, Default: bytesOf(254, 255)},
	}
}

// exampleRow tells the chapter's mapping: 8 bits, 1 bit, 16 bits.
func exampleRow() []mapping.Map {
	return row(to(0x6000, 1, 8), to(0x6000, 2, 1), to(0x6000, 3, 16))
}

// told tells all that a dictionary shows: each entry with its value, and how many changes there were.
func told(d *dict.Dict) string {
	var all strings.Builder
	for _, e := range d.Entries() {
		b, ok := d.Get(at(e.Index, e.Sub))
		fmt.Fprintf(&all, "%v = %v %t\n", e, b, ok)
	}
	fmt.Fprintf(&all, "%d changes", d.Changes())
	return all.String()
}

// value holds a value against what is wanted.
func value(t *testing.T, d *dict.Dict, p api.Place, want ...byte) {
	t.Helper()
	if b, ok := d.Get(p); !ok || !bytes.Equal(b, want) {
		t.Errorf("Get(%x): %v, %t, want %v", p, b, ok, want)
	}
}

// checks holds Check's code against what is wanted, and that nothing has changed by it.
func checks(t *testing.T, d *dict.Dict, l []mapping.Map, out bool, want api.Abort) {
	t.Helper()
	before := told(d)
	if code := mapping.Check(d, l, out); code != want {
		t.Errorf("Check(%x, %t): %x, want %x", l, out, code, want)
	}
	if told(d) != before {
		t.Errorf("Check(%x, %t) has changed the dictionary", l, out)
	}
}

// packs holds what is packed against what is wanted, and that nothing has changed by it.
func packs(t *testing.T, d *dict.Dict, l []mapping.Map, want ...byte) {
	t.Helper()
	before := told(d)
	if b, code := mapping.Pack(d, l); code != 0 || !bytes.Equal(b, want) {
		t.Errorf("Pack(%x): % x, %x, want % x", l, b, code, want)
	}
	if told(d) != before {
		t.Errorf("Pack(%x) has changed the dictionary", l)
	}
}

// refuses holds that bytes are refused with a code, by Unpack and by Write, and that nothing has changed by it.
func refuses(t *testing.T, d *dict.Dict, l []mapping.Map, b []byte, want api.Abort) {
	t.Helper()
	before := told(d)
	if values, code := mapping.Unpack(d, l, b); len(values) != 0 || code != want {
		t.Errorf("Unpack(%x, % x): %v, %x, want %x", l, b, values, code, want)
	}
	if code := mapping.Write(d, l, b); code != want {
		t.Errorf("Write(%x, % x): %x, want %x", l, b, code, want)
	}
	if told(d) != before {
		t.Errorf("%x, % x: what was refused has changed\n%s\nto\n%s", l, b, before, told(d))
	}
}

// sameValues: are the values the same, in order?
func sameValues(a, b []mapping.Value) bool {
	return slices.EqualFunc(a, b, func(a, b mapping.Value) bool { return a.Place == b.Place && bytes.Equal(a.B, b.B) })
}

// writes holds that bytes are these values, by Unpack, which changes nothing, and by Write, which writes just them.
func writes(t *testing.T, d *dict.Dict, l []mapping.Map, b []byte, want ...mapping.Value) {
	t.Helper()
	before := told(d)
	if values, code := mapping.Unpack(d, l, b); code != 0 || !sameValues(values, want) {
		t.Errorf("Unpack(%x, % x): %v, %x, want %v", l, b, values, code, want)
	}
	if told(d) != before {
		t.Errorf("Unpack(%x, % x) has changed the dictionary", l, b)
	}
	wanted := d.Copy()
	for _, v := range want {
		if code := wanted.Write(v.Place, v.B); code != 0 {
			t.Fatalf("%x can't be %v: %x", v.Place, v.B, code)
		}
	}
	if code := mapping.Write(d, l, b); code != 0 || told(d) != told(wanted) {
		t.Errorf("Write(%x, % x): %x\n%s\nwant\n%s", l, b, code, told(d), told(wanted))
	}
}

// is tells a value for a place.
func is(index uint16, sub uint8, b ...byte) mapping.Value {
	return mapping.Value{Place: at(index, sub), B: b}
}

func TestExamples(t *testing.T) {
	d := made(t, example()...)
	if m := mapping.Of(0x60000108); m != to(0x6000, 1, 8) {
		t.Errorf("Of: %x", m)
	}
	l := exampleRow()
	packs(t, d, l, 0x03, 0xFD, 0xFF, 0x01)
	refuses(t, d, l, bytesOf(5, 2, 0), api.AbLength)
	if code := mapping.Write(d, l, bytesOf(5, 2, 0, 0)); code != 0 {
		t.Errorf("Write: %x", code)
	}
	value(t, d, at(0x6000, 1), 5)
	value(t, d, at(0x6000, 2), 0)
	value(t, d, at(0x6000, 3), 1, 0)
	for _, out := range []bool{true, false} {
		checks(t, d, row(to(0x6000, 1, 7)), out, api.AbNoMap)
		checks(t, d, times(9, to(0x6000, 1, 8)), out, api.AbMapLen)
	}
	checks(t, d, row(gap(api.TUint32, 32)), true, api.AbNoMap)
}

func TestOf(t *testing.T) { // P12.1
	for n, want := range map[uint32]mapping.Map{
		0:          {},
		1:          to(0, 0, 1),
		0xFF:       to(0, 0, 255),
		0x100:      to(0, 1, 0),
		0xFF00:     to(0, 255, 0),
		0x10000:    to(1, 0, 0),
		0xFFFF0000: to(0xFFFF, 0, 0),
		0x12345678: to(0x1234, 0x56, 0x78),
		0x00070020: to(7, 0, 32),
		0x80018001: to(0x8001, 0x80, 1),
		0xFFFFFFFF: to(0xFFFF, 255, 255),
	} {
		if m := mapping.Of(n); m != want {
			t.Errorf("Of(%x): %x, want %x", n, m, want)
		}
		if got := want.Number(); got != n {
			t.Errorf("Number of %x: %x, want %x", want, got, n)
		}
	}
}

func TestNumberThereAndBack(t *testing.T) { // P12.1
	for bit := range 32 {
		for _, n := range []uint32{1 << bit, ^uint32(0) << bit, ^(uint32(1) << bit), 0x9E3779B9 * uint32(bit+1)} {
			if got := mapping.Of(n).Number(); got != n {
				t.Errorf("Of(%x) has the number %x", n, got)
			}
		}
	}
	for bits := range 256 {
		for _, p := range []api.Place{at(0, 0), at(0, 255), at(0xFFFF, 0), at(0x6000, 1), at(0xFFFF, 255)} {
			m := mapping.Map{Place: p, Bits: bits}
			if got := mapping.Of(m.Number()); got != m {
				t.Errorf("the Map of the number of %x: %x", m, got)
			}
		}
	}
}

func TestNumberOfOtherBits(t *testing.T) { // P12.1
	for bits, want := range map[int]uint32{
		-1: 0, 0: 0x60000100, 255: 0x600001FF, 256: 0, 257: 0, 264: 0, 65536: 0, -256: 0, -248: 0,
		1 << 32: 0, 1<<32 + 8: 0, math.MaxInt: 0, math.MinInt: 0, math.MinInt + 8: 0,
	} {
		if got := to(0x6000, 1, bits).Number(); got != want {
			t.Errorf("Number of %d bits: %x, want %x", bits, got, want)
		}
	}
}

func TestSize(t *testing.T) { // P12.3
	bit, byte8 := to(0x6000, 2, 1), to(0x6000, 1, 8)
	for _, x := range []struct {
		l    []mapping.Map
		want int
	}{
		{nil, 0}, {row(), 0},
		{row(bit), 1}, {times(7, bit), 1}, {times(8, bit), 1}, {times(9, bit), 2}, {times(16, bit), 2}, {times(17, bit), 3},
		{times(56, bit), 7}, {times(57, bit), 8}, {times(64, bit), 8},
		{row(byte8), 1}, {row(byte8, bit), 2}, {row(bit, byte8), 2}, {times(8, byte8), 8},
		{row(byte8, bit, to(0x6000, 3, 16)), 4},
		{row(gap(api.TBool, 1), gap(api.TUint16, 16)), 3}, // a gap takes its bits
		{row(to(0x6000, 3, 64)), 8},
	} {
		if got := mapping.Size(x.l); got != x.want {
			t.Errorf("Size(%x): %d, want %d", x.l, got, x.want)
		}
	}
}

// Whatever the Maps are, each call ends and none panics.
func TestStrangeMaps(t *testing.T) { // the rules that hold everywhere
	all := []*dict.Dict{nil, {}, made(t, example()...)}
	for _, bits := range []int{math.MinInt, math.MinInt + 1, -1 << 32, -64, -8, -1, 0, 1, 7, 8, 9, 255, 256, 1 << 31, 1<<32 + 8, math.MaxInt - 7, math.MaxInt} {
		for _, p := range []api.Place{{}, at(1, 0), at(5, 0), at(0x105, 0), at(0x6000, 1), at(0x6000, 2), at(0xFFFF, 255)} {
			m := mapping.Map{Place: p, Bits: bits}
			for _, l := range [][]mapping.Map{row(m), row(m, m), row(to(0x6000, 1, 8), m), times(64, m), times(65, m), times(1000, m)} {
				mapping.Size(l)
				for _, d := range all {
					was := told(d)
					mapping.Check(d, l, true)
					mapping.Check(d, l, false)
					mapping.Pack(d, l)
					mapping.Unpack(d, l, nil)
					mapping.Unpack(d, l, make([]byte, 9))
					if mapping.Write(d, l, nil) == 0 || told(d) != was {
						t.Errorf("no bytes were written by %x", l[:1])
					}
				}
			}
		}
	}
}
