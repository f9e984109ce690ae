package types

import (
	"bytes"
	"encoding/binary"
	"math"
	"testing"

	"campanile/api"
)

// sizes: each type, and its size; 0: it has none.
var sizes = map[uint8]int{
	api.TBool: 1,
	api.TInt8: 1, api.TInt16: 2, api.TInt24: 3, api.TInt32: 4, api.TInt64: 8,
	api.TUint8: 1, api.TUint16: 2, api.TUint24: 3, api.TUint32: 4, api.TUint64: 8,
	api.TReal32: 4, api.TReal64: 8,
	api.TTime: 6, api.TDiff: 6,
	api.TText: 0, api.TOctets: 0, api.TDomain: 0,
}

func real32(bits uint32) []byte {
	return binary.LittleEndian.AppendUint32(nil, bits)
}

func real64(bits uint64) []byte {
	return binary.LittleEndian.AppendUint64(nil, bits)
}

func moments(ms uint32, days uint16) []byte {
	return binary.LittleEndian.AppendUint16(real32(ms), days)
}

func whole(n int64, size int) []byte {
	return binary.LittleEndian.AppendUint64(nil, uint64(n))[:size:size]
}

var nans32 = [][]byte{real32(0x7fc00000), real32(0x7f800001), real32(0xffffffff), real32(0xff800001)}

var nans64 = [][]byte{real64(0x7ff8000000000000), real64(0x7ff0000000000001), real64(math.MaxUint64), real64(0xfff0000000000001)}

// rising: of each type with an order some values, each ahead of the next one, the bounds of the type among them.
func rising() map[uint8][][]byte {
	m := map[uint8][][]byte{api.TBool: {{0}, {1}}}
	for t, size := range map[uint8]int{api.TInt8: 1, api.TInt16: 2, api.TInt24: 3, api.TInt32: 4, api.TInt64: 8} {
		least := int64(-1) << (8*size - 1)
		for _, n := range []int64{least, least + 1, -100, -2, -1, 0, 1, 2, 100, -least - 2, -(least + 1)} {
			m[t] = append(m[t], whole(n, size))
		}
	}
	for t, size := range map[uint8]int{api.TUint8: 1, api.TUint16: 2, api.TUint24: 3, api.TUint32: 4, api.TUint64: 8} {
		half := int64(1) << (8*size - 1)
		for _, n := range []int64{0, 1, 2, 100, half - 1, half, half + 1, -2, -1} {
			m[t] = append(m[t], whole(n, size))
		}
	}
	for _, x := range []uint32{0xff800000, 0xff7fffff, 0xbf800000, 0x80800000, 0x807fffff, 0x80000001, 0x80000000, 0, 1, 2, 0x7fffff, 0x800000, 0x3f7fffff, 0x3f800000, 0x3fc00000, 0x7f7fffff, 0x7f800000} {
		m[api.TReal32] = append(m[api.TReal32], real32(x))
	}
	for _, x := range []uint64{0xfff0000000000000, 0xffefffffffffffff, 0xbff0000000000000, 0x8010000000000000, 0x800fffffffffffff, 0x8000000000000001, 0x8000000000000000, 0, 1, 2, 0xfffffffffffff, 0x10000000000000, 0x3fefffffffffffff, 0x3ff0000000000000, 0x7fefffffffffffff, 0x7ff0000000000000} {
		m[api.TReal64] = append(m[api.TReal64], real64(x))
	}
	for _, t := range []uint8{api.TTime, api.TDiff} {
		m[t] = [][]byte{moments(0, 0), moments(1, 0), moments(256, 0), moments(86399999, 0), moments(0, 1), moments(86399999, 1), moments(5, 256), moments(0, 65535), moments(86399999, 65535)}
	}
	return m
}

// P1.1
func TestRightSizeZero(t *testing.T) {
	for n := range 256 {
		size, is := sizes[uint8(n)]
		if Right(uint8(n)) != is {
			t.Errorf("Right(%d) is not %v", n, is)
		}
		if got, sized := Size(uint8(n)); got != size || sized != (size > 0) {
			t.Errorf("Size(%d): %d %v", n, got, sized)
		}
		if got := Zero(uint8(n)); !bytes.Equal(got, make([]byte, size)) {
			t.Errorf("Zero(%d): %v", n, got)
		}
	}
}

// P1.2: what is no type, too many and too few bytes, in this order.
func TestCheckLengths(t *testing.T) {
	for n := range 256 {
		size, is := sizes[uint8(n)]
		for _, length := range []int{0, 1, 2, 3, 4, 5, 6, 7, 8, 9, api.MaxValue - 1, api.MaxValue, api.MaxValue + 1} {
			want := api.Abort(0)
			switch {
			case !is:
				want = api.AbGeneral
			case size > 0 && length > size, length > api.MaxValue:
				want = api.AbLong
			case length < size:
				want = api.AbShort
			}
			b := make([]byte, length)
			if got := Check(uint8(n), b, nil, nil); got != want {
				t.Errorf("Check(%d, %d bytes): %x, not %x", n, length, got, want)
			}
			if got := Check(uint8(n), b, []byte{}, []byte{}); got != want {
				t.Errorf("Check(%d, %d bytes) with empty bounds: %x, not %x", n, length, got, want)
			}
		}
	}
}

// P1.2: bytes of the right number that are no value all the same.
func TestCheckValues(t *testing.T) {
	for n := range 256 {
		want := api.Abort(0)
		if n > 1 {
			want = api.AbValue
		}
		if got := Check(api.TBool, []byte{byte(n)}, nil, nil); got != want {
			t.Errorf("Check(TBool, %d): %x", n, got)
		}
	}
	for _, x := range []struct {
		ms   uint32
		want api.Abort
	}{{86399999, 0}, {86400000, api.AbValue}, {86400001, api.AbValue}, {1 << 28, api.AbValue}, {math.MaxUint32, api.AbValue}} {
		for _, days := range []uint16{0, 1, 65535} {
			for _, kind := range []uint8{api.TTime, api.TDiff} {
				if got := Check(kind, moments(x.ms, days), nil, nil); got != x.want {
					t.Errorf("Check(%d, %d:%d): %x", kind, days, x.ms, got)
				}
			}
		}
	}
	for _, x := range []struct {
		t    uint8
		b    []byte
		want api.Abort
	}{
		{api.TBool, []byte{2, 2}, api.AbLong},
		{api.TTime, bytes.Repeat([]byte{255}, 7), api.AbLong},
		{api.TTime, bytes.Repeat([]byte{255}, 5), api.AbShort},
		{api.TBool, []byte{2}, api.AbValue},
	} {
		if got := Check(x.t, x.b, []byte{0}, []byte{0}); got != x.want {
			t.Errorf("Check(%d, %v): %x, not %x", x.t, x.b, got, x.want)
		}
	}
	for _, b := range nans32 {
		if got := Check(api.TReal32, b, nil, nil); got != 0 {
			t.Errorf("Check(TReal32, %v): %x", b, got)
		}
	}
}

// P1.2: each value against each pair of bounds, those that are crossed included.
func TestCheckBounds(t *testing.T) {
	for kind, l := range rising() {
		for i, b := range l {
			for j, low := range l {
				if got, want := Check(kind, b, low, nil), below(i, j); got != want {
					t.Errorf("Check(%d, %v, low %v): %x, not %x", kind, b, low, got, want)
				}
				if got, want := Check(kind, b, nil, low), above(i, j); got != want {
					t.Errorf("Check(%d, %v, high %v): %x, not %x", kind, b, low, got, want)
				}
				for k, high := range l {
					want := above(i, k)
					if want == 0 {
						want = below(i, j)
					}
					if got := Check(kind, b, low, high); got != want {
						t.Errorf("Check(%d, %v, %v, %v): %x, not %x", kind, b, low, high, got, want)
					}
				}
			}
		}
	}
}

func above(i, high int) api.Abort {
	if i > high {
		return api.AbHigh
	}
	return 0
}

func below(i, low int) api.Abort {
	if i < low {
		return api.AbLow
	}
	return 0
}

// P1.2: a bound that is no value, or a NaN, is none; of no order there is none either.
func TestCheckBoundsThatAreNone(t *testing.T) {
	for _, x := range []struct {
		t      uint8
		b      []byte
		bounds [][]byte
	}{
		{api.TUint8, []byte{5}, [][]byte{{}, {6, 0}, {4, 0}}},
		{api.TUint16, []byte{5, 0}, [][]byte{{6}, {4}, {6, 0, 0}}},
		{api.TBool, []byte{0}, [][]byte{{2}, {255}}},
		{api.TBool, []byte{1}, [][]byte{{2}, {0, 0}}},
		{api.TTime, moments(1, 1), [][]byte{moments(86400000, 0), moments(86400000, 2), {0}}},
		{api.TReal32, real32(0x3f800000), append(nans32, real64(0))},
		{api.TReal64, real64(0), append(nans64, real32(0))},
		{api.TReal32, nans32[0], append(nans32, []byte{0, 0, 0}, real64(0))},
		{api.TReal64, nans64[0], append(nans64, []byte{1}, real32(0))},
		{api.TText, []byte("b"), [][]byte{[]byte("a"), []byte("c"), {}}},
		{api.TOctets, []byte{5}, [][]byte{{4}, {6}}},
		{api.TDomain, []byte{5}, [][]byte{{4}, {6}}},
	} {
		for _, low := range x.bounds {
			for _, high := range x.bounds {
				if got := Check(x.t, x.b, low, high); got != 0 {
					t.Errorf("Check(%d, %v, %v, %v): %x", x.t, x.b, low, high, got)
				}
			}
		}
	}
}

// P1.2: a bound that is none leaves the other one as it is.
func TestCheckOneBoundThatIsNone(t *testing.T) {
	for _, x := range []struct {
		t            uint8
		b, low, high []byte
		want         api.Abort
	}{
		{api.TUint8, []byte{5}, []byte{9, 9}, []byte{4}, api.AbHigh},
		{api.TUint8, []byte{5}, []byte{6}, []byte{4, 4}, api.AbLow},
		{api.TReal32, real32(0), nans32[0], real32(0x80000000), api.AbHigh},
		{api.TReal32, real32(0x80000000), real32(0), nans32[1], api.AbLow},
		{api.TReal32, nans32[0], real32(0), nans32[1], api.AbValue},
		{api.TReal32, nans32[2], nans32[1], real32(0), api.AbValue},
		{api.TReal32, nans32[3], real32(0xff800000), nil, api.AbValue},
		{api.TReal64, nans64[0], nil, real64(0x7ff0000000000000), api.AbValue},
		{api.TReal64, nans64[1], real64(0xfff0000000000000), real64(0x7ff0000000000000), api.AbValue},
		{api.TReal64, nans64[2], real64(5), real64(1), api.AbValue},
	} {
		if got := Check(x.t, x.b, x.low, x.high); got != x.want {
			t.Errorf("Check(%d, %v, %v, %v): %x, not %x", x.t, x.b, x.low, x.high, got, x.want)
		}
	}
}

// P1.3
func TestCompare(t *testing.T) {
	for kind, l := range rising() {
		for i, a := range l {
			for j, b := range l {
				want := 0
				if i < j {
					want = -1
				} else if i > j {
					want = 1
				}
				if got, ok := Compare(kind, a, b); got != want || !ok {
					t.Errorf("Compare(%d, %v, %v): %d %v, not %d", kind, a, b, got, ok, want)
				}
			}
		}
	}
}

// P1.3: what has no place in an order.
func TestCompareNothing(t *testing.T) {
	nothing := func(kind uint8, a, b []byte) {
		t.Helper()
		if got, ok := Compare(kind, a, b); got != 0 || ok {
			t.Errorf("Compare(%d, %v, %v): %d %v", kind, a, b, got, ok)
		}
		if got, ok := Compare(kind, b, a); got != 0 || ok {
			t.Errorf("Compare(%d, %v, %v): %d %v", kind, b, a, got, ok)
		}
	}
	for kind, l := range rising() {
		good := l[0]
		nothing(kind, good, nil)
		nothing(kind, good, good[1:])
		nothing(kind, good, append(bytes.Clone(good), 0))
		nothing(kind, nil, nil)
	}
	for n := range 256 {
		if _, is := sizes[uint8(n)]; !is {
			nothing(uint8(n), []byte{0}, []byte{0})
			nothing(uint8(n), nil, nil)
		}
	}
	for _, kind := range []uint8{api.TText, api.TOctets, api.TDomain} {
		nothing(kind, []byte("a"), []byte("b"))
		nothing(kind, []byte("a"), []byte("a"))
		nothing(kind, nil, nil)
	}
	for _, b := range nans32 {
		nothing(api.TReal32, b, real32(0))
		nothing(api.TReal32, b, b)
	}
	for _, b := range nans64 {
		nothing(api.TReal64, b, real64(0))
		nothing(api.TReal64, b, b)
	}
	nothing(api.TBool, []byte{0}, []byte{2})
	nothing(api.TTime, moments(0, 0), moments(86400000, 0))
	nothing(api.TDiff, moments(0, 0), moments(86400000, 0))
}
