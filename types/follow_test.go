package types

import (
	"bytes"
	"math"
	"math/big"
	"strconv"
	"strings"
	"testing"

	"campanile/api"
)

// A row of numbers without a rule to be seen, the same in each run.
type row uint64

func (r *row) next() uint64 {
	*r = *r*6364136223846793005 + 1442695040888963407
	n := uint64(*r)
	return (n ^ n>>29) * 0xbf58476d1ce4e5b9 >> 7
}

func (r *row) below(n int) int { return int(r.next() % uint64(n)) }

func (r *row) bytes(n int) []byte {
	b := make([]byte, n)
	for i := range b {
		b[i] = byte(r.next() >> 20)
	}
	return b
}

// value tells some value of the type.
func (r *row) value(t uint8) []byte {
	size := sizes[t]
	if size == 0 {
		size = r.below(20)
	}
	b := r.bytes(size)
	switch t {
	case api.TBool:
		b[0] &= 1
	case api.TTime, api.TDiff:
		return moments(uint32(r.below(86400000)), uint16(r.next()))
	}
	if r.below(4) == 0 && len(b) >= 4 { // exponents at their ends
		b[len(b)-1] |= 0x7f
		b[len(b)-2] |= 0xf0
	}
	return b
}

// aside hands a list out with bytes behind its length, and tells whether any of it has changed since.
func aside(b []byte) ([]byte, func() bool) {
	room := append(bytes.Clone(b), 0xa5, 0xa5, 0xa5, 0xa5)
	before := bytes.Clone(room)
	return room[:len(b)], func() bool { return !bytes.Equal(room, before) }
}

// P1.6: what is handed in is only read, what is answered is new memory.
func TestMemory(t *testing.T) {
	r := row(1)
	for kind := range sizes {
		for range 50 {
			a, changedA := aside(r.value(kind))
			b, changedB := aside(r.value(kind))
			c, changedC := aside(r.value(kind))
			Check(kind, a, b, c)
			Compare(kind, a, b)
			s, _ := Text(kind, c)
			if changedA() || changedB() || changedC() {
				t.Fatalf("type %d: what was handed in has changed", kind)
			}
			if len(c) == 0 {
				continue
			}
			c[0]++
			again, _ := Value(kind, s)
			first := bytes.Clone(again)
			again[0]++
			if other, _ := Value(kind, s); !bytes.Equal(other, first) {
				t.Fatalf("Value(%d, %q): %v, then %v", kind, s, first, other)
			}
		}
		if z := Zero(kind); len(z) > 0 {
			z[0] = 1
			if Zero(kind)[0] != 0 {
				t.Fatalf("Zero(%d) shares memory", kind)
			}
		}
	}
}

// P1.6: none of this panics, and what is answered fits together.
func TestAnything(t *testing.T) {
	r := row(2)
	const letters = "0123456789abcdefxABCDEFpn-+:\"\\\x00\xff inftrue"
	for range 100000 {
		kind := uint8(r.below(32))
		a, b, c := r.bytes(r.below(10)), r.bytes(r.below(10)), r.bytes(r.below(10))
		free := Check(kind, a, nil, nil)
		if code := Check(kind, a, b, c); free != 0 && code != free {
			t.Fatalf("Check(%d, %v, %v, %v): %x, without bounds %x", kind, a, b, c, code, free)
		}
		if _, e := Text(kind, a); (e == api.OK) != (free == 0) {
			t.Fatalf("Text(%d, %v): %v", kind, a, e)
		}
		Compare(kind, a, b)
		s := make([]byte, r.below(8))
		for i := range s {
			s[i] = letters[r.below(len(letters))]
		}
		v, e := Value(kind, string(s))
		switch {
		case e == api.OK && Check(kind, v, nil, nil) != 0:
			t.Fatalf("Value(%d, %q): %v, which is none", kind, s, v)
		case e != api.OK && len(v) > 0:
			t.Fatalf("Value(%d, %q): %v and %v", kind, s, v, e)
		}
	}
}

func backAndForth(t *testing.T, kind uint8, b []byte) {
	t.Helper()
	s, e := Text(kind, b)
	if e != api.OK {
		t.Fatalf("Text(%d, %v): %v", kind, b, e)
	}
	if got, e := Value(kind, s); e != api.OK || !bytes.Equal(got, b) {
		t.Fatalf("Value(%d, %q): %v %v, not %v", kind, s, got, e, b)
	}
}

// P1.7: Value of Text is the bytes.
func TestValueOfText(t *testing.T) {
	for kind, size := range sizes {
		if size == 2 || size == 1 && kind != api.TBool {
			for n := range 1 << (8 * size) {
				backAndForth(t, kind, whole(int64(n), size))
			}
		}
	}
	r := row(3)
	for kind := range sizes {
		for range 20000 {
			backAndForth(t, kind, r.value(kind))
		}
	}
	for _, l := range [][][]byte{nans32, rising()[api.TReal32]} {
		for _, b := range l {
			backAndForth(t, api.TReal32, b)
		}
	}
	for _, l := range [][][]byte{nans64, rising()[api.TReal64]} {
		for _, b := range l {
			backAndForth(t, api.TReal64, b)
		}
	}
}

// P1.7: Compare is an order, and bounds go by it.
func TestOrder(t *testing.T) {
	r := row(4)
	for kind, l := range rising() {
		for range 60 {
			if b := r.value(kind); hasPlaceByBounds(kind, b) {
				l = append(l, b)
			}
		}
		for _, a := range l {
			for _, b := range l {
				ab, ok := Compare(kind, a, b)
				ba, turned := Compare(kind, b, a)
				if !ok || !turned || ab != -ba || (ab == 0) != bytes.Equal(a, b) {
					t.Fatalf("Compare(%d, %v, %v): %d, turned %d", kind, a, b, ab, ba)
				}
				for _, c := range l {
					bc, _ := Compare(kind, b, c)
					ac, _ := Compare(kind, a, c)
					if ab < 0 && bc < 0 && ac >= 0 {
						t.Fatalf("type %d: %v, %v, %v are no order", kind, a, b, c)
					}
					if ab <= 0 && bc <= 0 && Check(kind, b, a, c) != 0 {
						t.Fatalf("type %d: %v is not within %v and %v", kind, b, a, c)
					}
				}
			}
		}
	}
}

// hasPlaceByBounds: a NaN is no value within bounds, whatever these are.
func hasPlaceByBounds(kind uint8, b []byte) bool {
	return Check(kind, b, Zero(kind), nil) != api.AbValue
}

// P1.3: numbers by the order of Go's own.
func TestOrderByNumbers(t *testing.T) {
	r := row(5)
	for range 20000 {
		a, b := r.value(api.TReal32), r.value(api.TReal32)
		x, y := math.Float32frombits(uint32(number(a))), math.Float32frombits(uint32(number(b)))
		if got, ok := Compare(api.TReal32, a, b); ok && (got < 0) != (x < y) && x != y || ok == (x != x || y != y) {
			t.Fatalf("Compare(TReal32, %v, %v): %d %v", x, y, got, ok)
		}
		a, b = r.value(api.TReal64), r.value(api.TReal64)
		v, w := math.Float64frombits(number(a)), math.Float64frombits(number(b))
		if got, ok := Compare(api.TReal64, a, b); ok && (got < 0) != (v < w) && v != w || ok == (v != v || w != w) {
			t.Fatalf("Compare(TReal64, %v, %v): %d %v", v, w, got, ok)
		}
	}
}

// P1.4: the text of a float is the number that the library reads in its bits.
func TestFloatTexts(t *testing.T) {
	r := row(6)
	for range 20000 {
		for _, kind := range []uint8{api.TReal32, api.TReal64} {
			b := r.value(kind)
			want := math.Float64frombits(number(b))
			if kind == api.TReal32 {
				want = float64(math.Float32frombits(uint32(number(b))))
			}
			if math.IsNaN(want) || math.IsInf(want, 0) || want == 0 {
				continue
			}
			s, _ := Text(kind, b)
			m, e, _ := strings.Cut(s, "p")
			mantissa, _ := new(big.Int).SetString(m, 10)
			power, _ := strconv.Atoi(e)
			x := new(big.Float).SetPrec(64).SetInt(mantissa)
			x.SetMantExp(x, power)
			if mantissa.Bit(0) != 1 || x.Cmp(big.NewFloat(want)) != 0 {
				t.Fatalf("Text(%d, %v): %s, for %v", kind, b, s, want)
			}
		}
	}
}

// P1.5: m p e is read exactly where the library finds just that float.
func TestFloatValues(t *testing.T) {
	r := row(7)
	read := 0
	for range 200000 {
		m := r.next()<<57 ^ r.next()
		m = m >> r.below(64) << r.below(64)
		e := r.below(2400) - 1200
		if r.below(2) == 0 {
			e = r.below(400) - 250
		}
		sign := ""
		if r.below(2) == 0 {
			sign = "-"
		}
		s := sign + strconv.FormatUint(m, 10) + "p" + strconv.Itoa(e)
		x := new(big.Float).SetPrec(64).SetUint64(m)
		x.SetMantExp(x, e)
		if sign == "-" {
			x.Neg(x)
		}
		small, accuracy := x.Float32()
		read += held(t, api.TReal32, s, real32(math.Float32bits(small)), accuracy == big.Exact)
		great, accuracy := x.Float64()
		read += held(t, api.TReal64, s, real64(math.Float64bits(great)), accuracy == big.Exact)
	}
	if read < 50000 {
		t.Fatalf("only %d of these were floats", read)
	}
}

// held holds Value against what is right, and counts what is read.
func held(t *testing.T, kind uint8, s string, want []byte, exact bool) int {
	t.Helper()
	b, e := Value(kind, s)
	switch {
	case exact && e == api.OK && bytes.Equal(b, want):
		return 1
	case !exact && e == api.ErrText && len(b) == 0:
		return 0
	}
	t.Fatalf("Value(%d, %s): %v %v, not %v (%v)", kind, s, b, e, want, exact)
	return 0
}
