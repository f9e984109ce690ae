package mapping_test

import (
	"bytes"
	"slices"
	"testing"

	"campanile/api"
	"campanile/mapping"
)

// spoil writes over bytes, and over what lies behind their length.
func spoil(b []byte) {
	for i := range b[:cap(b)] {
		b[:cap(b)][i] ^= 0xFF
	}
}

// What is handed in is not changed, what lies behind its length included.
func TestArgumentsAreLeft(t *testing.T) { // P12.6
	for _, x := range []struct {
		l []mapping.Map
		b []byte
	}{
		{exampleRow(), bytesOf(5, 2, 0, 0)},
		{exampleRow(), bytesOf(5, 2)},
		{row(gap(api.TUint16, 16), to(0x6000, 2, 1)), bytesOf(5, 2, 0)},
		{row(to(0x6000, 2, 8)), bytesOf(2)},
		{row(to(0x6000, 1, 7)), bytesOf(2)},
		{times(9, to(0x6000, 1, 8)), bytesOf(2)},
		{nil, nil},
	} {
		roomL := append(slices.Clone(x.l), to(0x1234, 5, 6), to(0x4321, 6, 7))
		roomB := append(bytes.Clone(x.b), 0xA5, 0xA5, 0xA5, 0xA5, 0xA5, 0xA5, 0xA5, 0xA5)
		wasL, wasB := slices.Clone(roomL), bytes.Clone(roomB)
		l, b := roomL[:len(x.l)], roomB[:len(x.b)]
		d := made(t, example()...)
		mapping.Check(d, l, true)
		mapping.Check(d, l, false)
		mapping.Size(l)
		mapping.Pack(d, l)
		mapping.Unpack(d, l, b)
		mapping.Write(d, l, b)
		if !slices.Equal(roomL, wasL) || !bytes.Equal(roomB, wasB) {
			t.Errorf("%x, % x have become %x, % x", wasL, wasB, roomL, roomB)
		}
	}
}

// What is handed in is not kept: what becomes of it is not seen.
func TestArgumentsAreNotKept(t *testing.T) { // P12.6
	d := made(t, example()...)
	l, b := exampleRow(), bytesOf(5, 2, 0, 0)
	values, _ := mapping.Unpack(d, l, b)
	mapping.Write(d, l, b)
	spoil(b)
	clear(l)
	want := []mapping.Value{is(0x6000, 1, 5), is(0x6000, 2, 0), is(0x6000, 3, 1, 0)}
	if !sameValues(values, want) {
		t.Errorf("%v, want %v", values, want)
	}
	for _, v := range want {
		value(t, d, v.Place, v.B...)
	}
	one := row(to(0x6000, 1, 8)) // a value that is all of the bytes
	b = bytesOf(9)
	values, _ = mapping.Unpack(d, one, b)
	mapping.Write(d, one, b)
	spoil(b)
	if !sameValues(values, []mapping.Value{is(0x6000, 1, 9)}) {
		t.Errorf("%v", values)
	}
	value(t, d, at(0x6000, 1), 9)
}

// What is answered is new memory: whoever writes over it changes nothing else.
func TestAnswersAreNew(t *testing.T) { // P12.6
	d := made(t, example()...)
	before := told(d)
	for _, l := range [][]mapping.Map{exampleRow(), row(to(0x6000, 3, 16)), row(to(0x6000, 1, 8), to(0x6000, 1, 8))} {
		b, _ := mapping.Pack(d, l)
		again, _ := mapping.Pack(d, l)
		was := bytes.Clone(again)
		spoil(b)
		if !bytes.Equal(again, was) || told(d) != before {
			t.Errorf("Pack(%x): % x, want % x", l, again, was)
		}
		values, _ := mapping.Unpack(d, l, was)
		others, _ := mapping.Unpack(d, l, was)
		for i := range values {
			want := slices.Clone(values)
			for k := range want {
				want[k].B = bytes.Clone(want[k].B)
			}
			spoil(values[i].B)
			spoil(want[i].B[:len(want[i].B):len(want[i].B)])
			if !sameValues(values, want) {
				t.Errorf("Unpack(%x): behind a change of the value %d: %v, want %v", l, i, values, want)
			}
		}
		clear(values[:cap(values)])
		b, _ = mapping.Pack(d, l)
		if want, _ := mapping.Unpack(d, l, was); !sameValues(others, want) || !bytes.Equal(b, was) || told(d) != before {
			t.Errorf("Unpack(%x): %v, want %v", l, others, want)
		}
	}
}

// What was packed and unpacked stays as it was, whatever is written behind it.
func TestAnswersStay(t *testing.T) { // P12.6
	d := made(t, example()...)
	l := exampleRow()
	b, _ := mapping.Pack(d, l)
	values, _ := mapping.Unpack(d, l, b)
	mapping.Write(d, l, bytesOf(0x55, 0x55, 0x55, 0x55))
	want := []mapping.Value{is(0x6000, 1, 3), is(0x6000, 2, 1), is(0x6000, 3, 254, 255)}
	if !bytes.Equal(b, bytesOf(3, 0xFD, 0xFF, 1)) || !sameValues(values, want) {
		t.Errorf("% x, %v", b, values)
	}
	mapping.Write(d, l, b)
	for _, v := range values {
		spoil(v.B)
	}
	for _, v := range want {
		value(t, d, v.Place, v.B...)
	}
}
