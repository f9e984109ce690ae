package short_test

import (
	"bytes"
	"testing"

	"campanile/api"
	"campanile/short"
)

// aside hands a list out with bytes behind its length, and tells whether any of it has changed since.
func aside(b []byte) ([]byte, func() bool) {
	room := append(bytes.Clone(b), 0xa5, 0xa5, 0xa5, 0xa5, 0xa5, 0xa5, 0xa5, 0xa5)
	before := bytes.Clone(room)
	return room[:len(b)], func() bool { return !bytes.Equal(room, before) }
}

// spoil writes over a list, and over what lies behind its length.
func spoil(b []byte) {
	for i := range b[:cap(b)] {
		b[:cap(b)][i] ^= 0xff
	}
}

// What is handed in is not changed, and what lies behind its length neither changed nor told.
func TestCommandsAreLeft(t *testing.T) { // P9.6
	for _, s := range sides() {
		for _, x := range s.all {
			for _, data := range [][]byte{x.c.Data, some(9)} {
				c := x.c
				room, changed := aside(data)
				c.Data = room
				b, errno := s.tell(c)
				if changed() {
					t.Errorf("%s %+v was changed", s.name, c)
				}
				if bytes.Equal(data, x.c.Data) && (b != x.b || errno != api.OK) {
					t.Errorf("%s %+v: % X, %d", s.name, c, b, errno)
				}
			}
		}
	}
}

func TestSegmentsAreLeft(t *testing.T) { // P9.6
	for n := range 10 {
		room, changed := aside(some(n))
		b, errno := short.Segment(3, true, room)
		if changed() {
			t.Errorf("Segment of %d bytes changed them", n)
		}
		spoil(room)
		want := [8]byte{0x83}
		if copy(want[1:], some(n)); errno == api.OK && b != want {
			t.Errorf("% X", b)
		}
	}
}

// What is done to one answer is not seen in another, nor in what was asked.
func TestAnswersAreNew(t *testing.T) { // P9.6
	for _, s := range sides() {
		for _, x := range s.all {
			b := x.b
			one, _ := s.read(b)
			two, _ := s.read(b)
			spoil(one.Data)
			if !same(two, x.c) || b != x.b {
				t.Errorf("%s % X: %+v", s.name, b, two)
			}
			three, errno := s.read(b)
			if !same(three, x.c) || errno != api.OK {
				t.Errorf("%s % X: %+v, %d", s.name, b, three, errno)
			}
		}
	}
	b := [8]byte{1, 2, 3, 4, 5, 6, 7, 8}
	_, _, one, _ := short.Segmented(b)
	_, _, two, _ := short.Segmented(b)
	spoil(one)
	if !bytes.Equal(two, b[1:]) || b != [8]byte{1, 2, 3, 4, 5, 6, 7, 8} {
		t.Errorf("Segmented: % X, % X", two, b)
	}
}

// What is told of a command stays, whatever becomes of its data.
func TestBytesAreNew(t *testing.T) { // P9.6
	data := []byte{1, 2, 3, 4}
	b, _ := short.Ask(short.Cmd{Kind: short.Write, Quick: true, Data: data})
	spoil(data)
	if b != [8]byte{0x22, 0, 0, 0, 1, 2, 3, 4} {
		t.Errorf("% X", b)
	}
}
