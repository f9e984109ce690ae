package frame_test

import (
	"bytes"
	"math"
	"testing"

	"campanile/api"
	"campanile/frame"
)

var (
	rightIDs = []uint16{0, 1, 5, 0x7F, 0x80, 0x181, 0x580, 0x600, 0x7E4, 0x7FE, 0x7FF}
	wrongIDs = []uint16{0x800, 0x801, 0x881, 0x1000, 0x7FFF, 0x8000, 0xFFFF}
	wrongLen = []int{-1, 9, 10, -8, 255, 256, 264, math.MinInt, math.MaxInt, math.MinInt32, math.MaxInt32 + 1, 1 << 32, 1<<32 + 8}
)

// rightByWords is the chapter's words, field by field.
func rightByWords(f api.Frame) bool {
	if f.ID > 2047 || f.Len < 0 || f.Len > 8 {
		return false
	}
	for i, b := range f.Data {
		if b != 0 && (f.Remote || i >= f.Len) {
			return false
		}
	}
	return true
}

// dice tells numbers that look random and are the same in each run.
type dice uint32

func (d *dice) next(n int) int {
	*d = *d*1664525 + 1013904223
	return int(uint32(*d)>>8) % n
}

// frame tells one that is right or nearly so.
func (d *dice) frame() api.Frame {
	f := api.Frame{ID: uint16(d.next(0x840)), Len: d.next(11) - 1, Remote: d.next(4) == 0}
	for range d.next(4) {
		f.Data[d.next(8)] = byte(d.next(256))
	}
	return f
}

func TestRightWithoutBytes(t *testing.T) { // P3.1
	for _, remote := range []bool{false, true} {
		for n := 0; n <= 8; n++ {
			for _, id := range rightIDs {
				if f := (api.Frame{ID: id, Len: n, Remote: remote}); !frame.Right(f) {
					t.Errorf("Right(%v): false", f)
				}
			}
			for _, id := range wrongIDs {
				if f := (api.Frame{ID: id, Len: n, Remote: remote}); frame.Right(f) {
					t.Errorf("Right(%v): true", f)
				}
			}
		}
		for _, n := range wrongLen {
			if f := (api.Frame{ID: 5, Len: n, Remote: remote}); frame.Right(f) {
				t.Errorf("Right(%v): true", f)
			}
			full := api.Frame{ID: 5, Len: n, Data: [8]byte{1, 2, 3, 4, 5, 6, 7, 8}, Remote: remote}
			if frame.Right(full) {
				t.Errorf("Right(%v): true", full)
			}
		}
	}
}

func TestRightAtEachByte(t *testing.T) { // P3.1
	for n := 0; n <= 8; n++ {
		for place := range 8 {
			for _, b := range []byte{1, 0x80, 0xFF} {
				f := api.Frame{ID: 0x7FF, Len: n}
				f.Data[place] = b
				if want := place < n; frame.Right(f) != want {
					t.Errorf("Right(%v): not %t", f, want)
				}
				f.Remote = true
				if frame.Right(f) {
					t.Errorf("Right(%v): true", f)
				}
			}
		}
	}
}

func TestRightByWords(t *testing.T) { // P3.1
	d, rights := dice(1), 0
	for range 100000 {
		f := d.frame()
		want := rightByWords(f)
		if got := frame.Right(f); got != want {
			t.Fatalf("Right(%v): %t", f, got)
		}
		if want {
			rights++
		}
	}
	if rights < 1000 || rights > 99000 {
		t.Errorf("of 100000 frames %d are right: too few of one kind", rights)
	}
}

func TestMake(t *testing.T) { // P3.2
	all := []byte{0, 0xFF, 3, 4, 0, 6, 0x80, 8, 9}
	for n := 0; n <= 8; n++ {
		for _, id := range rightIDs {
			f, errno := frame.Make(id, all[:n]...)
			want := api.Frame{ID: id, Len: n}
			copy(want.Data[:], all[:n])
			if f != want || errno != api.OK {
				t.Errorf("Make(%X, % x): %v, %d", id, all[:n], f, errno)
			}
			if !frame.Right(f) {
				t.Errorf("Make(%X, % x) is not right", id, all[:n])
			}
		}
		for _, id := range wrongIDs {
			if f, errno := frame.Make(id, all[:n]...); f != (api.Frame{}) || errno != api.ErrArg {
				t.Errorf("Make(%X, % x): %v, %d", id, all[:n], f, errno)
			}
		}
	}
	if f, errno := frame.Make(0x123); f != (api.Frame{ID: 0x123}) || errno != api.OK {
		t.Errorf("Make of nothing: %v, %d", f, errno)
	}
	if f, errno := frame.Make(0x123, []byte{}...); f != (api.Frame{ID: 0x123}) || errno != api.OK {
		t.Errorf("Make of an empty list: %v, %d", f, errno)
	}
}

func TestMakeOfTooMany(t *testing.T) { // P3.2
	for _, n := range []int{9, 10, 16, 255, 256, 264, 1 << 20} {
		for _, id := range []uint16{0, 0x7FF, 0x800} {
			if f, errno := frame.Make(id, make([]byte, n)...); f != (api.Frame{}) || errno != api.ErrArg {
				t.Errorf("Make(%X, %d bytes): %v, %d", id, n, f, errno)
			}
		}
	}
}

func TestAsk(t *testing.T) { // P3.2
	for n := 0; n <= 8; n++ {
		for _, id := range rightIDs {
			f, errno := frame.Ask(id, n)
			if f != (api.Frame{ID: id, Len: n, Remote: true}) || errno != api.OK || !frame.Right(f) {
				t.Errorf("Ask(%X, %d): %v, %d", id, n, f, errno)
			}
		}
		for _, id := range wrongIDs {
			if f, errno := frame.Ask(id, n); f != (api.Frame{}) || errno != api.ErrArg {
				t.Errorf("Ask(%X, %d): %v, %d", id, n, f, errno)
			}
		}
	}
	for _, n := range wrongLen {
		if f, errno := frame.Ask(5, n); f != (api.Frame{}) || errno != api.ErrArg {
			t.Errorf("Ask(5, %d): %v, %d", n, f, errno)
		}
	}
}

func TestData(t *testing.T) { // P3.2
	for n := 0; n <= 8; n++ {
		all := []byte{0, 2, 0, 4, 5, 0xFF, 7, 0}
		f, _ := frame.Make(0x181, all[:n]...)
		if got := frame.Data(f); !bytes.Equal(got, all[:n]) {
			t.Errorf("Data(%v): % x", f, got)
		}
		r, _ := frame.Ask(0x181, n)
		if got := frame.Data(r); len(got) != 0 {
			t.Errorf("Data(%v): % x", r, got)
		}
	}
}

func TestDataOfWrongFrames(t *testing.T) { // P3.2
	full := [8]byte{1, 2, 3, 4, 5, 6, 7, 8}
	for _, f := range []api.Frame{
		{ID: 0x800, Len: 8, Data: full},
		{ID: 0xFFFF, Len: 1, Data: [8]byte{1}},
		{ID: 5, Len: -1, Data: full},
		{ID: 5, Len: 9, Data: full},
		{ID: 5, Len: math.MaxInt, Data: full},
		{ID: 5, Len: math.MinInt, Data: full},
		{ID: 5, Len: 7, Data: full},
		{ID: 5, Len: 0, Data: [8]byte{1}},
		{ID: 5, Len: 8, Data: full, Remote: true},
		{ID: 5, Len: 4, Remote: true},
	} {
		if got := frame.Data(f); len(got) != 0 {
			t.Errorf("Data(%v): % x", f, got)
		}
	}
	d := dice(2)
	for range 100000 {
		f := d.frame()
		want := []byte(nil)
		if rightByWords(f) && !f.Remote {
			want = f.Data[:f.Len]
		}
		if got := frame.Data(f); !bytes.Equal(got, want) {
			t.Fatalf("Data(%v): % x", f, got)
		}
	}
}

func TestArgumentsAreOnlyRead(t *testing.T) { // P3.2
	for n := 0; n <= 12; n++ {
		memory := []byte("0123456789abcdefghij")
		was := bytes.Clone(memory)
		data := memory[4 : 4+n]
		f, _ := frame.Make(0x181, data...)
		g := f
		if got := frame.Data(f); len(got) > 0 {
			got[0] = '!'
			_ = append(got, '!')
		}
		frame.Right(f)
		frame.Before(f, f)
		frame.Write(f)
		if !bytes.Equal(memory, was) {
			t.Errorf("%q became %q", was, memory)
		}
		for i := range memory {
			memory[i] = 0xEE
		}
		if f != g {
			t.Errorf("%v became %v", g, f)
		}
	}
}

func TestAnswersAreNewMemory(t *testing.T) { // P3.2
	f, _ := frame.Make(0x181, 1, 2, 3, 4, 5, 6, 7, 8)
	a, b := frame.Data(f), frame.Data(f)
	for i := range a {
		a[i] = 0xEE
	}
	if !bytes.Equal(b, []byte{1, 2, 3, 4, 5, 6, 7, 8}) || !bytes.Equal(frame.Data(f), b) {
		t.Errorf("another answer became % x, the frame %v", b, f)
	}
}
