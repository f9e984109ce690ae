package frame_test

import (
	"math"
	"testing"

	"campanile/api"
	"campanile/frame"
)

// waiting tells frames of every kind that the order could hang on, wrong ones among them.
func waiting() []api.Frame {
	full := [8]byte{1, 2, 3, 4, 5, 6, 7, 8}
	var all []api.Frame
	for _, id := range []uint16{0, 1, 0x80, 0x181, 0x7FF, 0x800, 0xFFFF} {
		all = append(all,
			api.Frame{ID: id},
			api.Frame{ID: id, Len: 8, Data: full},
			api.Frame{ID: id, Len: 1, Data: [8]byte{0xFF}},
			api.Frame{ID: id, Remote: true},
			api.Frame{ID: id, Len: 8, Remote: true},
			api.Frame{ID: id, Len: math.MinInt, Data: full},
			api.Frame{ID: id, Len: math.MaxInt, Data: full, Remote: true},
		)
	}
	return all
}

// rank tells the order as a number: IDs first, then remote ones behind.
func rank(f api.Frame) int {
	if f.Remote {
		return 2*int(f.ID) + 1
	}
	return 2 * int(f.ID)
}

func TestBefore(t *testing.T) { // P3.3
	for _, a := range waiting() {
		for _, b := range waiting() {
			if got, want := frame.Before(a, b), rank(a) < rank(b); got != want {
				t.Errorf("Before(%v, %v): %t", a, b, got)
			}
		}
	}
}

func TestBeforeByExamples(t *testing.T) { // P3.3
	for _, x := range []struct {
		a, b string
		want bool
	}{
		{"080#", "181#", true},
		{"181#", "080#", false},
		{"181#", "181#R0", true},
		{"181#R0", "181#", false},
		{"181#01", "181#02", false},
		{"181#02", "181#01", false},
		{"181#", "181#01", false},
		{"181#R0", "181#R8", false},
		{"181#R8", "181#R0", false},
		{"080#R8", "081#", true},
		{"081#", "080#R0", false},
		{"181#FFFF", "181#R0", true},
		{"000#", "000#", false},
		{"000#", "7FF#", true},
		{"0FF#", "100#", true},
	} {
		a, b := read(t, x.a), read(t, x.b)
		if got := frame.Before(a, b); got != x.want {
			t.Errorf("Before(%s, %s): %t", x.a, x.b, got)
		}
	}
}

func TestBeforeIsAStrictOrder(t *testing.T) { // P3.5
	all := waiting()
	for _, a := range all {
		if frame.Before(a, a) {
			t.Errorf("%v is ahead of itself", a)
		}
		for _, b := range all {
			ab := frame.Before(a, b)
			if ab && frame.Before(b, a) {
				t.Errorf("%v and %v are ahead of each other", a, b)
			}
			for _, c := range all {
				if ab && frame.Before(b, c) && !frame.Before(a, c) {
					t.Errorf("%v, %v, %v: the first is not ahead of the third", a, b, c)
				}
			}
		}
	}
}

func read(t *testing.T, s string) api.Frame {
	t.Helper()
	f, errno := frame.Read(s)
	if errno != api.OK {
		t.Fatalf("Read(%q): %d", s, errno)
	}
	return f
}
