package short_test

import (
	"bytes"
	"testing"

	"campanile/api"
	"campanile/short"
)

// noSegment checks that there is no such segment.
func noSegment(t *testing.T, seq int, last bool, data []byte) {
	t.Helper()
	if b, errno := short.Segment(seq, last, data); b != [8]byte{} || errno != api.ErrArg {
		t.Errorf("Segment(%d, %t, % X): % X, %d", seq, last, data, b, errno)
	}
}

func TestSegment(t *testing.T) { // P9.5
	for seq := 1; seq <= 127; seq++ {
		for n := 0; n <= 20; n++ {
			for _, last := range []bool{false, true} {
				data := some(n)
				if n == 0 || n > 7 || n < 7 && !last {
					noSegment(t, seq, last, data)
					continue
				}
				want := [8]byte{byte(seq)}
				if last {
					want[0] += 0x80
				}
				copy(want[1:], data)
				if b, errno := short.Segment(seq, last, data); b != want || errno != api.OK {
					t.Errorf("Segment(%d, %t, % X): % X, %d", seq, last, data, b, errno)
				}
			}
		}
	}
}

func TestSegmentThatMayNotBe(t *testing.T) { // P9.5
	for _, seq := range append([]int{0}, wrongNumbers...) {
		for _, last := range []bool{false, true} {
			for n := range 9 {
				noSegment(t, seq, last, some(n))
			}
		}
	}
	for _, last := range []bool{false, true} {
		noSegment(t, 1, last, nil)
		noSegment(t, 1, last, []byte{})
		noSegment(t, 1, last, some(8))
		noSegment(t, 1, last, some(7+256))
		noSegment(t, 1, last, some(4096))
	}
}

func TestSegmented(t *testing.T) { // P9.5
	for first := range 256 {
		b := [8]byte{byte(first), 1, 0, 3, 0xFF, 5, 0, 7}
		seq, last, data, errno := short.Segmented(b)
		if first == 0 || first == 0x80 {
			if seq != 0 || last || len(data) != 0 || errno != api.ErrBytes {
				t.Errorf("Segmented(% X): %d, %t, % X, %d", b, seq, last, data, errno)
			}
			continue
		}
		if seq != first%128 || last != (first >= 128) || !bytes.Equal(data, []byte{1, 0, 3, 0xFF, 5, 0, 7}) || errno != api.OK {
			t.Errorf("Segmented(% X): %d, %t, % X, %d", b, seq, last, data, errno)
		}
	}
	if seq, last, data, errno := short.Segmented([8]byte{}); seq != 0 || last || len(data) != 0 || errno != api.ErrBytes {
		t.Errorf("Segmented of noughts: %d, %t, % X, %d", seq, last, data, errno)
	}
	if _, _, data, errno := short.Segmented([8]byte{1}); !bytes.Equal(data, make([]byte, 7)) || errno != api.OK {
		t.Errorf("Segmented of noughts behind 1: % X, %d", data, errno)
	}
}

// What is segmented are the bytes, with noughts behind.
func TestSegmentAndBack(t *testing.T) { // P9.5
	for _, seq := range []int{1, 2, 64, 126, 127} {
		for n := 1; n <= 7; n++ {
			for _, last := range []bool{true, n < 7} {
				b, _ := short.Segment(seq, last, some(n))
				gotSeq, gotLast, data, errno := short.Segmented(b)
				want := append(some(n), make([]byte, 7-n)...)
				if gotSeq != seq || gotLast != last || !bytes.Equal(data, want) || errno != api.OK {
					t.Errorf("% X: %d, %t, % X, %d", b, gotSeq, gotLast, data, errno)
				}
			}
		}
	}
}
