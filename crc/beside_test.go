package crc

import "testing"

// The array is what the chapter's 'Ways' says, once a sum was asked for: by bytes, what each makes of the sum 0.
func TestArrayIsMade(t *testing.T) { // P2.1
	Sum(nil)
	for x := range takenIn {
		want := uint16(x) << 8
		for i := 0; i < 8; i++ {
			if want&0x8000 != 0 {
				want = want<<1 ^ 0x1021
			} else {
				want <<= 1
			}
		}
		if takenIn[x] != want {
			t.Errorf("byte %d: %#x, want %#x", x, takenIn[x], want)
		}
	}
}

func TestArrayIsMadeOnce(t *testing.T) { // P2.1
	Sum(nil)
	was := takenIn
	defer func() { takenIn = was }()
	takenIn[1] = 7
	Sum([]byte{1})
	if takenIn[1] != 7 {
		t.Error("the array was made again")
	}
}

// No answer hangs on the array: it may hold anything.
func TestAnswersStandAlone(t *testing.T) { // P2.1, P2.3
	Sum(nil)
	was := takenIn
	defer func() { takenIn = was }()
	for x := range takenIn {
		takenIn[x] = ^takenIn[x]
	}
	b := []byte("123456789")
	if got := Sum(b); got != 0x31C3 {
		t.Errorf("Sum = %#x", got)
	}
	for cut := range b {
		if got := Add(Sum(b[:cut]), b[cut:]); got != 0x31C3 {
			t.Errorf("cut at %d: %#x", cut, got)
		}
	}
	for x := range takenIn {
		if got := Add(0, []byte{byte(x)}); got != was[x] {
			t.Errorf("Add(0, {%d}) = %#x, want %#x", x, got, was[x])
		}
		if got := Sum([]byte{byte(x)}); got != was[x] {
			t.Errorf("Sum({%d}) = %#x, want %#x", x, got, was[x])
		}
	}
}
