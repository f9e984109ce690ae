package crc_test

import (
	"bytes"
	"sync"
	"testing"

	"campanile/crc"
)

// byWords takes bytes in just as the chapter's words say, bit by bit.
func byWords(sum uint16, b []byte) uint16 {
	for _, x := range b {
		sum ^= uint16(x) << 8
		for i := 0; i < 8; i++ {
			high := sum&0x8000 != 0
			sum <<= 1
			if high {
				sum ^= 0x1021
			}
		}
	}
	return sum
}

// dice tells numbers that look random and are the same in each run.
type dice uint32

func (d *dice) next() uint32 {
	*d = *d*1664525 + 1013904223
	return uint32(*d >> 8)
}

func (d *dice) bytes(n int) []byte {
	b := make([]byte, n)
	for i := range b {
		b[i] = byte(d.next())
	}
	return b
}

// flip changes a bit, counted from the highest of the first byte on.
func flip(b []byte, bit int) { b[bit/8] ^= 0x80 >> (bit % 8) }

func TestExamples(t *testing.T) { // P2.1
	for _, c := range []struct {
		b    []byte
		want uint16
	}{
		{nil, 0},
		{[]byte{}, 0},
		{[]byte{1}, 4129},
		{[]byte{255}, 7920},
		{[]byte("123456789"), 12739},
		{[]byte{0}, 0},
		{[]byte{0, 0, 0}, 0},
		{[]byte{0, 1}, 4129},
		{[]byte{128}, 0x9188},
		{[]byte("A"), 0x58E5},
	} {
		if got := crc.Sum(c.b); got != c.want {
			t.Errorf("Sum(% x) = %d, want %d", c.b, got, c.want)
		}
		if got := crc.Add(0, c.b); got != c.want {
			t.Errorf("Add(0, % x) = %d, want %d", c.b, got, c.want)
		}
	}
}

func TestNoBytesLeaveASum(t *testing.T) { // P2.1
	for sum := 0; sum <= 0xFFFF; sum++ {
		if got := crc.Add(uint16(sum), nil); got != uint16(sum) {
			t.Fatalf("Add(%d, nil) = %d", sum, got)
		}
		if got := crc.Add(uint16(sum), []byte{}); got != uint16(sum) {
			t.Fatalf("Add(%d, {}) = %d", sum, got)
		}
	}
}

func TestAnySumAndByte(t *testing.T) { // P2.1
	for sum := 0; sum <= 0xFFFF; sum++ {
		for x := 0; x <= 0xFF; x++ {
			b := []byte{byte(x)}
			if got, want := crc.Add(uint16(sum), b), byWords(uint16(sum), b); got != want {
				t.Fatalf("Add(%d, {%d}) = %d, want %d", sum, x, got, want)
			}
		}
	}
}

func TestManyBytes(t *testing.T) { // P2.1
	d := dice(1)
	for n := 0; n < 600; n++ {
		b, sum := d.bytes(n), uint16(d.next())
		if got, want := crc.Add(sum, b), byWords(sum, b); got != want {
			t.Fatalf("Add(%d, % x) = %d, want %d", sum, b, got, want)
		}
		if got, want := crc.Sum(b), byWords(0, b); got != want {
			t.Fatalf("Sum(% x) = %d, want %d", b, got, want)
		}
	}
	long := d.bytes(1 << 20)
	if got, want := crc.Sum(long), byWords(0, long); got != want {
		t.Fatalf("Sum of %d bytes = %d, want %d", len(long), got, want)
	}
}

func TestSumKeepsNothing(t *testing.T) { // P2.1
	b := []byte("123456789")
	for range 3 {
		crc.Add(0x1234, []byte("other bytes"))
		if got := crc.Sum(b); got != 0x31C3 {
			t.Fatalf("Sum = %#x", got)
		}
	}
}

func TestManyAskAtOnce(t *testing.T) { // P2.1
	var all sync.WaitGroup
	got := make([]uint16, 16)
	for i := range got {
		all.Go(func() { got[i] = crc.Sum([]byte("123456789")) })
	}
	all.Wait()
	for i, s := range got {
		if s != 0x31C3 {
			t.Errorf("asker %d: %#x", i, s)
		}
	}
}

func TestBytesAreOnlyRead(t *testing.T) { // P2.2
	d := dice(2)
	for n := 0; n <= 64; n++ {
		memory := d.bytes(n + 16)
		was := bytes.Clone(memory)
		b := memory[4 : 4+n]
		crc.Sum(b)
		crc.Add(uint16(d.next()), b)
		if !bytes.Equal(memory, was) {
			t.Fatalf("% x became % x", was, memory)
		}
	}
}

func TestBytesBesideAreNotRead(t *testing.T) { // P2.2
	memory := []byte("0123456789abc")
	if got := crc.Sum(memory[1:10]); got != 0x31C3 {
		t.Fatalf("Sum = %#x", got)
	}
}
