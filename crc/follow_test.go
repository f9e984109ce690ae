package crc_test

import (
	"bytes"
	"testing"

	"campanile/crc"
)

func TestCutInAnyPlace(t *testing.T) { // P2.3
	d := dice(3)
	for n := 0; n <= 40; n++ {
		b, sum := d.bytes(n), uint16(d.next())
		want := crc.Add(sum, b)
		for i := 0; i <= n; i++ {
			for j := i; j <= n; j++ {
				got := crc.Add(crc.Add(crc.Add(sum, b[:i]), b[i:j]), b[j:])
				if got != want {
					t.Fatalf("% x cut at %d and %d: %d, want %d", b, i, j, got, want)
				}
			}
		}
		one := sum
		for i := range b {
			one = crc.Add(one, b[i:i+1])
		}
		if one != want {
			t.Fatalf("% x byte by byte: %d, want %d", b, one, want)
		}
	}
}

func TestSumBehind(t *testing.T) { // P2.3
	d := dice(4)
	for n := 0; n <= 300; n++ {
		b := d.bytes(n)
		sum := crc.Sum(b)
		high, low := byte(sum>>8), byte(sum)
		if got := crc.Sum(append(bytes.Clone(b), high, low)); got != 0 {
			t.Fatalf("% x with its sum behind: %d", b, got)
		}
		if high != low && crc.Sum(append(bytes.Clone(b), low, high)) == 0 {
			t.Fatalf("% x with its sum behind, the lower byte first: 0", b)
		}
	}
	for sum := 0; sum <= 0xFFFF; sum++ { // any sum that is gone on with, too
		if got := crc.Add(uint16(sum), []byte{byte(sum >> 8), byte(sum)}); got != 0 {
			t.Fatalf("%d behind itself: %d", sum, got)
		}
	}
}

func TestDifferencesWithin16Bits(t *testing.T) { // P2.3
	d := dice(5)
	b := d.bytes(12)
	sum := crc.Sum(b)
	for first := 0; first < len(b)*8; first++ {
		wide := min(16, len(b)*8-first)
		for pattern := 1; pattern < 1<<wide; pattern++ {
			c := bytes.Clone(b)
			for i := 0; i < wide; i++ {
				if pattern>>i&1 == 1 {
					flip(c, first+i)
				}
			}
			if crc.Sum(c) == sum {
				t.Fatalf("% x and % x have one sum", b, c)
			}
		}
	}
}

func TestDifferenceInOneBit(t *testing.T) { // P2.3
	d := dice(6)
	for _, n := range []int{1, 2, 3, 9, 64, 4096} {
		b := d.bytes(n)
		sum := crc.Sum(b)
		for bit := 0; bit < n*8; bit++ {
			flip(b, bit)
			if crc.Sum(b) == sum {
				t.Fatalf("%d bytes, bit %d changed: the sum is the same", n, bit)
			}
			flip(b, bit)
		}
	}
}

func TestDifferenceInTwoBits(t *testing.T) { // P2.3
	d := dice(7)
	b := d.bytes(4096)
	sum := crc.Sum(b)
	flip(b, 0)
	for apart := 1; apart < 32767; apart++ {
		flip(b, apart)
		if crc.Sum(b) == sum {
			t.Fatalf("two bits %d bits from each other changed: the sum is the same", apart)
		}
		flip(b, apart)
	}
	flip(b, 32767) // the promise ends just here
	if crc.Sum(b) != sum {
		t.Fatal("two bits 32767 bits from each other changed: the sum is another one")
	}
}

func TestTwoBitsInAnyPlace(t *testing.T) { // P2.3
	d := dice(8)
	b := d.bytes(24)
	sum := crc.Sum(b)
	for i := 0; i < len(b)*8; i++ {
		flip(b, i)
		for j := i + 1; j < len(b)*8; j++ {
			flip(b, j)
			if crc.Sum(b) == sum {
				t.Fatalf("bits %d and %d changed: the sum is the same", i, j)
			}
			flip(b, j)
		}
		flip(b, i)
	}
}

func TestDifferenceInAnOddNumberOfBits(t *testing.T) { // P2.3
	d := dice(9)
	for _, n := range []int{1, 2, 5, 33, 256, 5000} {
		b := d.bytes(n)
		sum := crc.Sum(b)
		for round := 0; round < 500; round++ {
			c, changed := bytes.Clone(b), map[int]struct{}{}
			most := min(n*8, 99)
			for odd := 1 + 2*int(d.next()%uint32((most+1)/2)); len(changed) < odd; {
				bit := int(d.next()) % (n * 8)
				if _, twice := changed[bit]; !twice {
					changed[bit] = struct{}{}
					flip(c, bit)
				}
			}
			if crc.Sum(c) == sum {
				t.Fatalf("%d bytes, %d bits changed: the sum is the same", n, len(changed))
			}
		}
	}
}
