package client_test

import (
	"fmt"
	"strings"
	"testing"

	"campanile/api"
	"campanile/client"
)

const (
	noMemory = "80 0220 00 05000405"
	tooLong  = "80 0220 00 12000706"
	tooShort = "80 0220 00 13000706"
	badCheck = "80 0220 00 04000405"
)

// sizeAnswer tells a server's Read; a size below 0 is not told.
func sizeAnswer(size int) string {
	if size < 0 {
		return "40 0220 00 00000000"
	}
	return fmt.Sprintf("41 0220 00 %02X%02X%02X%02X", byte(size), byte(size>>8), byte(size>>16), byte(size>>24))
}

func askedMore(toggle bool) string {
	if toggle {
		return "70 0000 00 00000000"
	}
	return "60 0000 00 00000000"
}

// moresOf tells the lines of a read in segments, behind the size.
func moresOf(b []byte) []string {
	var lines []string
	for toggle := false; ; toggle = !toggle {
		n := min(7, len(b))
		if n == len(b) {
			return append(lines, partDigits(b, toggle, true)+" >")
		}
		lines = append(lines, partDigits(b[:n], toggle, false)+" > "+askedMore(!toggle))
		b = b[n:]
	}
}

// readsSized makes a client that waits for More, with a size that was told (not, if it is below 0).
func readsSized(t *testing.T, size int) *client.Client {
	t.Helper()
	c := made(t)
	reads(t, c, client.Segments, first(false, nil, client.Segments))
	talk(t, c, sizeAnswer(size)+" > "+askedMore(false))
	return c
}

func TestReadsOfOneFrame(t *testing.T) { // P11.3
	for _, mode := range []uint8{client.Auto, client.Segments} {
		for _, x := range []struct{ heard, data string }{
			{"4F 0220 00 61000000", "a"}, {"4B 0220 00 61620000", "ab"}, {"47 0220 00 61626300", "abc"}, {"43 0220 00 61626364", "abcd"},
			{"42 0220 00 61626364", "abcd"}, {"42 0220 00 61000000", "a\x00\x00\x00"},
			{"4F 0220 00 00000000", "\x00"}, {"43 0220 00 00000000", "\x00\x00\x00\x00"},
		} {
			c := made(t)
			reads(t, c, mode, first(false, nil, mode))
			talk(t, c, x.heard+" >")
			got(t, c, x.data)
		}
	}
}

func TestReadsInSegments(t *testing.T) { // P11.3
	for _, n := range lengths() {
		for _, size := range []int{n, -1} {
			b := some(n)
			c := readsSized(t, size)
			for _, line := range moresOf(b) {
				busy(t, c)
				talk(t, c, line)
			}
			got(t, c, string(b))
		}
	}
}

// The last part may have no bytes.
func TestReadsWithAnEmptyPart(t *testing.T) { // P11.3
	for _, size := range []int{7, -1} {
		c := readsSized(t, size)
		talk(t, c, partDigits(some(7), false, false)+" > "+askedMore(true), partDigits(nil, true, true)+" >")
		got(t, c, string(some(7)))
	}
}

func TestSizesOfReads(t *testing.T) { // P11.3
	for _, size := range []int{api.MaxValue + 1, 0x10000, 0x1000000, 0x7FFFFFFF, 0x80000000, 0xFFFFFFFF} {
		c := made(t)
		reads(t, c, client.Auto, first(false, nil, client.Auto))
		talk(t, c, sizeAnswer(size)+" > "+noMemory)
		failed(t, c, false, api.AbMemory)
	}
	busy(t, readsSized(t, api.MaxValue))
}

func TestMoreAndFewerThanWereTold(t *testing.T) { // P11.3
	const (
		none  = 0
		short = api.AbShort
		long  = api.AbLong
	)
	for _, x := range []struct {
		size, n int
		code    api.Abort
	}{
		{0, 0, none}, {0, 1, long}, {0, 7, long},
		{1, 0, short}, {1, 1, none}, {1, 2, long},
		{6, 7, long}, {7, 6, short}, {7, 7, none}, {7, 8, long}, {8, 7, short}, {8, 8, none}, {8, 9, long}, {8, 20, long}, {20, 8, short},
		{api.MaxValue, api.MaxValue - 1, short}, {api.MaxValue, 0, short}, {api.MaxValue, api.MaxValue + 1, api.AbMemory}, {api.MaxValue - 1, api.MaxValue, long},
	} {
		c := readsSized(t, x.size)
		b := some(x.n)
		lines := moresOf(b)
		switch x.code {
		case none:
			talk(t, c, lines...)
			got(t, c, string(b))
			continue
		case short:
			talk(t, c, lines[:len(lines)-1]...)
			talk(t, c, lines[len(lines)-1]+" "+tooShort)
		default: // it stops at the first byte that is too much
			over := x.size / 7
			talk(t, c, lines[:over]...)
			heard, _, _ := strings.Cut(lines[over], ">")
			stopped := tooLong
			if x.code == api.AbMemory {
				stopped = noMemory
			}
			talk(t, c, heard+" > "+stopped)
		}
		failed(t, c, false, x.code)
	}
}

// More than MaxValue bytes are too much, whether a size was told or not.
func TestReadsOfTooMany(t *testing.T) { // P11.3
	for _, size := range []int{-1, api.MaxValue} {
		for _, last := range []bool{false, true} {
			c := readsSized(t, size)
			b := some(585 * 7)
			lines := moresOf(append(b, 1, 2, 3, 4, 5, 6, 7))
			talk(t, c, lines[:585]...) // 4095 bytes
			busy(t, c)
			talk(t, c, partDigits(some(7), true, last)+" > "+noMemory)
			failed(t, c, false, api.AbMemory)
		}
	}
	c := readsSized(t, -1)
	talk(t, c, moresOf(some(586 * 7))[:585]...)
	talk(t, c, partDigits(some(2), true, true)+" > "+noMemory)
	failed(t, c, false, api.AbMemory)
}

// A toggle that is wrong is told ahead of a length that is.
func TestWrongToggleOfReads(t *testing.T) { // P11.3
	const stopped = " > 80 0220 00 00000305" // AbToggle
	for turns := range 4 {
		for _, n := range []int{0, 1, 7} {
			for _, last := range []bool{false, true} {
				if n < 7 && !last {
					continue
				}
				for _, size := range []int{-1, 7 * turns, 4000} {
					c := readsSized(t, size)
					talk(t, c, moresOf(some(100))[:turns]...)
					talk(t, c, partDigits(some(n), turns%2 == 0, last)+stopped)
					failed(t, c, false, api.AbToggle)
				}
			}
		}
	}
}
