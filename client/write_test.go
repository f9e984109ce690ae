package client_test

import (
	"fmt"
	"slices"
	"testing"

	"campanile/api"
	"campanile/client"
)

const written = "60 0220 00 00000000"

// padded tells up to seven bytes in hex, with noughts behind.
func padded(b []byte) string {
	return fmt.Sprintf("%X", append(slices.Clone(b), make([]byte, 7-len(b))...))
}

// partDigits tells the bytes of a part of a value: a client's Part, a server's More.
func partDigits(b []byte, toggle, last bool) string {
	first := 2 * (7 - len(b))
	if toggle {
		first += 0x10
	}
	if last {
		first++
	}
	return fmt.Sprintf("%02X %s", first, padded(b))
}

// partAnswer tells a server's answer to a Part.
func partAnswer(toggle bool) string {
	if toggle {
		return "30 0000 00 00000000"
	}
	return "20 0000 00 00000000"
}

// partsOf tells the lines of a write in segments, each the answer to the part ahead of it and the next part.
func partsOf(b []byte) []string {
	heard := written
	var lines []string
	for toggle := false; ; toggle = !toggle {
		n := min(7, len(b))
		lines = append(lines, heard+" > "+partDigits(b[:n], toggle, n == len(b)))
		heard = partAnswer(toggle)
		if b = b[n:]; len(b) == 0 {
			return append(lines, heard+" >")
		}
	}
}

// lengths are those of values about which segments and frames end.
func lengths() []int {
	return []int{0, 1, 2, 3, 4, 5, 6, 7, 8, 13, 14, 15, 255, 256, 1000, api.MaxValue - 1, api.MaxValue}
}

func TestWritesOfOneFrame(t *testing.T) { // P11.2, P11.3
	for n := 1; n <= 4; n++ {
		c := made(t)
		b := some(n)
		writes(t, c, b, client.Auto, first(true, b, client.Auto))
		busy(t, c)
		talk(t, c, written+" >")
		wrote(t, c)
	}
}

func TestWritesInSegments(t *testing.T) { // P11.2, P11.3
	for _, n := range lengths() {
		for _, mode := range []uint8{client.Auto, client.Segments} {
			if mode == client.Auto && n >= 1 && n <= 4 {
				continue
			}
			c := made(t)
			b := some(n)
			writes(t, c, b, mode, first(true, b, mode))
			for _, line := range partsOf(b) {
				busy(t, c)
				talk(t, c, line)
			}
			wrote(t, c)
		}
	}
}

// A value's bytes go as they are, noughts and all.
func TestWritesOfNoughts(t *testing.T) { // P11.2, P11.3
	for _, b := range [][]byte{{0}, {0, 0, 0, 0}, make([]byte, 7), make([]byte, 8), {0xFF, 0, 0x80, 0, 0xFF}} {
		for mode := range uint8(2) {
			c := made(t)
			writes(t, c, b, mode, first(true, b, mode))
			if mode == client.Auto && len(b) <= 4 {
				talk(t, c, written+" >")
			} else {
				talk(t, c, partsOf(b)...)
			}
			wrote(t, c)
		}
	}
}

func TestWrongToggleOfWrites(t *testing.T) { // P11.3
	const stopped = " > 80 0220 00 00000305" // AbToggle
	for _, n := range []int{0, 7, 8, 14, 15, 28} {
		b := some(n)
		lines := partsOf(b)
		for wrong := 1; wrong < len(lines); wrong++ {
			c := made(t)
			writes(t, c, b, client.Segments, first(true, b, client.Segments))
			talk(t, c, lines[:wrong]...)
			talk(t, c, partAnswer(wrong%2 == 1)+stopped)
			failed(t, c, true, api.AbToggle)
		}
	}
}

// An answer that comes twice is of no use.
func TestAnswersThatComeTwice(t *testing.T) { // P11.3
	const stopped = " > 80 0220 00 01000405" // AbCommand
	c := made(t)
	writes(t, c, some(20), client.Segments, first(true, some(20), client.Segments))
	talk(t, c, partsOf(some(20))[0], written+stopped)
	failed(t, c, true, api.AbCommand)
	reads(t, c, client.Auto, first(false, nil, 0))
	talk(t, c, "41 0220 00 09000000 > 60 0000 00 00000000", "41 0220 00 09000000"+stopped)
	failed(t, c, false, api.AbCommand)
	writes(t, c, some(20), client.Blocks, first(true, some(20), client.Blocks))
	talk(t, c, "A4 0220 00 7F000000 > "+blockOf(some(20), 0, 127), "A4 0220 00 7F000000"+stopped)
	failed(t, c, true, api.AbCommand)
}
