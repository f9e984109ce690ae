package server_test

import (
	"fmt"
	"slices"
	"testing"

	"campanile/api"
	"campanile/crc"
)

// holding tells an entry of 2005 sub 0 with a value.
func holding(b []byte) api.Entry {
	return api.Entry{Index: 0x2005, Type: api.TOctets, Rights: rw, Default: b}
}

// moresOf tells the lines of a read in segments.
func moresOf(b []byte) []string {
	var lines []string
	for toggle := byte(0); ; toggle ^= 0x10 {
		n := min(7, len(b))
		first := toggle + byte(2*(7-n))
		if n == len(b) {
			first++
		}
		data := append(slices.Clone(b[:n]), make([]byte, 7-n)...)
		lines = append(lines, fmt.Sprintf("%02X00000000000000 > %02X%X", 0x60+toggle, first, data))
		if b = b[n:]; len(b) == 0 {
			return lines
		}
	}
}

func TestReads(t *testing.T) { // P10.2
	for _, n := range []int{0, 1, 2, 3, 4, 5, 6, 7, 8, 13, 14, 15, 255, 256, 1000, api.MaxValue - 1, api.MaxValue} {
		b := some(n)
		s, _ := over(t, nil, holding(b))
		if n >= 1 && n <= 4 {
			data := append(slices.Clone(b), make([]byte, 4-n)...)
			talk(t, s, fmt.Sprintf("40 0520 00 00000000 > %02X 0520 00 %X", 0x43+4*(4-n), data))
			idle(t, s)
			continue
		}
		talk(t, s, fmt.Sprintf("40 0520 00 00000000 > 41 0520 00 %02X%02X0000", byte(n), n>>8))
		for _, line := range moresOf(b) {
			busy(t, s, at(0x2005, 0))
			talk(t, s, line)
		}
		idle(t, s)
		talk(t, s, "60 0000 00 00000000 > 80 0000 00 01000405", "70 0000 00 00000000 > 80 0000 00 01000405")
	}
}

func TestReadsOfOtherTypes(t *testing.T) { // P10.2
	s, _ := made(t)
	talk(t, s,
		"40 0020 00 00000000 > 4F 0020 00 01000000",
		"40 0320 02 00000000 > 4B 0320 02 00000000",
		"40 0320 03 00000000 > 47 0320 03 00000000",
		"40 0320 04 00000000 > 43 0320 04 00000000",
		"40 0320 06 00000000 > 41 0320 06 06000000",
		"60 0000 00 00000000 > 03 00000000000000",
		"40 0320 08 00000000 > 41 0320 08 08000000",
		"60 0000 00 00000000 > 00 00000000000000",
		"70 0000 00 00000000 > 1D 00000000000000")
	idle(t, s)
}

func TestReadsThatMayNotBegin(t *testing.T) { // P10.2
	for _, x := range []string{
		"%s 0120 00 %s > 80 0120 00 00000206", // AbNoEntry
		"%s 0020 02 %s > 80 0020 02 11000906", // AbNoSub
		"%s 0320 01 %s > 80 0320 01 01000106", // AbWriteOnly
		"%s 0420 02 %s > 80 0420 02 01000106",
		"%s 0420 03 %s > 80 0420 03 01000106",
	} {
		for _, first := range [][2]string{{"40", "00000000"}, {"A0", "01000000"}, {"A4", "7F000000"}} {
			s, _ := made(t)
			talk(t, s, fmt.Sprintf(x, first[0], first[1]))
			idle(t, s)
		}
	}
}

func TestWrongToggleOfReads(t *testing.T) { // P10.2
	s, _ := made(t)
	talk(t, s, "40 0220 00 00000000 > 41 0220 00 14000000", "70 0000 00 00000000 > 80 0220 00 00000305")
	idle(t, s)
	talk(t, s, "40 0220 00 00000000 > 41 0220 00 14000000", "60 0000 00 00000000 > 00 61207465787420", "60 0000 00 00000000 > 80 0220 00 00000305")
	idle(t, s)
	talk(t, s, "40 0420 00 00000000 > 41 0420 00 00000000", "70 0000 00 00000000 > 80 0420 00 00000305") // of no bytes
	idle(t, s)
}

// What is told are the bytes that were there when it began, whatever is written since.
func TestReadsTellWhatWasThere(t *testing.T) { // P10.4
	s, d := made(t)
	talk(t, s, "40 0220 00 00000000 > 41 0220 00 14000000")
	d.Write(text, []byte("another one"))
	talk(t, s, moresOf([]byte(twenty))[0])
	d.Set(text, nil)
	talk(t, s, moresOf([]byte(twenty))[1:]...)
	has(t, d, text, "")

	s, d = made(t)
	talk(t, s, "A4 0220 00 02000000 > C6 0220 00 14000000")
	d.Write(text, []byte("another one"))
	talk(t, s, "A3 0000 00 00000000 > 01 61207465787420, 02 6F66207477656E")
	d.Write(text, []byte("a third one of many more bytes"))
	sum := crc.Sum([]byte(twenty))
	talk(t, s,
		"A2 0102 00 00000000 > 01 6F66207477656E, 82 7479206F6E6500",
		fmt.Sprintf("A2 0202 00 00000000 > C5 %02X%02X 00 00000000", byte(sum), sum>>8))
}
