package server_test

import (
	"fmt"
	"slices"
	"testing"

	"campanile/api"
	"campanile/crc"
	"campanile/dict"
	"campanile/server"
)

// puts lets a write of the text in blocks begin; a size below 0 is not told.
func puts(t *testing.T, s *server.Server, check bool, size int) {
	t.Helper()
	first, told := 0xC0, 0
	said := "A0"
	if check {
		first, said = first+4, "A4"
	}
	if size >= 0 {
		first, told = first+2, size
	}
	talk(t, s, fmt.Sprintf("%02X 0220 00 %02X%02X0000 > %s 0220 00 7F000000", first, byte(told), told>>8, said))
}

// segmentsOf tells a value's bytes by sevens, with noughts behind; of none, one.
func segmentsOf(b []byte) [][]byte {
	var all [][]byte
	for {
		n := min(7, len(b))
		all = append(all, append(slices.Clone(b[:n]), make([]byte, 7-n)...))
		if b = b[n:]; len(b) == 0 {
			return all
		}
	}
}

// sendBlocks sends a value in blocks, going on behind what is acknowledged, and tells how often that was. The n-th segment that it sends comes so often (0: it is lost).
func sendBlocks(t *testing.T, s *server.Server, b []byte, often func(n int) int) (acks int) {
	t.Helper()
	all := segmentsOf(b)
	for done, count := 0, 0; done < len(all); acks++ {
		block := min(127, len(all)-done)
		came, broken, said := 0, false, ""
		for i := range block {
			n := often(count)
			count++
			last := done+i == len(all)-1
			if n == 0 {
				broken = true
			} else if !broken {
				came++
			}
			for range n {
				said += texts(s.Hear(asking(t, segmentDigits(i+1, last, all[done+i])), 0))
			}
		}
		if want := fmt.Sprintf("A2%02X7F0000000000", came); said != want {
			t.Fatalf("behind %d segments: %s, want %s", done, said, want)
		}
		done += came
	}
	return acks
}

func segmentDigits(seq int, last bool, data []byte) string {
	if last {
		seq += 0x80
	}
	return fmt.Sprintf("%02X%X", seq, data)
}

// ends tells the line by which a write in blocks ends.
func ends(empty int, sum uint16, said string) string {
	return fmt.Sprintf("%02X %02X%02X 00 00000000 > %s", 0xC1+4*empty, byte(sum), sum>>8, said)
}

const (
	ended    = "A1 0000 00 00000000"
	noMemory = "80 0220 00 05000405"
	tooLong  = "80 0220 00 12000706"
	tooShort = "80 0220 00 13000706"
	noCheck  = "80 0220 00 04000405"
)

func once(int) int { return 1 }

func TestWritesInBlocks(t *testing.T) { // P10.2, P10.4
	for _, n := range []int{0, 1, 6, 7, 8, 14, 126 * 7, 127*7 - 1, 127 * 7, 127*7 + 1, 254 * 7, 254*7 + 1, api.MaxValue - 1, api.MaxValue} {
		for _, check := range []bool{false, true} {
			for _, size := range []int{-1, n} {
				s, d := made(t)
				b := some(n)
				puts(t, s, check, size)
				acks := sendBlocks(t, s, b, once)
				has(t, d, text, twenty)
				busy(t, s, text)
				count := len(segmentsOf(b))
				if want := (count + 126) / 127; acks != want {
					t.Errorf("%d bytes: %d acknowledgements, want %d", n, acks, want)
				}
				talk(t, s, ends(count*7-n, crc.Sum(b), ended))
				has(t, d, text, string(b))
				idle(t, s)
				if d.Changes() != 1 {
					t.Errorf("%d bytes were written %d times", n, d.Changes())
				}
			}
		}
	}
}

// Whatever is lost amid a block, it goes on behind the last good segment; what comes twice counts once.
func TestBlocksWithLosses(t *testing.T) { // P10.2
	b := some(300*7 - 3)
	for _, x := range []struct {
		name  string
		often func(n int) int
	}{
		{"the first one lost", func(n int) int { return min(n, 1) }},
		{"one lost", func(n int) int {
			if n == 5 {
				return 0
			}
			return 1
		}},
		{"one of each block lost", func(n int) int {
			if n%127 == 63 {
				return 0
			}
			return 1
		}},
		{"many lost, and some twice", func(n int) int {
			switch {
			case n%127 == 126 || n > 900:
				return 1 // what ends a block
			case n%17 == 3:
				return 0
			case n%13 == 3:
				return 2
			}
			return 1
		}},
	} {
		t.Run(x.name, func(t *testing.T) {
			s, d := made(t)
			puts(t, s, true, len(b))
			sendBlocks(t, s, b, func(n int) int {
				if n%127 == 126 {
					return 1
				}
				return x.often(n)
			})
			talk(t, s, ends(3, crc.Sum(b), ended))
			has(t, d, text, string(b))
		})
	}
}

const seg = "61626364656667"

func TestSegmentsOutOfTurn(t *testing.T) { // P10.2
	s, d := made(t)
	puts(t, s, false, -1)
	talk(t, s,
		"02 "+seg+" >", // ahead of its turn
		"01 30303030303030 >",
		"01 "+seg+" >", // twice
		"03 "+seg+" >", // the second one lost
		"84 "+seg+" > A2 017F 00 00000000",
		"02 "+seg+" >", // the next block begins at 1
		"83 "+seg+" > A2 007F 00 00000000",
		"01 31313131313131 >",
		"82 32323232323232 > A2 027F 00 00000000",
		ends(0, 0, ended))
	has(t, d, text, "000000011111112222222")
	idle(t, s)
}

// The last one may be out of its turn, or lost.
func TestLastSegment(t *testing.T) { // P10.2
	s, d := made(t)
	puts(t, s, false, -1)
	talk(t, s, "82 "+seg+" > A2 007F 00 00000000", "FF "+seg+" > A2 007F 00 00000000", "7F "+seg+" > A2 007F 00 00000000")
	talk(t, s, "01 30303030303030 >", "02 31313131313131 >") // a third one is lost: it waits on
	busy(t, s, text)
	talk(t, s, "83 32323232323232 > A2 037F 00 00000000")
	has(t, d, text, twenty)
	// It waits for segments no more: what is one is a command now, or none.
	talk(t, s, "83 32323232323232 > "+"80 0220 00 01000405")
	left(t, s, d)
}

// The segment 127 ends a block, in its turn or not, the last one or not.
func TestFullBlocks(t *testing.T) { // P10.2
	for _, lost := range []int{0, 1, 2, 64, 126, 127} {
		for _, last := range []bool{false, true} {
			s, d := made(t)
			puts(t, s, false, -1)
			for seq := 1; seq <= 126; seq++ {
				if seq != lost {
					talk(t, s, segmentDigits(seq, false, some(7))+" >")
				}
			}
			came := lost - 1
			if lost == 0 {
				came = 127
			}
			if lost != 127 {
				talk(t, s, segmentDigits(127, last, some(7))+fmt.Sprintf(" > A2 %02X7F 00 00000000", came))
			}
			switch {
			case lost == 127: // nothing ended the block: it is still its turn
				talk(t, s, "FF "+seg+" > A2 7F7F 00 00000000")
				came++
			case lost != 0 || !last: // the next block begins
				talk(t, s, "81 "+seg+" > A2 017F 00 00000000")
				came++
			}
			talk(t, s, ends(0, 0, ended))
			if b, _ := d.Get(text); len(b) != came*7 {
				t.Errorf("%d lost, %t: %d bytes, want %d", lost, last, len(b), came*7)
			}
		}
	}
}

// All bytes but 80 are a segment: of a number that is not the next one, nothing is taken; of the number 0 neither.
func TestAllFirstBytesOfSegments(t *testing.T) { // P10.2
	for next := 1; next <= 3; next++ {
		for first := range 256 {
			s, d := made(t)
			puts(t, s, false, -1)
			for seq := 1; seq < next; seq++ {
				talk(t, s, segmentDigits(seq, false, []byte("abcdefg"))+" >")
			}
			heard := fmt.Sprintf("%02X 68696A6B6C6D6E >", first)
			came := next - 1
			if first%128 == next {
				came++
			}
			if first == 0x80 {
				talk(t, s, heard)
				left(t, s, d)
				continue
			}
			if first > 0x80 || first == 0x7F {
				heard += fmt.Sprintf(" A2 %02X7F 00 00000000", came)
			}
			talk(t, s, heard)
			busy(t, s, text)
			if first == 0x80+next {
				talk(t, s, ends(0, 0, ended)) // PutEnd is what it waits for
				continue
			}
			if first > 0x80 || first == 0x7F {
				talk(t, s, "81 "+seg+" > A2 017F 00 00000000")
			} else {
				talk(t, s, segmentDigits(came+1, true, []byte("abcdefg"))+fmt.Sprintf(" > A2 %02X7F 00 00000000", came+1))
			}
			talk(t, s, ends(7, 0, ended))
			if b, _ := d.Get(text); len(b) != came*7 {
				t.Errorf("%02X, the next one being %d: %d bytes, want %d", first, next, len(b), came*7)
			}
		}
	}
}

func TestEmpty(t *testing.T) { // P10.2
	for empty := range 8 {
		for count := 1; count <= 2; count++ {
			s, d := made(t)
			puts(t, s, true, -1)
			b := some(count * 7)
			sendBlocks(t, s, b, once)
			b = b[:len(b)-empty]
			talk(t, s, ends(empty, crc.Sum(b), ended))
			has(t, d, text, string(b))
			idle(t, s)
		}
	}
}

func TestChecksOfBlocks(t *testing.T) { // P10.2
	b := []byte("abcdefghi")
	right := crc.Sum(b)
	for _, sum := range []uint16{0, 1, right - 1, right + 1, right ^ 0xFF00, right<<8 | right>>8, crc.Sum(segmentsOf(b)[0]), 0xFFFF} {
		s, d := made(t)
		puts(t, s, true, -1)
		sendBlocks(t, s, b, once)
		talk(t, s, ends(5, sum, noCheck))
		left(t, s, d)
		puts(t, s, false, 9)
		sendBlocks(t, s, b, once)
		talk(t, s, ends(5, sum, ended)) // a check that was not asked for
		has(t, d, text, string(b))
	}
}

func TestSizesOfBlocks(t *testing.T) { // P10.2
	for _, x := range []struct {
		size, count, empty int
		said               string
	}{
		{0, 1, 7, ended}, {0, 1, 6, tooLong}, {0, 1, 0, tooLong},
		{1, 1, 6, ended}, {1, 1, 7, tooShort}, {1, 1, 5, tooLong},
		{7, 1, 0, ended}, {7, 2, 7, ended}, {7, 1, 1, tooShort}, {7, 2, 6, tooLong},
		{8, 2, 6, ended}, {8, 2, 7, tooShort}, {8, 1, 0, tooShort}, {8, 2, 0, tooLong},
		{4096, 586, 6, ended}, {4096, 586, 7, tooShort}, {4096, 586, 5, noMemory}, {4095, 586, 6, tooLong}, {4095, 586, 0, noMemory},
		{-1, 586, 6, ended}, {-1, 586, 5, noMemory}, {-1, 586, 0, noMemory}, {4096, 1, 0, tooShort},
	} {
		for _, right := range []bool{true, false} {
			s, d := made(t)
			b := some(x.count * 7)
			puts(t, s, true, x.size)
			sendBlocks(t, s, b, once)
			b = b[:len(b)-x.empty]
			sum, said := crc.Sum(b), x.said
			if !right {
				sum++
				if said == ended {
					said = noCheck // sizes come ahead of it
				}
			}
			talk(t, s, ends(x.empty, sum, said))
			if said != ended {
				left(t, s, d)
				continue
			}
			has(t, d, text, string(b))
			idle(t, s)
		}
	}
}

// Of a value at most 586 segments are taken, of whatever size it was told to be.
func TestTooManySegments(t *testing.T) { // P10.2
	for _, size := range []int{-1, 5, api.MaxValue} {
		for _, last := range []bool{false, true} {
			s, d := made(t)
			puts(t, s, false, size)
			for n := range 586 {
				f := asking(t, segmentDigits(n%127+1, false, some(7)))
				if said := s.Hear(f, 0); (len(said) != 0) != (n%127 == 126) {
					t.Fatalf("%d: %s", n, texts(said))
				}
			}
			next := 586%127 + 1
			talk(t, s, segmentDigits(next+1, false, some(7))+" >") // not its turn: it is left out
			busy(t, s, text)
			talk(t, s, segmentDigits(next, last, some(7))+" > "+noMemory)
			left(t, s, d)
		}
	}
}

// What the dictionary says to the bytes is said at the end, behind the check.
func TestBlocksThatAreRefused(t *testing.T) { // P10.2, P10.4
	s, d := made(t)
	for _, x := range []struct {
		heard string
		empty int
		said  string
	}{
		{"81 0A000000000000", 6, "80 0020 01 31000906"},
		{"81 00000000000000", 6, "80 0020 01 32000906"},
		{"81 05050000000000", 5, "80 0020 01 12000706"},
		{"81 05050000000000", 7, "80 0020 01 13000706"},
	} {
		talk(t, s, "C0 0020 01 00000000 > A0 0020 01 7F000000", x.heard+" > A2 017F 00 00000000", ends(x.empty, 0, x.said))
		idle(t, s)
	}
	talk(t, s, "C4 0020 01 00000000 > A4 0020 01 7F000000", "81 0A000000000000 > A2 017F 00 00000000", ends(6, 0, "80 0020 01 04000405"))
	has(t, d, one, "\x05")
	if d.Changes() != 0 {
		t.Errorf("%d values were written", d.Changes())
	}
}

// blockOf tells the segments of a block from a place on, as they are said.
func blockOf(b []byte, done, block int) string {
	all := segmentsOf(b)
	said := ""
	for i := range min(block, len(all)-done) {
		if i > 0 {
			said += ", "
		}
		said += segmentDigits(i+1, done+i == len(all)-1, all[done+i])
	}
	return said
}

// gets makes a server of a value of which a read in blocks begins, and starts.
func gets(t *testing.T, b []byte, check bool, block int) (*server.Server, *dict.Dict) {
	t.Helper()
	s, d := over(t, nil, holding(b))
	c := 0
	if check {
		c = 4
	}
	talk(t, s,
		fmt.Sprintf("%02X 0520 00 %02X000000 > %02X 0520 00 %02X%02X0000", 0xA0+c, block, 0xC2+c, byte(len(b)), len(b)>>8),
		"A3 0000 00 00000000 > "+blockOf(b, 0, block))
	return s, d
}

// acked tells the line of an Ack.
func acked(seq, block int, said string) string {
	return fmt.Sprintf("A2 %02X%02X 00 00000000 > %s", seq, block, said)
}

// told tells the server's GetEnd of a value.
func told(b []byte, check bool) string {
	sum := crc.Sum(b)
	if !check {
		sum = 0
	}
	return fmt.Sprintf("%02X %02X%02X 00 00000000", 0xC1+4*(len(segmentsOf(b))*7-len(b)), byte(sum), sum>>8)
}

func TestReadsInBlocks(t *testing.T) { // P10.2
	for _, n := range []int{0, 1, 4, 6, 7, 8, 13, 14, 15, 127*7 - 1, 127 * 7, 127*7 + 1, api.MaxValue} {
		for _, block := range []int{1, 2, 126, 127} {
			for _, check := range []bool{false, true} {
				b := some(n)
				s, _ := gets(t, b, check, block)
				count := len(segmentsOf(b))
				done := 0
				for done+block < count {
					done += block
					talk(t, s, acked(block, block, blockOf(b, done, block)))
				}
				busy(t, s, at(0x2005, 0))
				talk(t, s, acked(count-done, block, told(b, check)))
				busy(t, s, at(0x2005, 0))
				talk(t, s, "A1 0000 00 00000000 >")
				idle(t, s)
			}
		}
	}
}

// A read goes on behind what is acknowledged, with the block that is told there.
func TestAcks(t *testing.T) { // P10.2
	b := some(300*7 - 2)
	s, d := gets(t, b, true, 127)
	talk(t, s,
		acked(0, 127, blockOf(b, 0, 127)),
		acked(0, 3, blockOf(b, 0, 3)),
		acked(3, 127, blockOf(b, 3, 127)),
		acked(126, 1, blockOf(b, 129, 1)),
		acked(1, 50, blockOf(b, 130, 50)),
		acked(20, 127, blockOf(b, 150, 127)),
		acked(127, 127, blockOf(b, 277, 127)), // 23 are left
		acked(22, 127, blockOf(b, 299, 127)),
		acked(0, 127, blockOf(b, 299, 1)),
		acked(1, 9, told(b, true)),
		"A1 0000 00 00000000 >")
	idle(t, s)
	if d.Changes() != 0 {
		t.Errorf("%d values were written", d.Changes())
	}
}

func TestAcksOfNoBytes(t *testing.T) { // P10.2
	s, _ := gets(t, nil, true, 127)
	talk(t, s,
		acked(0, 1, "81 00000000000000"),
		acked(1, 1, "DD 0000 00 00000000"),
		"A1 0000 00 00000000 >")
	idle(t, s)
	s, _ = gets(t, nil, false, 1)
	talk(t, s, acked(2, 1, "80 0520 00 03000405"))
	idle(t, s)
}

// More than were said can't be done, also if the value has so many.
func TestAcksOfTooMany(t *testing.T) { // P10.2
	const stopped = "80 0520 00 03000405" // AbSeq
	b := some(20 * 7)
	for _, x := range []struct {
		lines []string
		seq   int
	}{
		{nil, 6},
		{nil, 127},
		{[]string{acked(5, 2, blockOf(b, 5, 2))}, 3},
		{[]string{acked(5, 2, blockOf(b, 5, 2))}, 5},
		{[]string{acked(5, 20, blockOf(b, 5, 15))}, 16},
		{[]string{acked(5, 20, blockOf(b, 5, 15)), acked(14, 20, blockOf(b, 19, 1))}, 2},
	} {
		s, _ := gets(t, b, false, 5)
		talk(t, s, x.lines...)
		talk(t, s, acked(x.seq, 127, stopped))
		idle(t, s)
	}
}
