package client_test

import (
	"fmt"
	"slices"
	"strings"
	"testing"

	"campanile/api"
	"campanile/client"
	"campanile/crc"
)

// segmentsOf tells a value's bytes by sevens, with noughts behind; of none, one.
func segmentsOf(b []byte) [][]byte {
	var all [][]byte
	for {
		n := min(7, len(b))
		all = append(all, append(slices.Clone(b[:n]), make([]byte, 7-n)...))
		if b = b[n:]; len(b) == 0 {
			return all
		}
	}
}

// segmentDigits tells a segment of a block in hex.
func segmentDigits(seq int, last bool, b []byte) string {
	if last {
		seq += 0x80
	}
	return fmt.Sprintf("%02X %s", seq, padded(b))
}

// blockOf tells the segments of a block from one on, as they are asked.
func blockOf(b []byte, done, block int) string {
	all := segmentsOf(b)
	var asked []string
	for i := range min(block, len(all)-done) {
		asked = append(asked, segmentDigits(i+1, done+i == len(all)-1, all[done+i]))
	}
	return strings.Join(asked, ", ")
}

// ackDigits tells an Ack in hex, a server's or a client's.
func ackDigits(seq, block int) string { return fmt.Sprintf("A2 %02X%02X 00 00000000", seq, block) }

// endDigits tells the end of a value in blocks in hex: a client's PutEnd, a server's GetEnd.
func endDigits(empty int, sum uint16) string {
	return fmt.Sprintf("%02X %02X%02X 00 00000000", 0xC1+4*empty, byte(sum), sum>>8)
}

// endOf tells the right end of a value.
func endOf(b []byte, check bool) string {
	sum := crc.Sum(b)
	if !check {
		sum = 0
	}
	return endDigits(7*len(segmentsOf(b))-len(b), sum)
}

// puts makes a client that has asked the first block of a value.
func puts(t *testing.T, b []byte, check bool, block int) *client.Client {
	t.Helper()
	c := made(t)
	writes(t, c, b, client.Blocks, first(true, b, client.Blocks))
	told := 0xA0
	if check {
		told = 0xA4
	}
	talk(t, c, fmt.Sprintf("%02X 0220 00 %02X000000 > %s", told, block, blockOf(b, 0, block)))
	return c
}

const putEnded = "A1 0000 00 00000000 >"

func TestWritesInBlocks(t *testing.T) { // P11.2, P11.3
	for _, n := range append(lengths(), 127*7-1, 127*7, 127*7+1, 254*7, 254*7+1) {
		for _, block := range []int{1, 2, 126, 127} {
			for _, check := range []bool{false, true} {
				b := some(n)
				c := puts(t, b, check, block)
				count, done := len(segmentsOf(b)), 0
				for done+block < count {
					done += block
					talk(t, c, ackDigits(block, block)+" > "+blockOf(b, done, block))
				}
				busy(t, c)
				talk(t, c, ackDigits(count-done, block)+" > "+endOf(b, check))
				busy(t, c)
				talk(t, c, putEnded)
				wrote(t, c)
			}
		}
	}
}

// A write goes on behind what is acknowledged, with the block that is told there.
func TestAcks(t *testing.T) { // P11.3
	b := some(300*7 - 2)
	c := puts(t, b, true, 127)
	for _, x := range []struct{ seq, block, done int }{
		{0, 127, 0}, {0, 3, 0}, {3, 127, 3}, {126, 1, 129}, {1, 50, 130}, {20, 127, 150},
		{127, 127, 277}, // 23 are left
		{22, 127, 299}, {0, 127, 299}, {0, 1, 299},
	} {
		talk(t, c, ackDigits(x.seq, x.block)+" > "+blockOf(b, x.done, x.block))
		busy(t, c)
	}
	talk(t, c, ackDigits(1, 9)+" > "+endOf(b, true), putEnded)
	wrote(t, c)
}

func TestAcksOfNoBytes(t *testing.T) { // P11.3
	c := puts(t, nil, true, 127)
	talk(t, c, ackDigits(0, 1)+" > 81 00000000000000", ackDigits(1, 1)+" > DD 0000 00 00000000", putEnded)
	wrote(t, c)
}

// More than were asked can't be done, also if the value has so many.
func TestAcksOfTooMany(t *testing.T) { // P11.3
	const stopped = " > 80 0220 00 03000405" // AbSeq
	b := some(20 * 7)
	for _, x := range []struct {
		lines []string
		seq   int
	}{
		{nil, 6},
		{nil, 20},
		{nil, 127},
		{[]string{ackDigits(5, 2) + " > " + blockOf(b, 5, 2)}, 3},
		{[]string{ackDigits(5, 2) + " > " + blockOf(b, 5, 2)}, 5},
		{[]string{ackDigits(5, 20) + " > " + blockOf(b, 5, 15)}, 16},
		{[]string{ackDigits(5, 20) + " > " + blockOf(b, 5, 15), ackDigits(14, 20) + " > " + blockOf(b, 19, 1)}, 2},
	} {
		c := puts(t, b, false, 5)
		talk(t, c, x.lines...)
		talk(t, c, ackDigits(x.seq, 127)+stopped)
		failed(t, c, true, api.AbSeq)
	}
	c := puts(t, nil, true, 1)
	talk(t, c, ackDigits(2, 1)+stopped)
	failed(t, c, true, api.AbSeq)
}

// gets makes a client that waits for segments; a size below 0 is not told.
func gets(t *testing.T, check bool, size int) *client.Client {
	t.Helper()
	c := made(t)
	reads(t, c, client.Blocks, first(false, nil, client.Blocks))
	told, bytes := 0xC0, 0
	if check {
		told += 4
	}
	if size >= 0 {
		told, bytes = told+2, size
	}
	talk(t, c, fmt.Sprintf("%02X 0220 00 %02X%02X0000 > A3 0000 00 00000000", told, byte(bytes), bytes>>8))
	return c
}

// tellBlocks tells a client a value in blocks, going on behind what it acknowledges, and how often that was. The n-th segment that is sent comes so often (0: it is lost).
func tellBlocks(t *testing.T, c *client.Client, b []byte, often func(n int) int) (acks int) {
	t.Helper()
	all := segmentsOf(b)
	for done, count := 0, 0; done < len(all); acks++ {
		came, broken, asked := 0, false, ""
		for i := range min(127, len(all)-done) {
			n := often(count)
			count++
			if n == 0 {
				broken = true
			} else if !broken {
				came++
			}
			for range n {
				asked += texts(c.Hear(answering(t, segmentDigits(i+1, done+i == len(all)-1, all[done+i])), 0))
			}
		}
		if want := inOne(ackDigits(came, 127)); asked != want {
			t.Fatalf("%d of %d done: asked %s, want %s", done, len(all), asked, want)
		}
		done += came
	}
	return acks
}

func once(int) int { return 1 }

// gotEnd: behind its end a read in blocks is done, and says so.
func gotEnd(t *testing.T, c *client.Client, end string, want string) {
	t.Helper()
	busy(t, c)
	talk(t, c, end+" > A1 0000 00 00000000")
	got(t, c, want)
}

func TestReadsInBlocks(t *testing.T) { // P11.2, P11.3
	for _, n := range append(lengths(), 127*7-1, 127*7, 127*7+1, 254*7, 254*7+1) {
		for _, check := range []bool{false, true} {
			for _, size := range []int{n, -1} {
				b := some(n)
				c := gets(t, check, size)
				tellBlocks(t, c, b, once)
				gotEnd(t, c, endOf(b, check), string(b))
			}
		}
	}
}

// Segments that are lost are asked for again; what comes out of its turn is left out.
func TestReadsWithSegmentsLost(t *testing.T) { // P11.3
	b := some(300*7 - 3)
	for lost := range 300 {
		if lost == 126 || lost == 253 || lost == 299 {
			continue // nothing ends the block then
		}
		c := gets(t, true, len(b))
		acks := tellBlocks(t, c, b, func(n int) int {
			if n == lost {
				return 0
			}
			return 1
		})
		if acks < 3 || acks > 4 {
			t.Errorf("%d lost: %d acknowledgements", lost, acks)
		}
		gotEnd(t, c, endOf(b, true), string(b))
	}
}

// Segments but the last one of a block may come twice, each behind itself.
func TestReadsWithSegmentsDoubled(t *testing.T) { // P11.3
	b := some(300*7 - 3)
	c := gets(t, true, len(b))
	tellBlocks(t, c, b, func(n int) int {
		if n%127 == 126 || n == 299 {
			return 1
		}
		return 1 + n%3
	})
	gotEnd(t, c, endOf(b, true), string(b))
}

const seg = "61626364656667"

func TestSegmentsOutOfTurn(t *testing.T) { // P11.3
	c := gets(t, false, -1)
	talk(t, c,
		"02 "+seg+" >", // ahead of its turn
		"01 30303030303030 >",
		"01 "+seg+" >", // twice
		"03 "+seg+" >", // the second one lost
		"84 "+seg+" > "+ackDigits(1, 127),
		"02 "+seg+" >", // the next block begins at 1
		"83 "+seg+" > "+ackDigits(0, 127),
		"01 31313131313131 >",
		"82 32323232323232 > "+ackDigits(2, 127))
	gotEnd(t, c, endDigits(0, 0), "000000011111112222222")
}

// The last one may be out of its turn, or lost.
func TestLastSegment(t *testing.T) { // P11.3
	c := gets(t, false, -1)
	talk(t, c, "82 "+seg+" > "+ackDigits(0, 127), "FF "+seg+" > "+ackDigits(0, 127), "7F "+seg+" > "+ackDigits(0, 127))
	talk(t, c, "01 30303030303030 >", "02 31313131313131 >") // a third one is lost: it waits on
	busy(t, c)
	talk(t, c, "83 32323232323232 > "+ackDigits(3, 127))
	// It waits for segments no more: what is one is an answer now, or none.
	talk(t, c, "83 32323232323232 > 80 0220 00 01000405")
	failed(t, c, false, api.AbCommand)
}

// The segment 127 ends a block, in its turn or not, the last one or not.
func TestFullBlocks(t *testing.T) { // P11.3
	for _, lost := range []int{0, 1, 2, 64, 126, 127} {
		for _, last := range []bool{false, true} {
			c := gets(t, false, -1)
			for seq := 1; seq <= 126; seq++ {
				if seq != lost {
					talk(t, c, segmentDigits(seq, false, some(7))+" >")
				}
			}
			came := lost - 1
			if lost == 0 {
				came = 127
			}
			if lost != 127 {
				talk(t, c, segmentDigits(127, last, some(7))+" > "+ackDigits(came, 127))
			}
			switch {
			case lost == 127: // nothing ended the block: it is still its turn
				talk(t, c, segmentDigits(127, true, some(7))+" > "+ackDigits(127, 127))
				came++
			case lost != 0 || !last: // the next block begins
				talk(t, c, segmentDigits(1, true, some(7))+" > "+ackDigits(1, 127))
				came++
			}
			gotEnd(t, c, endDigits(0, 0), strings.Repeat(string(some(7)), came))
		}
	}
}

// All bytes but 80 are a segment: of a number that is not the next one, nothing is taken; of the number 0 neither.
func TestAllFirstBytesOfSegments(t *testing.T) { // P11.3
	for next := 1; next <= 3; next++ {
		for first := range 256 {
			c := gets(t, false, -1)
			for seq := 1; seq < next; seq++ {
				talk(t, c, segmentDigits(seq, false, []byte("abcdefg"))+" >")
			}
			heard := fmt.Sprintf("%02X 68696A6B6C6D6E >", first)
			came := next - 1
			if first%128 == next {
				came++
			}
			if first == 0x80 {
				talk(t, c, heard)
				failed(t, c, false, 0x6E6D6C6B)
				continue
			}
			ends := first > 0x80 || first == 0x7F
			if ends {
				heard += ackDigits(came, 127)
			}
			talk(t, c, heard)
			if first != 0x80+next { // there GetEnd is what it waits for
				if ends {
					talk(t, c, segmentDigits(1, true, []byte("abcdefg"))+" > "+ackDigits(1, 127))
				} else {
					talk(t, c, segmentDigits(came+1, true, []byte("abcdefg"))+" > "+ackDigits(came+1, 127))
				}
				came++
			}
			want := strings.Repeat("abcdefg", came)
			if first%128 == next {
				want = want[:7*(next-1)] + "hijklmn" + want[7*next:]
			}
			gotEnd(t, c, endDigits(0, 0), want)
		}
	}
}

func TestEmpty(t *testing.T) { // P11.3
	for empty := range 8 {
		for count := 1; count <= 2; count++ {
			b := some(count * 7)
			for _, size := range []int{len(b) - empty, -1} {
				c := gets(t, true, size)
				tellBlocks(t, c, b, once)
				left := b[:len(b)-empty]
				gotEnd(t, c, endDigits(empty, crc.Sum(left)), string(left))
			}
		}
	}
}

func TestChecksOfBlocks(t *testing.T) { // P11.3
	b := []byte(nine)
	right := crc.Sum(b)
	for _, sum := range []uint16{0, 1, right - 1, right + 1, right ^ 0xFF00, right<<8 | right>>8, crc.Sum(b[:7]), 0xFFFF} {
		c := gets(t, true, -1)
		tellBlocks(t, c, b, once)
		talk(t, c, endDigits(5, sum)+" > "+badCheck)
		failed(t, c, false, api.AbCheck)

		c = gets(t, false, 9)
		tellBlocks(t, c, b, once)
		gotEnd(t, c, endDigits(5, sum), nine) // a check that was not told
	}
}

func TestSizesOfBlocks(t *testing.T) { // P11.3
	const done = "A1 0000 00 00000000"
	codes := map[string]api.Abort{done: 0, noMemory: api.AbMemory, tooLong: api.AbLong, tooShort: api.AbShort, badCheck: api.AbCheck}
	for _, x := range []struct {
		size, count, empty int
		asked              string
	}{
		{0, 1, 7, done}, {0, 1, 6, tooLong}, {0, 1, 0, tooLong},
		{1, 1, 6, done}, {1, 1, 7, tooShort}, {1, 1, 5, tooLong},
		{7, 1, 0, done}, {7, 2, 7, done}, {7, 1, 1, tooShort}, {7, 2, 6, tooLong},
		{8, 2, 6, done}, {8, 2, 7, tooShort}, {8, 1, 0, tooShort}, {8, 2, 0, tooLong},
		{4096, 586, 6, done}, {4096, 586, 7, tooShort}, {4096, 586, 5, noMemory}, {4095, 586, 6, tooLong}, {4095, 586, 0, noMemory},
		{-1, 586, 6, done}, {-1, 586, 5, noMemory}, {-1, 586, 0, noMemory}, {4096, 1, 0, tooShort},
	} {
		for _, right := range []bool{true, false} {
			c := gets(t, true, x.size)
			b := some(x.count * 7)
			tellBlocks(t, c, b, once)
			b = b[:len(b)-x.empty]
			sum, asked := crc.Sum(b), x.asked
			if !right {
				sum++
				if asked == done {
					asked = badCheck // sizes come ahead of it
				}
			}
			talk(t, c, endDigits(x.empty, sum)+" > "+asked)
			if asked == done {
				got(t, c, string(b))
				continue
			}
			failed(t, c, false, codes[asked])
		}
	}
}

func TestGetsOfTooMuch(t *testing.T) { // P11.3
	for _, size := range []string{"01100000", "00000100", "00000001", "FFFFFF7F", "00000080", "FFFFFFFF"} {
		for _, first := range []string{"C2", "C6"} {
			c := made(t)
			reads(t, c, client.Blocks, "A4 0220 00 7F000000")
			talk(t, c, first+" 0220 00 "+size+" > "+noMemory)
			failed(t, c, false, api.AbMemory)
		}
	}
}

// Of a value at most 586 segments are taken, of whatever size it was told to be.
func TestTooManySegments(t *testing.T) { // P11.3
	for _, size := range []int{-1, 5, api.MaxValue} {
		for _, last := range []bool{false, true} {
			c := gets(t, false, size)
			for n := range 586 {
				f := answering(t, segmentDigits(n%127+1, false, some(7)))
				if asked := c.Hear(f, 0); (len(asked) != 0) != (n%127 == 126) {
					t.Fatalf("%d: %s", n, texts(asked))
				}
			}
			next := 586%127 + 1
			talk(t, c, segmentDigits(next+1, false, some(7))+" >") // not its turn: it is left out
			busy(t, c)
			talk(t, c, segmentDigits(next, last, some(7))+" > "+noMemory)
			failed(t, c, false, api.AbMemory)
		}
	}
}
