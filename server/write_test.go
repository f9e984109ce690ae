package server_test

import (
	"fmt"
	"slices"
	"strings"
	"testing"

	"campanile/api"
	"campanile/dict"
	"campanile/server"
)

// A write in one frame tells how many bytes it has.
func TestQuickWrites(t *testing.T) { // P10.2
	for _, x := range []struct {
		line  string
		place api.Place
		value string
	}{
		{"2F 0020 01 09000000 > 60 0020 01 00000000", one, "\x09"},
		{"2F 0020 01 01000000 > 60 0020 01 00000000", one, "\x01"},
		{"2B 0020 01 09000000 > 80 0020 01 12000706", one, "\x05"}, // AbLong
		{"23 0020 01 09000000 > 80 0020 01 12000706", one, "\x05"},
		{"2F 0020 01 0A000000 > 80 0020 01 31000906", one, "\x05"},           // AbHigh
		{"2F 0020 01 00000000 > 80 0020 01 32000906", one, "\x05"},           // AbLow
		{"2F 0020 00 01000000 > 80 0020 00 02000106", at(0x2000, 0), "\x01"}, // AbReadOnly
		{"2F 0420 03 01000000 > 80 0420 03 02000106", at(0x2004, 3), ""},
		{"2F 0320 01 FF000000 > 60 0320 01 00000000", at(0x2003, 1), "\xFF"},
		{"2B 0320 02 34120000 > 60 0320 02 00000000", at(0x2003, 2), "\x34\x12"},
		{"2F 0320 02 34000000 > 80 0320 02 13000706", at(0x2003, 2), "\x00\x00"}, // AbShort
		{"27 0320 03 56341200 > 60 0320 03 00000000", at(0x2003, 3), "\x56\x34\x12"},
		{"23 0320 04 78563412 > 60 0320 04 00000000", at(0x2003, 4), "\x78\x56\x34\x12"},
		{"23 0320 08 78563412 > 80 0320 08 13000706", at(0x2003, 8), "\x00\x00\x00\x00\x00\x00\x00\x00"},
		{"2F 0320 09 02000000 > 80 0320 09 30000906", at(0x2003, 9), "\x00"}, // AbValue
		{"2F 0220 00 61000000 > 60 0220 00 00000000", text, "a"},
		{"23 0220 00 61626364 > 60 0220 00 00000000", text, "abcd"},
	} {
		s, d := made(t)
		talk(t, s, x.line)
		has(t, d, x.place, x.value)
		idle(t, s)
	}
}

// One that does not tell how many bytes it has has those of the type, if that has fewer than 4.
func TestQuickWritesThatAreNotSized(t *testing.T) { // P10.2
	for _, x := range []struct {
		line  string
		place api.Place
		value string
	}{
		{"22 0020 01 07000000 > 60 0020 01 00000000", one, "\x07"},
		{"22 0020 01 07FFFFFF > 60 0020 01 00000000", one, "\x07"},
		{"22 0020 01 0A000000 > 80 0020 01 31000906", one, "\x05"},
		{"22 0020 00 01FFFFFF > 80 0020 00 02000106", at(0x2000, 0), "\x01"},
		{"22 0320 01 07FFFFFF > 60 0320 01 00000000", at(0x2003, 1), "\x07"},
		{"22 0320 02 01020304 > 60 0320 02 00000000", at(0x2003, 2), "\x01\x02"},
		{"22 0320 03 01020304 > 60 0320 03 00000000", at(0x2003, 3), "\x01\x02\x03"},
		{"22 0320 04 01020304 > 60 0320 04 00000000", at(0x2003, 4), "\x01\x02\x03\x04"},
		{"22 0320 06 01020304 > 80 0320 06 13000706", at(0x2003, 6), "\x00\x00\x00\x00\x00\x00"},
		{"22 0320 08 01020304 > 80 0320 08 13000706", at(0x2003, 8), "\x00\x00\x00\x00\x00\x00\x00\x00"},
		{"22 0320 09 01020304 > 60 0320 09 00000000", at(0x2003, 9), "\x01"},
		{"22 0320 09 02000000 > 80 0320 09 30000906", at(0x2003, 9), "\x00"},
		{"22 0220 00 61620000 > 60 0220 00 00000000", text, "ab\x00\x00"},
		{"22 0420 00 61626364 > 60 0420 00 00000000", at(0x2004, 0), "abcd"},
		{"22 0320 05 01020304 > 80 0320 05 11000906", at(0x2003, 4), "\x00\x00\x00\x00"},
		{"22 0120 00 01020304 > 80 0120 00 00000206", at(0x2003, 4), "\x00\x00\x00\x00"},
	} {
		s, d := made(t)
		talk(t, s, x.line)
		has(t, d, x.place, x.value)
		idle(t, s)
	}
}

// What may not begin, by Find's codes, by rights, by the size that is told.
func TestWritesThatMayNotBegin(t *testing.T) { // P10.2
	for _, x := range []string{
		"%s 0120 00 00000000 > 80 0120 00 00000206", // AbNoEntry
		"%s 0020 02 00000000 > 80 0020 02 11000906", // AbNoSub
		"%s 0020 00 00000000 > 80 0020 00 02000106", // AbReadOnly
		"%s 0420 03 00000000 > 80 0420 03 02000106",
	} {
		for _, first := range []string{"20", "21", "C0", "C2", "C4", "C6"} {
			s, d := made(t)
			talk(t, s, fmt.Sprintf(x, first))
			idle(t, s)
			if d.Changes() != 0 {
				t.Errorf("%s wrote", x)
			}
		}
	}
	for _, x := range []string{
		"%s 0120 00 FFFFFFFF > 80 0120 00 00000206", // a size above MaxValue comes last
		"%s 0020 02 01100000 > 80 0020 02 11000906",
		"%s 0020 00 01100000 > 80 0020 00 02000106",
		"%s 0220 00 01100000 > 80 0220 00 05000405", // AbMemory
		"%s 0220 00 00000100 > 80 0220 00 05000405",
		"%s 0220 00 00000080 > 80 0220 00 05000405",
		"%s 0220 00 FFFFFFFF > 80 0220 00 05000405",
	} {
		for _, first := range []string{"21", "C2", "C6"} {
			s, _ := made(t)
			talk(t, s, fmt.Sprintf(x, first))
			idle(t, s)
		}
	}
	s, _ := made(t)
	talk(t, s, "21 0220 00 00100000 > 60 0220 00 00000000") // just MaxValue
	busy(t, s, text)
	talk(t, s, "80 0000 00 00000000 >", "C2 0220 00 00100000 > A0 0220 00 7F000000")
	busy(t, s, text)
	talk(t, s, "80 0000 00 00000000 >", "20 0420 02 00000000 > 60 0420 02 00000000") // who may not read may write
	busy(t, s, at(0x2004, 2))
}

// some tells so many bytes, none of them 0.
func some(n int) []byte {
	b := make([]byte, n)
	for i := range b {
		b[i] = byte(i%251) + 1
	}
	return b
}

// partsOf tells the lines of a write in segments, each answered as is right.
func partsOf(b []byte) []string {
	var lines []string
	for toggle := byte(0); ; toggle ^= 0x10 {
		n := min(7, len(b))
		first := toggle + byte(2*(7-n))
		if n == len(b) {
			first++
		}
		data := append(slices.Clone(b[:n]), make([]byte, 7-n)...)
		lines = append(lines, fmt.Sprintf("%02X%X > %02X00000000000000", first, data, 0x20+toggle))
		if b = b[n:]; len(b) == 0 {
			return lines
		}
	}
}

// answers tells a line with another answer.
func answers(line, said string) string {
	heard, _, _ := strings.Cut(line, ">")
	return heard + ">" + said
}

// begins lets a write in segments begin at a place of that line; a size below 0 is not told.
func begins(t *testing.T, s *server.Server, place string, size int) {
	t.Helper()
	line := fmt.Sprintf("20 %s 00000000 > 60 %s 00000000", place, place)
	if size >= 0 {
		line = fmt.Sprintf("21 %s %02X%02X%02X%02X > 60 %s 00000000", place, byte(size), byte(size>>8), byte(size>>16), byte(size>>24), place)
	}
	talk(t, s, line)
}

func TestWritesInSegments(t *testing.T) { // P10.2, P10.4
	for _, n := range []int{0, 1, 4, 6, 7, 8, 13, 14, 15, 21, 1000, api.MaxValue - 1, api.MaxValue} {
		for _, size := range []int{-1, n} {
			s, d := made(t)
			b := some(n)
			begins(t, s, "0220 00", size)
			for _, line := range partsOf(b) {
				busy(t, s, text)
				has(t, d, text, twenty)
				talk(t, s, line)
			}
			has(t, d, text, string(b))
			idle(t, s)
			if d.Changes() != 1 {
				t.Errorf("%d bytes were written %d times", n, d.Changes())
			}
		}
	}
}

// left checks that a write has ended, and has left the text as it was.
func left(t *testing.T, s *server.Server, d *dict.Dict) {
	t.Helper()
	idle(t, s)
	has(t, d, text, twenty)
	if d.Changes() != 0 {
		t.Errorf("%d values were written", d.Changes())
	}
}

func TestWrongToggle(t *testing.T) { // P10.2
	for _, size := range []int{-1, 0, 7, 14, 100} {
		for _, heard := range []string{"10 61626364656667", "11 61626364656667", "1D 61000000000000", "1F 00000000000000"} {
			s, d := made(t)
			begins(t, s, "0220 00", size)
			talk(t, s, heard+" > 80 0220 00 00000305")
			left(t, s, d)
		}
	}
	for _, heard := range []string{"00 61626364656667", "01 61626364656667", "0D 61000000000000", "0F 00000000000000"} {
		s, d := made(t)
		begins(t, s, "0220 00", -1)
		talk(t, s, "00 61626364656667 > 20 0000 00 00000000", heard+" > 80 0220 00 00000305")
		left(t, s, d)
	}
}

// More bytes than were told stop it as soon as they come, fewer when the last ones have come.
func TestSizesOfSegments(t *testing.T) { // P10.2
	for n := range 30 {
		for size := range 30 {
			s, d := made(t)
			begins(t, s, "0220 00", size)
			came := 0
			for _, line := range partsOf(some(n)) {
				came = min(came+7, n)
				if came > size {
					talk(t, s, answers(line, "80 0220 00 12000706")) // AbLong
					break
				}
				if came == n && n < size {
					line = answers(line, "80 0220 00 13000706") // AbShort
				}
				talk(t, s, line)
			}
			if n != size {
				left(t, s, d)
				continue
			}
			has(t, d, text, string(some(n)))
		}
	}
}

func TestSegmentsAboveMaxValue(t *testing.T) { // P10.2
	for _, n := range []int{api.MaxValue + 1, api.MaxValue + 3, api.MaxValue + 100} {
		for _, size := range []int{-1, 1000, api.MaxValue} {
			s, d := made(t)
			begins(t, s, "0220 00", size)
			stop, at := "80 0220 00 05000405", api.MaxValue/7 // AbMemory
			if size == 1000 {
				stop, at = "80 0220 00 12000706", 1000/7
			}
			lines := partsOf(some(n))
			talk(t, s, lines[:at]...)
			busy(t, s, text)
			talk(t, s, answers(lines[at], stop))
			left(t, s, d)
		}
	}
}

// What the dictionary says to all the bytes is said when the last ones have come.
func TestCommitsThatAreRefused(t *testing.T) { // P10.2, P10.4
	for _, x := range []struct {
		place string
		heard string
		stop  string
	}{
		{"0020 01", "0D 0A000000000000", "31000906"}, // AbHigh
		{"0020 01", "0D 00000000000000", "32000906"}, // AbLow
		{"0020 01", "0B 07070000000000", "12000706"}, // AbLong
		{"0020 01", "0F 00000000000000", "13000706"}, // AbShort
		{"0320 09", "0D 02000000000000", "30000906"}, // AbValue
		{"0320 06", "03 FFFFFFFF000000", "30000906"},
	} {
		s, d := made(t)
		begins(t, s, x.place, -1)
		talk(t, s, x.heard+" > 80 "+x.place+" "+x.stop)
		left(t, s, d)
		has(t, d, one, "\x05")
	}
}

// asks lets a server of a hook hear three writes of 2000 sub 1: at once, in segments, in blocks.
func asks(t *testing.T, h *hook, value string, said func(line string) string) *dict.Dict {
	t.Helper()
	s, d := over(t, h, several()...)
	talk(t, s, said("2F 0020 01 "+value+"000000 > 60 0020 01 00000000"))
	idle(t, s)
	talk(t, s, "20 0020 01 00000000 > 60 0020 01 00000000", said("0D "+value+"000000000000 > 20 0000 00 00000000"))
	idle(t, s)
	talk(t, s, "C0 0020 01 00000000 > A0 0020 01 7F000000", "81 "+value+"000000000000 > A2 017F 00 00000000", said("D9 0000 00 00000000 > A1 0000 00 00000000"))
	idle(t, s)
	return d
}

func TestHook(t *testing.T) { // P10.2
	as := func(line string) string { return line }
	h := &hook{}
	d := asks(t, h, "08", as)
	has(t, d, one, "\x08")
	if want := (asked{3, one, "\x08"}); !slices.Equal(h.asked, []asked{want, want, want}) || d.Changes() != 3 {
		t.Errorf("asked %v, written %d times", h.asked, d.Changes())
	}

	h = &hook{code: api.AbState}
	d = asks(t, h, "08", func(line string) string { return answers(line, "80 0020 01 22000008") })
	has(t, d, one, "\x05")
	if len(h.asked) != 3 || d.Changes() != 0 {
		t.Errorf("asked %v, written %d times", h.asked, d.Changes())
	}

	h = &hook{code: 1} // any code
	d = asks(t, h, "08", func(line string) string { return answers(line, "80 0020 01 01000000") })
	has(t, d, one, "\x05")

	h = &hook{code: api.AbState} // what may not be written is not asked
	asks(t, h, "0A", func(line string) string { return answers(line, "80 0020 01 31000906") })
	if len(h.asked) != 0 {
		t.Errorf("asked %v", h.asked)
	}
}

// An entry without a tag asks nobody, and so does a read, and a write that has not all of its bytes.
func TestHookThatIsNotAsked(t *testing.T) { // P10.2
	h := &hook{code: api.AbState}
	s, d := over(t, h, several()...)
	talk(t, s,
		"2B 0320 02 34120000 > 60 0320 02 00000000",
		"40 0020 01 00000000 > 4F 0020 01 05000000",
		"20 0420 00 00000000 > 60 0420 00 00000000",
		"00 61626364656667 > 20 0000 00 00000000",
		"80 0000 00 00000000 >",
		"C4 0420 00 00000000 > A4 0420 00 7F000000",
		"81 61626364656667 > A2 017F 00 00000000",
		"C1 0000 00 00000000 > 80 0420 00 04000405",
		"21 0420 00 08000000 > 60 0420 00 00000000",
		"01 61626364656667 > 80 0420 00 13000706",
		"2F 0020 00 01000000 > 80 0020 00 02000106")
	has(t, d, at(0x2003, 2), "\x34\x12")
	if len(h.asked) != 0 {
		t.Errorf("asked %v", h.asked)
	}
	talk(t, s, "20 0420 00 00000000 > 60 0420 00 00000000", "00 61626364656667 > 20 0000 00 00000000", "1D 68000000000000 > 80 0420 00 22000008")
	if !slices.Equal(h.asked, []asked{{7, at(0x2004, 0), "abcdefgh"}}) { // all the bytes at once
		t.Errorf("asked %v", h.asked)
	}
	has(t, d, at(0x2004, 0), "")
}

// When the hook is asked, nothing is written yet; what it writes itself is there when the value is.
func TestHookComesFirst(t *testing.T) { // P10.2
	h := &hook{}
	s, d := over(t, h, several()...)
	h.then = func([]byte) {
		has(t, d, one, "\x05")
		d.Set(one, []byte{0})
		d.Set(text, []byte("hooked"))
	}
	talk(t, s, "2F 0020 01 07000000 > 60 0020 01 00000000")
	has(t, d, one, "\x07")
	has(t, d, text, "hooked")
}

// A hook that panics brings no call down.
func TestHookThatPanics(t *testing.T) { // P10.2, and the rules that hold everywhere
	for _, cause := range []any{"a text", 7, error(api.ErrArg), nil} {
		h := &hook{then: func([]byte) { panic(cause) }}
		d := asks(t, h, "08", func(line string) string { return answers(line, "80 0020 01 00000008") })
		has(t, d, one, "\x05")
	}
}

// A hook may do with the server what it likes: the write that it was asked for ends all the same.
func TestHookThatCallsTheServer(t *testing.T) { // P10.2, and the rules that hold everywhere
	h := &hook{}
	s, d := over(t, h, several()...)
	h.then = func([]byte) { s.Reset() }
	talk(t, s,
		"20 0020 01 00000000 > 60 0020 01 00000000", "0D 07000000000000 > 20 0000 00 00000000",
		"C0 0020 01 00000000 > A0 0020 01 7F000000", "81 06000000000000 > A2 017F 00 00000000", "D9 0000 00 00000000 > A1 0000 00 00000000")
	has(t, d, one, "\x06")
	h.then = func([]byte) { talk(t, s, "20 0220 00 00000000 > 60 0220 00 00000000") }
	talk(t, s, "2F 0020 01 08000000 > 60 0020 01 00000000")
	idle(t, s)
	has(t, d, one, "\x08")
}
