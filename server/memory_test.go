package server_test

import (
	"strings"
	"testing"

	"campanile/api"
	"campanile/server"
)

// spoil writes over bytes, and over what lies behind their length.
func spoil(b []byte) {
	for i := range b[:cap(b)] {
		b[:cap(b)][i] ^= 0xFF
	}
}

// spoilFrames writes over frames, and over what lies behind their length.
func spoilFrames(l []api.Frame) {
	for i := range l[:cap(l)] {
		l[:cap(l)][i] = api.Frame{ID: 0xFFFF, Len: -1, Data: [8]byte{9, 9, 9, 9, 9, 9, 9, 9}}
	}
}

// What is done to what was said is not seen in what is said next, by this server or by another one.
func TestAnswersAreNew(t *testing.T) { // the rules that hold everywhere
	for _, x := range states() {
		s, d := made(t)
		other, _ := server.New(5, d, nil, wait)
		for _, line := range append(x.lines, x.goes) {
			heard, _, _ := strings.Cut(line, ">")
			f := asking(t, heard)
			said, same := s.Hear(f, 0), other.Hear(f, 0)
			want := texts(same)
			if got := texts(said); got != want {
				t.Errorf("%s: %s, and %s", line, got, want)
			}
			spoilFrames(said)
			if got := texts(same); got != want {
				t.Errorf("%s: behind a change %s, not %s", line, got, want)
			}
		}
	}
	s, _ := made(t)
	s.Hear(asking(t, "40 0220 00 00000000"), 0)
	spoilFrames(s.Tick(wait))
	talk(t, s, "60 0000 00 00000000 > 80 0000 00 01000405")
}

// Segments that are said again are the same, whatever became of those said first.
func TestSegmentsAreNew(t *testing.T) { // the rules that hold everywhere
	b := some(30)
	s, d := gets(t, b, true, 3)
	for range 3 {
		spoilFrames(s.Hear(asking(t, "A2 0003 00 00000000"), 0))
	}
	talk(t, s, acked(3, 127, blockOf(b, 3, 127)))
	has(t, d, at(0x2005, 0), string(b))
}

// What a hook does to the bytes that it is shown is not written, and what it keeps stays as it was.
func TestHookMayKeepItsBytes(t *testing.T) { // P10.4, and the rules that hold everywhere
	h := &hook{then: spoil}
	d := asks(t, h, "08", func(line string) string { return line })
	has(t, d, one, "\x08")

	var kept [][]byte
	h = &hook{then: func(b []byte) { kept = append(kept, b) }}
	s, d := over(t, h, several()...)
	for _, lines := range [][]string{
		{"23 0420 00 61626364 > 60 0420 00 00000000"},
		{"20 0420 00 00000000 > 60 0420 00 00000000", "05 61626364650000 > 20 0000 00 00000000"},
		{"C0 0420 00 00000000 > A0 0420 00 7F000000", "81 61626364656667 > A2 017F 00 00000000", ends(1, 0, ended)},
	} {
		talk(t, s, lines...)
	}
	for i, want := range []string{"abcd", "abcde", "abcdef"} {
		if string(kept[i]) != want {
			t.Errorf("%q was kept, not %q", kept[i], want)
		}
		spoil(kept[i])
	}
	has(t, d, at(0x2004, 0), "abcdef")
}

// Two servers of one dictionary share it, and nothing else.
func TestTwoServers(t *testing.T) { // P10.1, P10.4
	a, d := made(t)
	b, _ := server.New(5, d, nil, wait)
	talk(t, a, "20 0220 00 00000000 > 60 0220 00 00000000")
	idle(t, b)
	talk(t, b, "40 0220 00 00000000 > 41 0220 00 14000000", moresOf([]byte(twenty))[0])
	talk(t, a, "0D 7A000000000000 > 20 0000 00 00000000")
	talk(t, b, moresOf([]byte(twenty))[1:]...)
	talk(t, b, "40 0220 00 00000000 > 4F 0220 00 7A000000")
	d.Set(text, []byte("y"))
	talk(t, a, "40 0220 00 00000000 > 4F 0220 00 79000000")
}
