package client_test

import (
	"bytes"
	"slices"
	"strings"
	"testing"

	"campanile/api"
	"campanile/client"
)

// spoil writes over bytes, and over what lies behind their length.
func spoil(b []byte) {
	for i := range b[:cap(b)] {
		b[:cap(b)][i] ^= 0xFF
	}
}

// spoilFrames writes over frames, and over what lies behind their length.
func spoilFrames(l []api.Frame) {
	for i := range l[:cap(l)] {
		l[:cap(l)][i] = api.Frame{ID: 0xFFFF, Len: -1, Data: [8]byte{9, 9, 9, 9, 9, 9, 9, 9}}
	}
}

// What is written is what was there when the write began, whatever becomes of the list; and the list is only read.
func TestBytesAreNotKept(t *testing.T) { // the rules that hold everywhere
	for mode := range uint8(3) {
		for _, n := range []int{0, 1, 4, 5, 20} {
			room := bytes.Repeat([]byte{0xEE}, n+20)
			given := append(room[:0], some(n)...)
			before := slices.Clone(room)
			c := made(t)
			writes(t, c, given, mode, first(true, some(n), mode))
			lines := partsOf(some(n))
			switch {
			case mode == client.Blocks:
				lines = []string{"A4 0220 00 7F000000 > " + blockOf(some(n), 0, 127), ackDigits(0, 127) + " > " + blockOf(some(n), 0, 127), ackDigits(len(segmentsOf(some(n))), 1) + " > " + endOf(some(n), true), putEnded}
			case mode == client.Auto && n >= 1 && n <= 4:
				lines = []string{written + " >"}
			}
			talk(t, c, lines[0])
			if !bytes.Equal(room, before) {
				t.Errorf("mode %d, %d bytes: the list was changed", mode, n)
			}
			spoil(given)
			spoiled := slices.Clone(room)
			talk(t, c, lines[1:]...)
			wrote(t, c)
			if !bytes.Equal(room, spoiled) {
				t.Errorf("mode %d, %d bytes: the list was changed later", mode, n)
			}
		}
	}
}

// What is done to what was asked is not seen in what is asked next, by this client or by another one.
func TestAnswersAreNew(t *testing.T) { // the rules that hold everywhere
	for _, x := range states() {
		if x.waits == nothing {
			continue
		}
		a, b := made(t), made(t)
		begin := func(c *client.Client) []api.Frame {
			if x.isWrite {
				l, _ := c.Write(text, []byte(x.value), x.mode, 0)
				return l
			}
			l, _ := c.Read(text, x.mode, 0)
			return l
		}
		steps := []func(c *client.Client) []api.Frame{begin}
		for _, line := range append(slices.Clone(x.lines), x.goes) {
			heard, _, _ := strings.Cut(line, ">")
			steps = append(steps, func(c *client.Client) []api.Frame { return c.Hear(answering(t, heard), 0) })
		}
		steps = append(steps, func(c *client.Client) []api.Frame { return c.Tick(wait) })
		for i, step := range steps {
			asked, same := step(a), step(b)
			want := texts(same)
			if texts(asked) != want {
				t.Errorf("%s, step %d: %s, and %s", x.name, i, texts(asked), want)
			}
			spoilFrames(asked)
			if texts(same) != want {
				t.Errorf("%s, step %d: behind a change %s, not %s", x.name, i, texts(same), want)
			}
		}
	}
}

// Segments that are asked again are the same, whatever became of those asked first.
func TestSegmentsAreNew(t *testing.T) { // the rules that hold everywhere
	b := some(30)
	c := puts(t, b, true, 3)
	for range 3 {
		spoilFrames(c.Hear(answering(t, ackDigits(0, 3)), 0))
	}
	talk(t, c, ackDigits(3, 127)+" > "+blockOf(b, 3, 127), ackDigits(2, 1)+" > "+endOf(b, true))
}

// A result is the caller's own.
func TestResultsAreNew(t *testing.T) { // P11.5, and the rules that hold everywhere
	c := made(t)
	var kept []client.Result
	read := func(mode uint8, lines ...string) {
		t.Helper()
		reads(t, c, mode, first(false, nil, mode))
		talk(t, c, lines...)
		r, _ := c.Done()
		kept = append(kept, r)
	}
	all := append([]string{sizeAnswer(9) + " > " + askedMore(false)}, moresOf([]byte(nine))...)
	blocks := []string{"C6 0220 00 09000000 > A3 0000 00 00000000", blockOf([]byte(nine), 0, 1) + " >", "82 68690000000000 > " + ackDigits(2, 127), endOf([]byte(nine), true) + " > A1 0000 00 00000000"}
	read(client.Auto, "43 0220 00 61626364 >")
	read(client.Auto, all...)
	read(client.Blocks, blocks...)
	for i, want := range []string{"abcd", nine, nine} {
		if string(kept[i].Data) != want {
			t.Errorf("%q was kept, not %q", kept[i].Data, want)
		}
		spoil(kept[i].Data)
	}
	read(client.Auto, "43 0220 00 61626364 >")
	read(client.Auto, all...)
	read(client.Blocks, blocks...)
	for i, want := range []string{"abcd", nine, nine} {
		if string(kept[3+i].Data) != want {
			t.Errorf("%q was kept, not %q", kept[3+i].Data, want)
		}
	}
}

// Two clients share nothing.
func TestTwoClients(t *testing.T) { // P11.1
	a, b := made(t), made(t)
	reads(t, a, client.Auto, first(false, nil, 0))
	idle(t, b)
	writes(t, b, some(9), client.Segments, first(true, some(9), client.Segments))
	talk(t, a, sizeAnswer(9)+" > "+askedMore(false))
	talk(t, b, partsOf(some(9))...)
	busy(t, a)
	wrote(t, b)
	talk(t, a, moresOf([]byte(nine))...)
	got(t, a, nine)
}
