package assign_test

import (
	"bytes"
	"fmt"
	"math"
	"testing"

	"campanile/api"
	"campanile/assign"
)

func TestAsk(t *testing.T) { // P19.4
	all := []byte{1, 0, 0xFF, 4, 5, 0x80, 7}
	for command := range 256 {
		for n := range 8 {
			f, errno := assign.Ask(uint8(command), all[:n]...)
			want := read(t, "7E5#"+full(fmt.Sprintf("%02X%X", command, all[:n])))
			if f != want || errno != api.OK {
				t.Errorf("Ask(%x, % x): %v, %d, want %v", command, all[:n], f, errno, want)
			}
		}
		for _, n := range []int{8, 9, 16, 255, 256, 263, 1 << 16} {
			if f, errno := assign.Ask(uint8(command), make([]byte, n)...); f != (api.Frame{}) || errno != api.ErrArg {
				t.Errorf("Ask(%x, %d bytes): %v, %d, want ErrArg", command, n, f, errno)
			}
		}
	}
}

func TestAskWithoutData(t *testing.T) { // P19.4
	want := read(t, "7E5#1700000000000000")
	for _, data := range [][]byte{nil, {}, make([]byte, 0, 9)} {
		if f, errno := assign.Ask(assign.Keep, data...); f != want || errno != api.OK {
			t.Errorf("Ask: %v, %d", f, errno)
		}
	}
	if f, errno := assign.Ask(assign.Keep); f != want || errno != api.OK {
		t.Errorf("Ask: %v, %d", f, errno)
	}
}

// The bytes are a copy, and what lies behind them is left alone.
func TestAskCopies(t *testing.T) { // P19.4
	for n := range 8 {
		memory := []byte("0123456789abcdef")
		was := bytes.Clone(memory)
		f, _ := assign.Ask(assign.Search, memory[2:2+n]...)
		g := f
		if !bytes.Equal(memory, was) {
			t.Errorf("%q became %q", was, memory)
		}
		for i := range memory {
			memory[i] = 0xEE
		}
		if f != g || f != read(t, "7E5#"+full(fmt.Sprintf("51%X", was[2:2+n]))) {
			t.Errorf("%v became %v", g, f)
		}
	}
}

func TestAnswer(t *testing.T) { // P19.4
	for command := range 256 {
		f := api.Frame{ID: 0x7E4, Len: 8, Data: [8]byte{byte(command), 1, 0, 0xFF, 4, 5, 6, 0x80}}
		if is, data, ok := assign.Answer(f); int(is) != command || data != [7]byte{1, 0, 0xFF, 4, 5, 6, 0x80} || !ok {
			t.Errorf("Answer(%v): %x, % x, %t", f, is, data, ok)
		}
		f.Data = [8]byte{byte(command)}
		if is, data, ok := assign.Answer(f); int(is) != command || data != [7]byte{} || !ok {
			t.Errorf("Answer(%v): %x, % x, %t", f, is, data, ok)
		}
	}
}

// nearly tells frames that are nearly a message of eight bytes of an identifier, but are none.
func nearly(id uint16, data [8]byte) []api.Frame {
	var l []api.Frame
	for other := range 0x800 {
		if uint16(other) != id {
			l = append(l, api.Frame{ID: uint16(other), Len: 8, Data: data})
		}
	}
	for _, other := range []uint16{id + 0x800, id | 0x8000, 0xFFFF} {
		l = append(l, api.Frame{ID: other, Len: 8, Data: data})
	}
	for n := range 8 {
		f := api.Frame{ID: id, Len: n}
		copy(f.Data[:n], data[:])
		l = append(l, f, api.Frame{ID: id, Len: n, Data: data}, api.Frame{ID: id, Len: n, Remote: true})
	}
	for _, n := range []int{-1, -8, 9, 16, 255, 264, math.MinInt, math.MaxInt, 1<<32 + 8} {
		l = append(l, api.Frame{ID: id, Len: n, Data: data}, api.Frame{ID: id, Len: n, Remote: true})
	}
	return append(l, api.Frame{ID: id, Len: 8, Data: data, Remote: true}, api.Frame{ID: id, Len: 8, Remote: true}, api.Frame{})
}

func TestNoAnswers(t *testing.T) { // P19.4
	for _, f := range nearly(0x7E4, [8]byte{0x11, 1, 2, 3, 4, 5, 6, 7}) {
		if command, data, ok := assign.Answer(f); command != 0 || data != [7]byte{} || ok {
			t.Errorf("Answer(%v): %x, % x, %t, want nothing", f, command, data, ok)
		}
	}
}

// Frames that are no asks are nothing to a node.
func TestNoAsks(t *testing.T) { // P19.2
	for _, data := range [][8]byte{
		{0x04, 1}, {0x04, 0}, {0x11, 7}, {0x13, 0, 7}, {0x17}, {0x5A}, {0x5E}, {0x40, 0x14, 0x13, 0x12, 0x11}, {0x43, 0x84, 0x83, 0x82, 0x81},
		{0x51, 0, 0, 0, 0, 128}, {0x51, 0x14, 0x13, 0x12, 0x11, 0, 0, 1},
	} {
		for _, n := range []*assign.Node{waiting(t, none), waiting(t, 5), configured(t, none), chosenTo(t, none, 3)} {
			before := *n
			for _, f := range nearly(0x7E5, data) {
				deaf(t, n, f)
			}
			if *n != before {
				t.Errorf("frames that are nearly %x change %v to %v", data, before, *n)
			}
		}
	}
}

// What a node answers is an answer, by Answer; what is asked of it is none.
func TestAnswersOfNodes(t *testing.T) { // P19.2, P19.4
	n := configured(t, 5)
	for _, command := range []uint8{assign.SetAddress, assign.SetSpeed, assign.Part, assign.Part + 3, assign.GetAddress} {
		ask, _ := assign.Ask(command, 1)
		if _, _, ok := assign.Answer(ask); ok {
			t.Errorf("%v is an answer", ask)
		}
		f, is := n.Hear(ask)
		if got, _, ok := assign.Answer(f); !is || !ok || got != command {
			t.Errorf("%v is answered with %v", ask, f)
		}
		untouched(t, n, "an answer", func() { deaf(t, n, f) })
	}
}
