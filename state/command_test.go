package state_test

import (
	"math"
	"slices"
	"testing"

	"campanile/api"
	"campanile/frame"
	"campanile/state"
)

// commandOf tells a command's frame, which must be made.
func commandOf(t *testing.T, command, address uint8) api.Frame {
	t.Helper()
	f, errno := state.Command(command, address)
	if errno != api.OK {
		t.Fatalf("Command(%x, %d): %d", command, address, errno)
	}
	return f
}

// makes holds a command's frame.
func makes(t *testing.T, command, address uint8, want string) {
	t.Helper()
	if f, errno := state.Command(command, address); f != read(t, want) || errno != api.OK {
		t.Errorf("Command(%x, %d): %v, %d, want %s", command, address, f, errno, want)
	}
}

func makesNot(t *testing.T, command, address uint8) {
	t.Helper()
	if f, errno := state.Command(command, address); f != (api.Frame{}) || errno != api.ErrArg {
		t.Errorf("Command(%x, %d): %v, %d, want ErrArg", command, address, f, errno)
	}
}

// says holds what a command's frame says.
func says(t *testing.T, f api.Frame, command, address uint8) {
	t.Helper()
	if c, a, ok := state.Commanded(f); c != command || a != address || !ok {
		t.Errorf("Commanded(%v): %x, %d, %t, want %x, %d", f, c, a, ok, command, address)
	}
}

func saysNothing(t *testing.T, f api.Frame) {
	t.Helper()
	if c, a, ok := state.Commanded(f); c != 0 || a != 0 || ok {
		t.Errorf("Commanded(%v): %x, %d, %t, want nothing", f, c, a, ok)
	}
}

// noCommands tells frames that are no command's, each but little off one that is for the node 5 or for all.
func noCommands(t *testing.T) []api.Frame {
	t.Helper()
	l := []api.Frame{{}, {Len: 2, Data: [8]byte{1, 5}, Remote: true}, {Len: 2, Remote: true}}
	for _, s := range []string{
		"001#0105", "080#0105", "100#0105", "400#0105", "705#0105", "7FF#0105", "085#0200", "001#8100", // another ID
		"000#R0", "000#R1", "000#R2", "000#R3", "000#R8", "001#R2", // that ask
		"000#", "000#01", "000#81", "000#05", "000#010500", "000#010000", "000#820500", "000#0105000000000000", "000#8100000000000000", // other lengths
		"000#0005", "000#0000", "000#0305", "000#0405", "000#7F05", "000#7F00", "000#8305", "000#FF05", "000#8300", "000#0500", "000#0501", "000#0082", // no command
		"000#0180", "000#0185", "000#01FF", "000#8280", "000#8185", "000#80FF", // no address
	} {
		l = append(l, read(t, s))
	}
	for _, command := range commands() {
		for _, address := range []uint8{0, 5} {
			for place := 2; place < 8; place++ {
				f := api.Frame{Len: 2, Data: [8]byte{command, address}} // bytes behind the length
				f.Data[place] = 1
				l = append(l, f)
			}
			for _, n := range []int{math.MinInt, -2, -1, 0, 1, 3, 8, 9, 258, 1<<32 + 2, math.MaxInt} {
				l = append(l, api.Frame{Len: n, Data: [8]byte{command, address}})
			}
			for _, id := range []uint16{1, 0x81, 0x101, 0x800, 0x8000, 0xFFFF} {
				l = append(l, api.Frame{ID: id, Len: 2, Data: [8]byte{command, address}})
			}
			l = append(l, api.Frame{Len: 2, Data: [8]byte{command, address}, Remote: true})
			l = append(l, api.Frame{Len: 2, Data: [8]byte{command, address + 128}})
		}
	}
	return l
}

func TestCommand(t *testing.T) { // P17.5
	makes(t, api.Start, 0, "000#0100")
	makes(t, api.Stop, 1, "000#0201")
	makes(t, api.Prepare, 5, "000#8005")
	makes(t, api.Reset, 126, "000#817E")
	makes(t, api.ResetComm, 127, "000#827F")
}

// Of all commands and addresses there are 5 times 128 frames, each of which says what it was made of.
func TestAllCommands(t *testing.T) { // P17.5
	made := map[api.Frame]bool{}
	for command := range 256 {
		for address := range 256 {
			c, a := uint8(command), uint8(address)
			if !slices.Contains(commands(), c) || address > 127 {
				makesNot(t, c, a)
				saysNothing(t, api.Frame{Len: 2, Data: [8]byte{c, a}})
				continue
			}
			f := commandOf(t, c, a)
			if want := (api.Frame{Len: 2, Data: [8]byte{c, a}}); f != want || !frame.Right(f) {
				t.Errorf("Command(%x, %d): %v", c, a, f)
			}
			says(t, f, c, a)
			made[f] = true
		}
	}
	if len(made) != 5*128 {
		t.Errorf("%d frames", len(made))
	}
}

func TestNoCommand(t *testing.T) { // P17.5
	for _, address := range []uint8{0, 1, 127} {
		for _, command := range []uint8{0, 3, 4, 5, 0x7F, 0x83, 0x84, 0xFF} {
			makesNot(t, command, address)
		}
	}
	for _, command := range append(commands(), 0, 3) {
		for _, address := range []uint8{128, 129, 133, 254, 255} {
			makesNot(t, command, address)
		}
	}
}

func TestCommandedOfNoCommand(t *testing.T) { // P17.5
	for _, f := range noCommands(t) {
		saysNothing(t, f)
	}
	for id := 1; id < 65536; id++ {
		saysNothing(t, api.Frame{ID: uint16(id), Len: 2, Data: [8]byte{1, 5}})
	}
	for _, s := range []string{"705#00", "705#05", "701#7F", "080#", "085#3081110000000000", "605#4000100000000000"} { // what else goes over the bus
		saysNothing(t, read(t, s))
	}
}

// A node's own frames are no commands.
func TestCommandedOfBeats(t *testing.T) { // P17.2, P17.4, P17.5
	for address := 1; address <= 127; address++ {
		m := machine(t, uint8(address))
		f, _ := m.Boot()
		saysNothing(t, f)
		saysNothing(t, m.Beat())
	}
}
