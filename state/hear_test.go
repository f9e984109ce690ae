package state_test

import (
	"testing"

	"campanile/api"
	"campanile/state"
)

// behind tells the state behind each command, and what it lets begin anew.
func behind(command uint8) (to, reset uint8) {
	switch command {
	case 0x01:
		return 0x05, 0
	case 0x02:
		return 0x04, 0
	case 0x80:
		return 0x7F, 0
	}
	return 0x00, command
}

// A command is followed from each state but Booting, if it is for this node or for all.
func TestHear(t *testing.T) { // P17.3, P17.6
	for _, in := range states() {
		for _, command := range commands() {
			for _, own := range []uint8{1, 5, 127} {
				for address := range 128 {
					m := machineIn(t, own, in)
					f := commandOf(t, command, uint8(address))
					if in == api.Booting || address != 0 && address != int(own) {
						leaves(t, m, f)
						is(t, m, in)
						continue
					}
					to, reset := behind(command)
					hears(t, m, f, state.Change{From: in, To: to, Reset: reset})
					is(t, m, to)
				}
			}
		}
	}
}

// The changes, written out.
func TestChanges(t *testing.T) { // P17.3
	for _, x := range []struct {
		in   uint8
		text string
		want state.Change
	}{
		{api.PreOperational, "000#0105", state.Change{From: 0x7F, To: 0x05}},
		{api.PreOperational, "000#0205", state.Change{From: 0x7F, To: 0x04}},
		{api.PreOperational, "000#8005", state.Change{From: 0x7F, To: 0x7F}},
		{api.PreOperational, "000#8105", state.Change{From: 0x7F, To: 0x00, Reset: 0x81}},
		{api.PreOperational, "000#8205", state.Change{From: 0x7F, To: 0x00, Reset: 0x82}},
		{api.Operational, "000#0100", state.Change{From: 0x05, To: 0x05}},
		{api.Operational, "000#0200", state.Change{From: 0x05, To: 0x04}},
		{api.Operational, "000#8000", state.Change{From: 0x05, To: 0x7F}},
		{api.Operational, "000#8100", state.Change{From: 0x05, To: 0x00, Reset: 0x81}},
		{api.Operational, "000#8200", state.Change{From: 0x05, To: 0x00, Reset: 0x82}},
		{api.Stopped, "000#0105", state.Change{From: 0x04, To: 0x05}},
		{api.Stopped, "000#0200", state.Change{From: 0x04, To: 0x04}},
		{api.Stopped, "000#8005", state.Change{From: 0x04, To: 0x7F}},
		{api.Stopped, "000#8100", state.Change{From: 0x04, To: 0x00, Reset: 0x81}},
		{api.Stopped, "000#8205", state.Change{From: 0x04, To: 0x00, Reset: 0x82}},
	} {
		m := machineIn(t, 5, x.in)
		hears(t, m, read(t, x.text), x.want)
		is(t, m, x.want.To)
	}
}

// One that boots follows nothing, whatever it heard before.
func TestHearWhileItBoots(t *testing.T) { // P17.3
	m := machine(t, 5)
	for range 2 {
		for _, command := range commands() {
			for _, address := range []uint8{0, 5, 6} {
				leaves(t, m, commandOf(t, command, address))
				is(t, m, api.Booting)
			}
		}
		boots(t, m, "705#00")
		hears(t, m, read(t, "000#8105"), state.Change{From: 0x7F, Reset: 0x81})
	}
}

// What is no command's frame changes nothing.
func TestHearOfNoCommand(t *testing.T) { // P17.3
	for _, in := range states() {
		m := machineIn(t, 5, in)
		for _, f := range noCommands(t) {
			leaves(t, m, f)
			is(t, m, in)
		}
	}
}

// Of all that two bytes may say it is five commands, for two addresses each.
func TestHearOfAllBytes(t *testing.T) { // P17.3
	for _, in := range []uint8{api.Stopped, api.PreOperational, api.Operational} {
		followed := 0
		for n := range 65536 {
			m := quick(in)
			f := api.Frame{Len: 2, Data: [8]byte{byte(n >> 8), byte(n)}}
			if c, ok := m.Hear(f); ok {
				followed++
			} else if c != (state.Change{}) || m.State() != in {
				t.Fatalf("Hear(%v): %v, state %x", f, c, m.State())
			}
		}
		if followed != 10 {
			t.Errorf("in %x %d frames are followed", in, followed)
		}
	}
}

// quick tells a machine of the address 5 in a state that is not Booting.
func quick(in uint8) *state.Machine {
	m, _ := state.New(5)
	m.Boot()
	switch in {
	case api.Operational:
		m.Hear(api.Frame{Len: 2, Data: [8]byte{1}})
	case api.Stopped:
		m.Hear(api.Frame{Len: 2, Data: [8]byte{2}})
	}
	return m
}
