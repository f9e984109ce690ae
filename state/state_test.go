package state_test

import (
	"testing"

	"campanile/api"
	"campanile/frame"
	"campanile/state"
)

// states tells the four states.
func states() []uint8 {
	return []uint8{api.Booting, api.Stopped, api.PreOperational, api.Operational}
}

// commands tells the five commands.
func commands() []uint8 {
	return []uint8{api.Start, api.Stop, api.Prepare, api.Reset, api.ResetComm}
}

// nobody are addresses that no node has.
func nobody() []uint8 { return []uint8{0, 128, 129, 200, 254, 255} }

// read tells the frame of a text.
func read(t *testing.T, s string) api.Frame {
	t.Helper()
	f, errno := frame.Read(s)
	if errno != api.OK {
		t.Fatalf("no frame: %s", s)
	}
	return f
}

// machine tells a node's machine, which must be made; it is Booting.
func machine(t *testing.T, address uint8) *state.Machine {
	t.Helper()
	m, errno := state.New(address)
	if errno != api.OK || m == nil {
		t.Fatalf("New(%d): %v, %d", address, m, errno)
	}
	return m
}

// machineIn tells a node's machine in a state, to which a command for all has led it.
func machineIn(t *testing.T, address, in uint8) *state.Machine {
	t.Helper()
	m := machine(t, address)
	if in == api.Booting {
		return m
	}
	m.Boot()
	switch in {
	case api.Operational:
		m.Hear(read(t, "000#0100"))
	case api.Stopped:
		m.Hear(read(t, "000#0200"))
	}
	is(t, m, in)
	return m
}

// boots holds that it boots, and its boot message.
func boots(t *testing.T, m *state.Machine, want string) {
	t.Helper()
	if f, errno := m.Boot(); f != read(t, want) || errno != api.OK {
		t.Errorf("Boot: %v, %d, want %s", f, errno, want)
	}
}

// bootsNot holds that it does not boot.
func bootsNot(t *testing.T, m *state.Machine, want api.Errno) {
	t.Helper()
	if f, errno := m.Boot(); f != (api.Frame{}) || errno != want {
		t.Errorf("Boot: %v, %d, want %d", f, errno, want)
	}
}

// hears holds what a frame changes.
func hears(t *testing.T, m *state.Machine, f api.Frame, want state.Change) {
	t.Helper()
	if c, ok := m.Hear(f); c != want || !ok {
		t.Errorf("Hear(%v): %v, %t, want %v", f, c, ok, want)
	}
}

// leaves holds that a frame is not followed.
func leaves(t *testing.T, m *state.Machine, f api.Frame) {
	t.Helper()
	if c, ok := m.Hear(f); c != (state.Change{}) || ok {
		t.Errorf("Hear(%v): %v, %t, want nothing", f, c, ok)
	}
}

// is holds which state it is in, and all that it shows of that.
func is(t *testing.T, m *state.Machine, want uint8) {
	t.Helper()
	if s := m.State(); s != want {
		t.Errorf("State: %x, want %x", s, want)
	}
	if f := m.Beat(); f != (api.Frame{ID: 0x700 + uint16(m.Address()), Len: 1, Data: [8]byte{want}}) {
		t.Errorf("Beat: %v, want the state %x of %d", f, want, m.Address())
	}
	for service := range uint8(10) {
		may(t, m, service, table(service, want))
	}
}

// table tells what the chapter's table says of a service in a state.
func table(service, in uint8) bool {
	lines := [8]string{0: "----", 1: "--++", 2: "---+", 3: "--++", 4: "--++", 5: "--++", 6: "-+++", 7: "-+++"}
	for column, s := range states() {
		if s == in && service < 8 {
			return lines[service][column] == '+'
		}
	}
	return false
}

func may(t *testing.T, m *state.Machine, service uint8, want bool) {
	t.Helper()
	if ok := m.May(service); ok != want {
		t.Errorf("May(%d) in %x: %t, want %t", service, m.State(), ok, want)
	}
}

func TestNew(t *testing.T) { // P17.1
	for address := 1; address <= 127; address++ {
		m := machine(t, uint8(address))
		if a := m.Address(); int(a) != address {
			t.Errorf("Address: %d, want %d", a, address)
		}
		is(t, m, api.Booting)
	}
}

func TestNewOfNobody(t *testing.T) { // P17.1
	for _, address := range nobody() {
		if m, errno := state.New(address); m != nil || errno != api.ErrArg {
			t.Errorf("New(%d): %v, %d", address, m, errno)
		}
	}
	for address := 128; address < 256; address++ {
		if m, errno := state.New(uint8(address)); m != nil || errno != api.ErrArg {
			t.Errorf("New(%d): %v, %d", address, m, errno)
		}
	}
}

// Machines have nothing together.
func TestMachinesAreApart(t *testing.T) { // P17.1
	a, b := machine(t, 5), machine(t, 5)
	boots(t, a, "705#00")
	is(t, b, api.Booting)
	boots(t, b, "705#00")
	hears(t, b, read(t, "000#0105"), state.Change{From: 0x7F, To: 5})
	is(t, a, api.PreOperational)
	is(t, b, api.Operational)
}

func TestNil(t *testing.T) { // P17.1
	var m *state.Machine
	bootsNot(t, m, api.ErrNil)
	for _, command := range commands() {
		for _, address := range []uint8{0, 1, 5, 127} {
			leaves(t, m, commandOf(t, command, address))
		}
	}
	leaves(t, m, api.Frame{})
	leaves(t, m, api.Frame{Len: -1})
	if m.State() != 0 || m.Address() != 0 {
		t.Errorf("State: %d, Address: %d", m.State(), m.Address())
	}
	for service := range 256 {
		if m.May(uint8(service)) {
			t.Errorf("May(%d): true", service)
		}
	}
	if f := m.Beat(); f != (api.Frame{}) {
		t.Errorf("Beat: %v", f)
	}
	bootsNot(t, m, api.ErrNil)
}

// A machine that is made by hand is nobody's; nothing that it is asked breaks it.
func TestByHand(t *testing.T) {
	m := &state.Machine{}
	leaves(t, m, read(t, "000#0100"))
	is(t, m, api.Booting)
	if m.Address() != 0 {
		t.Errorf("Address: %d", m.Address())
	}
	m.Boot()
	m.Hear(read(t, "000#0105"))
	m.Hear(read(t, "000#8100"))
	m.Hear(api.Frame{Len: 1 << 40})
}

func TestBoot(t *testing.T) { // P17.2
	for address := 1; address <= 127; address++ {
		m := machine(t, uint8(address))
		f, errno := m.Boot()
		if want := (api.Frame{ID: uint16(0x700 + address), Len: 1}); f != want || errno != api.OK {
			t.Errorf("Boot: %v, %d, want %v", f, errno, want)
		}
		is(t, m, api.PreOperational)
	}
	boots(t, machine(t, 1), "701#00")
	boots(t, machine(t, 127), "77F#00")
}

func TestBootTwice(t *testing.T) { // P17.2
	for _, in := range []uint8{api.Stopped, api.PreOperational, api.Operational} {
		m := machineIn(t, 9, in)
		for range 3 {
			bootsNot(t, m, api.ErrState)
			is(t, m, in)
		}
	}
}

// Behind a reset it boots as at first.
func TestBootBehindReset(t *testing.T) { // P17.2, P17.3
	for _, in := range []uint8{api.Stopped, api.PreOperational, api.Operational} {
		for _, reset := range []uint8{api.Reset, api.ResetComm} {
			m := machineIn(t, 9, in)
			m.Hear(commandOf(t, reset, 9))
			is(t, m, api.Booting)
			boots(t, m, "709#00")
			is(t, m, api.PreOperational)
			bootsNot(t, m, api.ErrState)
			if m.Address() != 9 {
				t.Errorf("Address: %d", m.Address())
			}
		}
	}
}

func TestAddress(t *testing.T) { // P17.4
	for _, in := range states() {
		for _, address := range []uint8{1, 2, 64, 126, 127} {
			m := machineIn(t, address, in)
			for _, f := range []string{"000#0100", "000#0205", "000#8100", "705#00", "000#0101"} {
				m.Hear(read(t, f))
				if a := m.Address(); a != address {
					t.Errorf("Address: %d, want %d", a, address)
				}
			}
		}
	}
}

// The table, written out.
func TestMay(t *testing.T) { // P17.4
	if state.Transfers != 1 || state.Process != 2 || state.Sync != 3 || state.Emergency != 4 || state.Time != 5 || state.Heartbeat != 6 || state.Commands != 7 {
		t.Error("services have other numbers")
	}
	for _, x := range []struct {
		service                             uint8
		booting, stopped, prepared, working bool
	}{
		{0, false, false, false, false},
		{state.Transfers, false, false, true, true},
		{state.Process, false, false, false, true},
		{state.Sync, false, false, true, true},
		{state.Emergency, false, false, true, true},
		{state.Time, false, false, true, true},
		{state.Heartbeat, false, true, true, true},
		{state.Commands, false, true, true, true},
		{8, false, false, false, false},
		{128, false, false, false, false},
		{255, false, false, false, false},
	} {
		may(t, machineIn(t, 5, api.Booting), x.service, x.booting)
		may(t, machineIn(t, 5, api.Stopped), x.service, x.stopped)
		may(t, machineIn(t, 5, api.PreOperational), x.service, x.prepared)
		may(t, machineIn(t, 5, api.Operational), x.service, x.working)
	}
}

// There are no services but the seven.
func TestMayOfAllNumbers(t *testing.T) { // P17.4
	for _, in := range states() {
		m := machineIn(t, 5, in)
		for service := range 256 {
			may(t, m, uint8(service), table(uint8(service), in))
		}
	}
}

func TestBeat(t *testing.T) { // P17.4
	for in, want := range map[uint8]string{api.Booting: "705#00", api.Stopped: "705#04", api.PreOperational: "705#7F", api.Operational: "705#05"} {
		m := machineIn(t, 5, in)
		for range 3 { // telling changes nothing
			if f := m.Beat(); f != read(t, want) {
				t.Errorf("Beat in %x: %v, want %s", in, f, want)
			}
			is(t, m, in)
		}
	}
	for address, want := range map[uint8]string{1: "701#7F", 126: "77E#7F", 127: "77F#7F"} {
		if f := machineIn(t, address, api.PreOperational).Beat(); f != read(t, want) {
			t.Errorf("Beat: %v, want %s", f, want)
		}
	}
}

// What a node is asked changes nothing.
func TestAskingChangesNothing(t *testing.T) { // P17.4
	for _, in := range states() {
		m := machineIn(t, 77, in)
		before := *m
		is(t, m, in)
		m.Address()
		if *m != before {
			t.Errorf("asked in %x, it is another one", in)
		}
	}
}

func TestExamples(t *testing.T) { // P17.1 to P17.5
	m := machine(t, 5)
	if s := m.State(); s != 0 {
		t.Errorf("State: %x", s)
	}
	boots(t, m, "705#00")
	if s := m.State(); s != 0x7F {
		t.Errorf("State: %x", s)
	}
	bootsNot(t, m, api.ErrState)

	hears(t, m, read(t, "000#0105"), state.Change{From: 0x7F, To: 5})
	if f := m.Beat(); f != read(t, "705#05") {
		t.Errorf("Beat: %v", f)
	}
	may(t, m, state.Process, true)

	leaves(t, m, read(t, "000#8106"))
	hears(t, m, read(t, "000#8200"), state.Change{From: 5, To: 0, Reset: 0x82})
	if s := m.State(); s != 0 {
		t.Errorf("State: %x", s)
	}

	makes(t, 1, 0, "000#0100")
	makesNot(t, 3, 0)
	makesNot(t, 1, 128)
}
