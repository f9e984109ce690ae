package assign_test

import (
	"strings"
	"testing"

	"campanile/api"
	"campanile/assign"
	"campanile/frame"
)

const none = assign.None

// identity is the one of most tests; each byte of it is another one.
func identity() api.Identity {
	return api.Identity{0x11121314, 0x21222324, 0x31323334, 0x81828384}
}

// read tells the frame of a text.
func read(t *testing.T, s string) api.Frame {
	t.Helper()
	f, errno := frame.Read(s)
	if errno != api.OK {
		t.Fatalf("no frame: %s", s)
	}
	return f
}

// full tells eight bytes' digits, noughts behind.
func full(digits string) string { return digits + strings.Repeat("0", 16-len(digits)) }

// asks tells the frame of an ask of these digits.
func asks(t *testing.T, digits string) api.Frame {
	t.Helper()
	return read(t, "7E5#"+full(digits))
}

// node tells one that must be made.
func node(t *testing.T, id api.Identity, address, speed uint8) *assign.Node {
	t.Helper()
	n, errno := assign.New(id, address, speed)
	if errno != api.OK || n == nil {
		t.Fatalf("New(%x, %d, %d): %v, %d", id, address, speed, n, errno)
	}
	return n
}

// waiting tells a node of the identity of most tests.
func waiting(t *testing.T, address uint8) *assign.Node {
	t.Helper()
	return node(t, identity(), address, 0)
}

// configured tells one that Switch has configured.
func configured(t *testing.T, address uint8) *assign.Node {
	t.Helper()
	n := waiting(t, address)
	silent(t, n, "0401")
	waits(t, n, false)
	return n
}

// answers holds what is answered to an ask.
func answers(t *testing.T, n *assign.Node, ask, want string) {
	t.Helper()
	if f, ok := n.Hear(asks(t, ask)); !ok || f != read(t, "7E4#"+full(want)) {
		t.Errorf("Hear of %s: %v, %t, want %s", ask, f, ok, want)
	}
}

// silent holds that nothing is answered to an ask.
func silent(t *testing.T, n *assign.Node, ask string) {
	t.Helper()
	deaf(t, n, asks(t, ask))
}

// deaf holds that nothing is answered to a frame.
func deaf(t *testing.T, n *assign.Node, f api.Frame) {
	t.Helper()
	if answer, ok := n.Hear(f); ok || answer != (api.Frame{}) {
		t.Errorf("Hear(%v): %v, %t, want nothing", f, answer, ok)
	}
}

func addresses(t *testing.T, n *assign.Node, now, next uint8) {
	t.Helper()
	if a, b := n.Address(); a != now || b != next {
		t.Errorf("Address: %d, %d, want %d, %d", a, b, now, next)
	}
}

func speeds(t *testing.T, n *assign.Node, now, next uint8) {
	t.Helper()
	if a, b := n.Speed(); a != now || b != next {
		t.Errorf("Speed: %d, %d, want %d, %d", a, b, now, next)
	}
}

func waits(t *testing.T, n *assign.Node, want bool) {
	t.Helper()
	if is := n.Configured(); is == want {
		t.Errorf("Configured: %t", is)
	}
}

func wants(t *testing.T, n *assign.Node, want bool) {
	t.Helper()
	if is := n.Wants(); is != want {
		t.Errorf("Wants: %t", is)
	}
}

// keeps holds what Kept answers.
func keeps(t *testing.T, n *assign.Node, ok bool, want string) {
	t.Helper()
	if f, is := n.Kept(ok); !is || f != read(t, "7E4#"+full(want)) {
		t.Errorf("Kept(%t): %v, %t, want %s", ok, f, is, want)
	}
}

// keepsNot holds that Kept answers nothing.
func keepsNot(t *testing.T, n *assign.Node) {
	t.Helper()
	for _, ok := range []bool{true, false} {
		if f, is := n.Kept(ok); is || f != (api.Frame{}) {
			t.Errorf("Kept(%t): %v, %t, want nothing", ok, f, is)
		}
	}
}

// untouched holds that what is done changes nothing of a node.
func untouched(t *testing.T, n *assign.Node, what string, do func()) {
	t.Helper()
	before := *n
	do()
	if *n != before {
		t.Errorf("%s: %v, was %v", what, *n, before)
	}
}

// New takes these addresses and speeds, and no others.
func TestNew(t *testing.T) { // P19.1
	for address := range 256 {
		for speed := range 256 {
			right := (address >= 1 && address <= 127 || address == 255) && speed <= 8
			n, errno := assign.New(identity(), uint8(address), uint8(speed))
			if !right {
				if n != nil || errno != api.ErrArg {
					t.Fatalf("New(%d, %d): %v, %d, want ErrArg", address, speed, n, errno)
				}
				continue
			}
			if n == nil || errno != api.OK {
				t.Fatalf("New(%d, %d): %v, %d", address, speed, n, errno)
			}
			addresses(t, n, uint8(address), uint8(address))
			speeds(t, n, uint8(speed), uint8(speed))
			waits(t, n, true)
			wants(t, n, false)
		}
	}
}

// The edges, written out.
func TestNewAtItsEdges(t *testing.T) { // P19.1
	for _, c := range []struct {
		address, speed uint8
		want           api.Errno
	}{
		{0, 0, api.ErrArg}, {1, 0, api.OK}, {127, 0, api.OK}, {128, 0, api.ErrArg}, {254, 0, api.ErrArg}, {255, 0, api.OK},
		{1, 8, api.OK}, {1, 9, api.ErrArg}, {1, 255, api.ErrArg}, {255, 8, api.OK}, {255, 9, api.ErrArg}, {0, 9, api.ErrArg},
	} {
		if n, errno := assign.New(identity(), c.address, c.speed); errno != c.want || (n == nil) != (errno != api.OK) {
			t.Errorf("New(%d, %d): %v, %d, want %d", c.address, c.speed, n, errno, c.want)
		}
	}
}

// A new node has no right parts, the place 0, and is searched only if it has no address.
func TestNewIsAtTheBeginning(t *testing.T) { // P19.1
	for part := 1; part <= 3; part++ {
		n := waiting(t, none)
		for k := part; k <= 3; k++ {
			silent(t, n, choice(k, identity()[k]))
		}
		waits(t, n, true)
	}
	n := waiting(t, none)
	answers(t, n, searched(identity()[0], 31, 0, 0), "4F")
	for sub := uint8(1); sub < 6; sub++ {
		silent(t, n, searched(identity()[sub%4], 31, sub, 0))
	}
}

// The identity is the node's own.
func TestNewKeepsItsIdentity(t *testing.T) { // P19.1
	id := identity()
	n := node(t, id, 5, 0)
	id[0], id[1], id[2], id[3] = 0, 0, 0, 0
	silent(t, n, "0401")
	answers(t, n, "5A", "5A14131211")
	answers(t, n, "5D", "5D84838281")
}

func TestNil(t *testing.T) { // P19.1
	var n *assign.Node
	for command := range 256 {
		for _, first := range []byte{0, 1, 5, 128, 255} {
			f, _ := assign.Ask(uint8(command), first, 0, 0, 0, 128)
			deaf(t, n, f)
		}
	}
	deaf(t, n, api.Frame{})
	deaf(t, n, api.Frame{ID: api.IDAssign, Len: -1})
	wants(t, n, false)
	keepsNot(t, n)
	n.Reset()
	addresses(t, n, 0, 0)
	speeds(t, n, 0, 0)
	if n.Configured() {
		t.Error("Configured: true")
	}
}

// A node that is made by hand has an identity and an address of noughts; nothing that it is asked breaks it.
func TestByHand(t *testing.T) { // P19.1
	n := &assign.Node{}
	addresses(t, n, 0, 0)
	waits(t, n, true)
	silent(t, n, searched(0, 128, 0, 0)) // it has an address
	for k := range 3 {
		silent(t, n, choice(k, 0))
	}
	answers(t, n, choice(3, 0), "44")
	waits(t, n, false)
	answers(t, n, "5E", "5E")
	answers(t, n, "5B", "5B")
	answers(t, n, "11FF", "11")
	n.Reset()
	answers(t, n, searched(0, 128, 0, 0), "4F")
}

// Nodes have nothing together.
func TestNodesAreApart(t *testing.T) { // P19.1
	a, b := waiting(t, none), waiting(t, none)
	untouched(t, b, "what another one hears", func() {
		silent(t, a, choice(0, identity()[0]))
		answers(t, a, searched(0, 128, 0, 0), "4F")
		answers(t, a, searched(identity()[0], 0, 0, 1), "4F")
		silent(t, a, "0401")
		answers(t, a, "1107", "11")
		answers(t, a, "130003", "13")
		silent(t, a, "17")
		a.Reset()
	})
	addresses(t, a, 7, 7)
	addresses(t, b, none, none)
}

func TestNumbers(t *testing.T) { // P19.2
	for i, c := range []struct{ is, want uint8 }{
		{assign.None, 255}, {assign.Switch, 4}, {assign.SetAddress, 0x11}, {assign.SetSpeed, 0x13}, {assign.Keep, 0x17},
		{assign.Choose, 0x40}, {assign.Chosen, 0x44}, {assign.Found, 0x4F}, {assign.Search, 0x51}, {assign.Part, 0x5A}, {assign.GetAddress, 0x5E},
	} {
		if c.is != c.want {
			t.Errorf("constant %d: %x, want %x", i, c.is, c.want)
		}
	}
}

// What a node tells changes nothing of it.
func TestAskingChangesNothing(t *testing.T) { // P19.4
	for _, n := range []*assign.Node{waiting(t, none), waiting(t, 5), configured(t, none), configured(t, 5)} {
		n.Hear(asks(t, "1107"))
		n.Hear(asks(t, "17"))
		untouched(t, n, "what it tells", func() {
			n.Address()
			n.Speed()
			n.Configured()
			n.Wants()
		})
	}
}

func TestExamples(t *testing.T) { // P19.1 to P19.4
	n := node(t, api.Identity{1, 2, 3, 4}, none, 0)
	hear := func(command uint8, data ...byte) (api.Frame, bool) {
		f, errno := assign.Ask(command, data...)
		if errno != api.OK {
			t.Fatalf("Ask(%x, % x): %d", command, data, errno)
		}
		return n.Hear(f)
	}
	tells := func(want string, command uint8, data ...byte) {
		t.Helper()
		f, ok := hear(command, data...)
		if want == "" && (ok || f != (api.Frame{})) || want != "" && (!ok || f != read(t, "7E4#"+full(want))) {
			t.Errorf("%x % x: %v, %t, want %s", command, data, f, ok, want)
		}
	}
	for k := range uint8(3) {
		tells("", assign.Choose+k, k+1)
	}
	tells("4400000000000000", assign.Choose+3, 4)
	waits(t, n, false)

	tells("1100", assign.SetAddress, 5)
	tells("1101", assign.SetAddress, 128)
	addresses(t, n, 255, 5)

	tells("", assign.Keep)
	wants(t, n, true)
	keeps(t, n, true, "1700")

	tells("5B02", assign.Part+1)
	n.Reset()
	addresses(t, n, 5, 5)
	silent(t, n, "5E")
	silent(t, n, "0401")
	tells("5E05", assign.GetAddress)
	tells("5B02", assign.Part+1)
}
