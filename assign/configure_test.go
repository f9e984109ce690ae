package assign_test

import (
	"bytes"
	"fmt"
	"testing"

	"campanile/api"
	"campanile/assign"
)

// Of the first byte 0 it waits, of 1 it is configured, of others nothing happens.
func TestSwitch(t *testing.T) { // P19.2, P19.5
	for _, address := range []uint8{1, 127, none} {
		for first := range 256 {
			ask := fmt.Sprintf("04%02X", first)
			w, c := waiting(t, address), configured(t, address)
			silent(t, w, ask)
			waits(t, w, first != 1)
			silent(t, c, ask)
			waits(t, c, first == 0)
			if first > 1 {
				untouched(t, w, ask, func() { silent(t, w, ask) })
				untouched(t, c, ask, func() { silent(t, c, ask) })
			}
		}
	}
}

// The bytes behind the first one do not count.
func TestSwitchWithBytesBehind(t *testing.T) { // P19.2
	n := waiting(t, 5)
	silent(t, n, "0401FFFFFFFFFFFF")
	waits(t, n, false)
	silent(t, n, "0402010101010101")
	waits(t, n, false)
	silent(t, n, "0400010101010101")
	waits(t, n, true)
	silent(t, n, "04FF010101010101")
	waits(t, n, true)
}

// Switch changes nothing else.
func TestSwitchLeavesTheRest(t *testing.T) { // P19.2
	n := chosenTo(t, none, 2)
	answers(t, n, searched(identity()[0], 0, 0, 3), "4F")
	silent(t, n, "0401")
	answers(t, n, "1105", "11")
	answers(t, n, "130002", "13")
	silent(t, n, "17")
	untouched(t, n, "to and fro", func() {
		silent(t, n, "0400")
		silent(t, n, "0401")
		silent(t, n, "0401")
	})
	silent(t, n, "0400")
	addresses(t, n, none, 5)
	speeds(t, n, 0, 2)
	wants(t, n, true)
	parts(t, n, 2)
	isAt(t, n, 3)
}

func TestSetAddress(t *testing.T) { // P19.2
	for _, now := range []uint8{1, 127, none} {
		for address := range 256 {
			n := configured(t, now)
			ask := fmt.Sprintf("11%02X", address)
			if address >= 1 && address <= 127 || address == 255 {
				answers(t, n, ask, "1100000000000000")
				addresses(t, n, now, uint8(address))
			} else {
				untouched(t, n, ask, func() { answers(t, n, ask, "1101000000000000") })
				addresses(t, n, now, now)
			}
			waits(t, n, false)
			wants(t, n, false)
			speeds(t, n, 0, 0)
		}
	}
}

// The edges, written out; what is refused leaves the address that was set ahead of it.
func TestSetAddressAtItsEdges(t *testing.T) { // P19.2
	n := configured(t, 9)
	for _, c := range []struct {
		ask, want string
		next      uint8
	}{
		{"1100", "1101", 9}, {"1101", "1100", 1}, {"117F", "1100", 127}, {"1180", "1101", 127}, {"11FE", "1101", 127}, {"11FF", "1100", none}, {"1100", "1101", none},
		{"1105FFFFFFFFFFFF", "1100", 5}, {"1100050505050505", "1101", 5},
	} {
		answers(t, n, c.ask, c.want)
		addresses(t, n, 9, c.next)
	}
}

func TestSetSpeed(t *testing.T) { // P19.2
	for first := range 256 {
		for speed := range 256 {
			if first > 1 && first < 255 && speed > 10 && speed < 250 {
				continue
			}
			n := node(t, identity(), 5, 7)
			silent(t, n, "0401")
			ask := fmt.Sprintf("13%02X%02X", first, speed)
			if first == 0 && speed <= 8 {
				answers(t, n, ask, "1300000000000000")
				speeds(t, n, 7, uint8(speed))
			} else {
				untouched(t, n, ask, func() { answers(t, n, ask, "1301000000000000") })
				speeds(t, n, 7, 7)
			}
			addresses(t, n, 5, 5)
			waits(t, n, false)
			wants(t, n, false)
		}
	}
}

// The edges, written out; what is refused leaves the speed that was set ahead of it.
func TestSetSpeedAtItsEdges(t *testing.T) { // P19.2
	n := configured(t, 9)
	for _, c := range []struct {
		ask, want string
		next      uint8
	}{
		{"130008", "1300", 8}, {"130009", "1301", 8}, {"130103", "1301", 8}, {"1300FF", "1301", 8}, {"130003", "1300", 3}, {"130108", "1301", 3}, {"13FF00", "1301", 3}, {"130000", "1300", 0},
		{"130004FFFFFFFFFF", "1300", 4}, {"1301040000000000", "1301", 4}, {"1300090404040404", "1301", 4},
	} {
		answers(t, n, c.ask, c.want)
		speeds(t, n, 0, c.next)
	}
}

// Keep is answered by Kept, once.
func TestKeep(t *testing.T) { // P19.2, P19.3
	for ok, want := range map[bool]string{true: "1700000000000000", false: "1702000000000000"} {
		for _, ask := range []string{"17", "1701FFFFFFFFFFFF"} {
			n := configured(t, 5)
			keepsNot(t, n)
			silent(t, n, ask)
			wants(t, n, true)
			keeps(t, n, ok, want)
			wants(t, n, false)
			keepsNot(t, n)
			addresses(t, n, 5, 5)
			waits(t, n, false)
			silent(t, n, ask)
			wants(t, n, true)
			keeps(t, n, !ok, map[bool]string{true: "1700", false: "1702"}[!ok])
			keepsNot(t, n)
		}
	}
}

// One that wants twice is kept once; that it waits meanwhile is nothing to that.
func TestKeepTwice(t *testing.T) { // P19.2, P19.3
	n := configured(t, 5)
	silent(t, n, "17")
	silent(t, n, "17")
	silent(t, n, "0400")
	wants(t, n, true)
	silent(t, n, "17")
	keeps(t, n, true, "17")
	keepsNot(t, n)
	silent(t, n, "17") // it waits
	wants(t, n, false)
	keepsNot(t, n)
}

// Kept changes nothing but that.
func TestKeptLeavesTheRest(t *testing.T) { // P19.3
	n := chosenTo(t, none, 2)
	answers(t, n, searched(identity()[0], 0, 0, 3), "4F")
	silent(t, n, "0401")
	answers(t, n, "1105", "11")
	answers(t, n, "130002", "13")
	untouched(t, n, "Keep and Kept", func() {
		silent(t, n, "17")
		keeps(t, n, true, "17")
		silent(t, n, "17")
		keeps(t, n, false, "1702")
	})
	untouched(t, n, "Kept of one that does not want it", func() { keepsNot(t, n) })
}

func TestPart(t *testing.T) { // P19.2
	n := configured(t, 5)
	for ask, want := range map[string]string{
		"5A": "5A14131211000000", "5B": "5B24232221000000", "5C": "5C34333231000000", "5D": "5D84838281000000",
		"5AFFFFFFFFFFFFFF": "5A14131211", "5D84838281010101": "5D84838281",
	} {
		untouched(t, n, ask, func() { answers(t, n, ask, want) })
	}
	n = node(t, api.Identity{0, 0xFFFFFFFF, 1, 0x80000000}, 5, 0)
	silent(t, n, "0401")
	answers(t, n, "5A", "5A00000000")
	answers(t, n, "5B", "5BFFFFFFFF")
	answers(t, n, "5C", "5C01000000")
	answers(t, n, "5D", "5D00000080")
}

// GetAddress tells the address of now, not the next one.
func TestGetAddress(t *testing.T) { // P19.2
	for _, address := range []uint8{1, 5, 127, none} {
		n := configured(t, address)
		want := fmt.Sprintf("5E%02X", address)
		for _, ask := range []string{"5E", "5EFFFFFFFFFFFFFF", "5E05"} {
			untouched(t, n, ask, func() { answers(t, n, ask, want) })
		}
		answers(t, n, "1163", "11")
		answers(t, n, "5E", want)
		n.Reset()
		silent(t, n, "0401")
		answers(t, n, "5E", "5E63")
		answers(t, n, "11FF", "11")
		answers(t, n, "5E", "5E63")
	}
}

// What is next is now, behind a reset; it waits, and has forgotten the rest.
func TestReset(t *testing.T) { // P19.3
	for name, asked := range map[string][]string{
		"nothing":         {},
		"configured":      {"0401"},
		"wants":           {"0401", "17"},
		"one part":        {rightChoice(0)},
		"two parts":       {rightChoice(0), rightChoice(1)},
		"three parts":     {rightChoice(0), rightChoice(1), rightChoice(2)},
		"chosen":          {rightChoice(0), rightChoice(1), rightChoice(2), rightChoice(3)},
		"place 2":         {searched(identity()[0], 0, 0, 2)},
		"place 200":       {searched(identity()[0], 0, 0, 200)},
		"found":           {searched(identity()[0], 0, 0, 3), searched(identity()[3], 0, 3, 0)},
		"all of them":     {rightChoice(0), searched(identity()[0], 0, 0, 2), "0401", "17"},
		"waits and wants": {"0401", "17", "0400"},
	} {
		n := waiting(t, none)
		for _, ask := range asked {
			n.Hear(asks(t, ask))
		}
		n.Reset()
		if *n != *waiting(t, none) {
			t.Errorf("%s: %v behind the reset, want it as it was at first", name, *n)
		}
		waits(t, n, true)
		wants(t, n, false)
		keepsNot(t, n)
		parts(t, n, 0)
		isAt(t, n, 0)
		addresses(t, n, none, none)
		speeds(t, n, 0, 0)
	}
}

// Address and speed go from next to now at each reset.
func TestResetRenews(t *testing.T) { // P19.3
	n := node(t, identity(), 5, 3)
	n.Reset()
	addresses(t, n, 5, 5)
	speeds(t, n, 3, 3)
	for _, address := range []uint8{1, none, 127} {
		for _, speed := range []uint8{0, 8} {
			oldAddress, _ := n.Address()
			oldSpeed, _ := n.Speed()
			silent(t, n, "0401")
			answers(t, n, fmt.Sprintf("11%02X", address), "11")
			answers(t, n, fmt.Sprintf("1300%02X", speed), "13")
			addresses(t, n, oldAddress, address)
			speeds(t, n, oldSpeed, speed)
			for range 2 {
				n.Reset()
				addresses(t, n, address, address)
				speeds(t, n, speed, speed)
				waits(t, n, true)
			}
		}
	}
}

// One that waits answers to Choose and Search alone, and nothing of it changes.
func TestWaitingIsDeaf(t *testing.T) { // P19.2, P19.5
	data := []string{"", "00", "01", "05", "7F", "80", "FF", "0003", "0008", "14131211", "FFFFFFFFFFFFFF", "0000000080"}
	for _, n := range []*assign.Node{waiting(t, none), waiting(t, 5), chosenTo(t, none, 2), at(t, 2)} {
		for command := range 256 {
			if command == 0x04 || command == 0x51 || command >= 0x40 && command <= 0x43 {
				continue
			}
			for _, d := range data {
				ask := fmt.Sprintf("%02X%s", command, d)
				untouched(t, n, ask, func() { silent(t, n, ask) })
			}
		}
	}
}

// Commands that are none do nothing to one that is configured either.
func TestNoCommands(t *testing.T) { // P19.2
	heard := []byte{0x04, 0x11, 0x13, 0x17, 0x51, 0x5A, 0x5B, 0x5C, 0x5D, 0x5E}
	data := []string{"", "00", "01", "05", "FF", "14131211", "FFFFFFFFFFFFFF", "0000000080"}
	for _, n := range []*assign.Node{configured(t, none), configured(t, 5)} {
		for command := range 256 {
			if bytes.IndexByte(heard, byte(command)) >= 0 {
				continue
			}
			for _, d := range data {
				ask := fmt.Sprintf("%02X%s", command, d)
				untouched(t, n, ask, func() { silent(t, n, ask) })
			}
		}
		waits(t, n, false)
	}
}
