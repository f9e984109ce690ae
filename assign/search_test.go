package assign_test

import (
	"fmt"
	"testing"

	"campanile/api"
	"campanile/assign"
)

// searched tells the digits of Search.
func searched(number uint32, bits, sub, next uint8) string {
	return fmt.Sprintf("51%s%02X%02X%02X", digits(number), bits, sub, next)
}

// placeOf tells the place of a node's search, by what a copy without an address finds; 4: above 3.
func placeOf(t *testing.T, n *assign.Node) uint8 {
	t.Helper()
	for place := range uint8(4) {
		c := *n
		for _, ask := range []string{"0401", "11FF", "0400"} {
			c.Hear(asks(t, ask))
		}
		if now, _ := c.Address(); now != none {
			t.Fatal("it has an address: its place does not show")
		}
		if _, ok := c.Hear(asks(t, searched(0, 31, place, 0))); ok {
			return place
		}
		if _, ok := c.Hear(asks(t, searched(1<<31, 31, place, 0))); ok {
			return place
		}
	}
	return 4
}

func isAt(t *testing.T, n *assign.Node, want uint8) {
	t.Helper()
	if place := placeOf(t, n); place != want {
		t.Errorf("the place is %d, want %d", place, want)
	}
}

// at tells a node without an address whose search is at a place.
func at(t *testing.T, place uint8) *assign.Node {
	t.Helper()
	n := waiting(t, none)
	if place != 0 {
		answers(t, n, searched(identity()[0], 0, 0, place), "4F")
	}
	isAt(t, n, min(place, 4))
	return n
}

// A search begins at every place, whatever its other bytes are.
func TestSearchBegins(t *testing.T) { // P19.2
	for _, place := range []uint8{0, 1, 2, 3, 4, 255} {
		for _, ask := range []string{searched(0, 128, 0, 0), searched(0xFFFFFFFF, 128, 0, 0), searched(0, 128, 3, 0), searched(1, 128, 255, 7)} {
			n := at(t, place)
			answers(t, n, ask, "4F00000000000000")
			isAt(t, n, 0)
			waits(t, n, true)
		}
	}
}

// The number and the part of the place, but for the lowest bits: each bit of each part.
func TestSearchBits(t *testing.T) { // P19.2
	for sub := range uint8(4) {
		n := at(t, sub)
		part := identity()[sub]
		for bits := uint8(1); bits <= 31; bits++ {
			for flipped := range 32 {
				ask := searched(part^1<<flipped, bits, sub, 9)
				untouched(t, n, ask, func() {
					if flipped < int(bits) {
						answers(t, n, ask, "4F")
					} else {
						silent(t, n, ask)
					}
				})
			}
			lowest := uint32(1)<<bits - 1
			for _, number := range []uint32{part, part | lowest, part &^ lowest, part ^ lowest} {
				ask := searched(number, bits, sub, 9)
				untouched(t, n, ask, func() { answers(t, n, ask, "4F") })
			}
		}
	}
}

// Of 31 bits the highest one alone counts.
func TestSearchOf31Bits(t *testing.T) { // P19.2
	n := node(t, api.Identity{0x7FFFFFFF, 0x80000000, 0, 0}, none, 0)
	answers(t, n, searched(0, 31, 0, 0), "4F")
	answers(t, n, searched(0x7FFFFFFF, 31, 0, 0), "4F")
	silent(t, n, searched(0x80000000, 31, 0, 0))
	silent(t, n, searched(0xFFFFFFFF, 31, 0, 0))
	answers(t, n, searched(0x7FFFFFFF, 0, 0, 1), "4F")
	answers(t, n, searched(0x80000000, 31, 1, 0), "4F")
	answers(t, n, searched(0xFFFFFFFF, 31, 1, 0), "4F")
	silent(t, n, searched(0, 31, 1, 0))
}

// Bits above 31 are none, but for 128.
func TestSearchWrongBits(t *testing.T) { // P19.2
	for sub := range uint8(4) {
		n := at(t, sub)
		for bits := 32; bits < 256; bits++ {
			if bits == 128 {
				continue
			}
			for _, number := range []uint32{identity()[sub], 0, 0xFFFFFFFF} {
				for _, next := range []uint8{0, 1, sub} {
					ask := searched(number, uint8(bits), sub, next)
					untouched(t, n, ask, func() { silent(t, n, ask) })
				}
			}
		}
	}
}

// Of bits 0 the whole part: the place is next behind it, whatever next is.
func TestSearchOfWholePart(t *testing.T) { // P19.2
	for sub := range uint8(4) {
		for next := range 256 {
			n := at(t, sub)
			answers(t, n, searched(identity()[sub], 0, sub, uint8(next)), "4F")
			waits(t, n, sub != 3 || next != 0)
			isAt(t, n, uint8(min(next, 4)))
		}
		for bit := range 32 {
			n := at(t, sub)
			for _, next := range []uint8{0, 1, 2, 3, 4} {
				ask := searched(identity()[sub]^1<<bit, 0, sub, next)
				untouched(t, n, ask, func() { silent(t, n, ask) })
			}
		}
	}
}

// Behind other bits than 0 the place stays, and nothing is configured.
func TestSearchOfSomeBitsKeepsThePlace(t *testing.T) { // P19.2
	for sub := range uint8(4) {
		for _, bits := range []uint8{1, 2, 30, 31} {
			for _, next := range []uint8{0, 1, 2, 3, 255} {
				n := at(t, sub)
				ask := searched(identity()[sub], bits, sub, next)
				untouched(t, n, ask, func() { answers(t, n, ask, "4F") })
			}
		}
	}
}

// A sub that is not the place.
func TestSearchElsewhere(t *testing.T) { // P19.2
	for _, place := range []uint8{0, 1, 2, 3, 4, 5, 128, 255} {
		n := at(t, place)
		for sub := range 256 {
			if uint8(sub) == place && place <= 3 {
				continue
			}
			for _, bits := range []uint8{0, 1, 31} {
				for _, number := range []uint32{identity()[sub%4], identity()[place%4], 0, 0x80000000} {
					ask := searched(number, bits, uint8(sub), 0)
					untouched(t, n, ask, func() { silent(t, n, ask) })
				}
			}
		}
	}
}

// A place above 3 is one at which nothing is found, till a search begins, or the node is reset.
func TestSearchAbove3(t *testing.T) { // P19.2, P19.3
	for _, place := range []uint8{4, 5, 128, 255} {
		n := at(t, place)
		for part := range 4 {
			silent(t, n, searched(identity()[part], 0, place, 0))
			silent(t, n, searched(identity()[part], 31, place, 0))
		}
		answers(t, n, searched(0, 128, 0, 0), "4F")
		isAt(t, n, 0)

		n = at(t, place)
		n.Reset()
		isAt(t, n, 0)
	}
}

// sees tells what a search by bits, as a manager does it, finds of one node.
func sees(t *testing.T, n *assign.Node) (api.Identity, int) {
	t.Helper()
	count := 0
	told := func(ask string) bool {
		count++
		f, ok := n.Hear(asks(t, ask))
		if ok && f != read(t, "7E4#"+full("4F")) {
			t.Fatalf("%s is answered with %v", ask, f)
		}
		return ok
	}
	var id api.Identity
	if !told(searched(0, 128, 0, 0)) {
		t.Fatal("nobody is found")
	}
	for sub := range uint8(4) {
		for bit := 31; bit >= 0; bit-- {
			waits(t, n, true)
			if !told(searched(id[sub], uint8(bit), sub, sub)) {
				id[sub] |= 1 << bit
			}
		}
		if !told(searched(id[sub], 0, sub, (sub+1)%4)) {
			t.Fatalf("%x fails", id)
		}
	}
	return id, count
}

// A whole search finds the identity, and configures.
func TestWholeSearch(t *testing.T) { // P19.2, P19.5
	r := dice(7)
	ids := []api.Identity{{}, identity(), {1, 2, 3, 4}, {0xFFFFFFFF, 0xFFFFFFFF, 0xFFFFFFFF, 0xFFFFFFFF}, {0, 0xFFFFFFFF, 1, 0x80000000}, {0x7FFFFFFF, 0, 0xAAAAAAAA, 0x55555555}}
	for range 40 {
		ids = append(ids, r.identity())
	}
	for _, id := range ids {
		n := node(t, id, none, 0)
		if found, count := sees(t, n); found != id || count != 133 {
			t.Errorf("%x is found as %x, with %d asks", id, found, count)
		}
		waits(t, n, false)
		silent(t, n, searched(id[0], 0, 0, 0)) // it is found
		answers(t, n, "1109", "11")
		n.Reset()
		addresses(t, n, 9, 9)
		silent(t, n, searched(0, 128, 0, 0)) // and has an address
	}
}

// It is configured behind the last part and next 0 alone.
func TestSearchConfigures(t *testing.T) { // P19.2, P19.5
	for sub := range uint8(4) {
		for next := range uint8(5) {
			n := at(t, sub)
			answers(t, n, searched(identity()[sub], 0, sub, next), "4F")
			waits(t, n, !(sub == 3 && next == 0))
			isAt(t, n, next)
		}
	}
}

// One that is configured is not searched, but a search that begins makes it wait, and finds it.
func TestSearchOfConfigured(t *testing.T) { // P19.2
	for place := range uint8(4) {
		n := at(t, place)
		silent(t, n, "0401")
		for sub := range uint8(4) {
			for _, bits := range []uint8{0, 1, 31, 32, 127, 129, 255} {
				ask := searched(identity()[sub], bits, sub, 0)
				untouched(t, n, ask, func() { silent(t, n, ask) })
			}
		}
		waits(t, n, false)
		answers(t, n, searched(0, 128, 0, 0), "4F")
		waits(t, n, true)
		isAt(t, n, 0)
	}
}

// nearlyWithout tells nodes that have an address, now and next, now alone, and next alone; their place is 2.
func nearlyWithout(t *testing.T) map[string]*assign.Node {
	t.Helper()
	both := at(t, 2)
	silent(t, both, "0401")
	answers(t, both, "1105", "11")
	silent(t, both, "0400")
	next := *both // the address that comes behind a reset
	addresses(t, &next, none, 5)
	first, now := waiting(t, 5), waiting(t, 5)
	silent(t, now, "0401")
	answers(t, now, "11FF", "11")
	silent(t, now, "0400")
	addresses(t, now, 5, none)
	return map[string]*assign.Node{"now and next": first, "next": &next, "now": now}
}

// One that has an address, now or next, is not searched; a search that begins makes it wait, and no more.
func TestSearchWithAddress(t *testing.T) { // P19.2
	for name, n := range nearlyWithout(t) {
		for sub := range uint8(4) {
			for _, bits := range []uint8{0, 1, 31, 32, 127, 128, 129, 255} {
				ask := searched(identity()[sub], bits, sub, 0)
				untouched(t, n, name+" "+ask, func() { silent(t, n, ask) })
			}
		}
		before := *n
		silent(t, n, "0401")
		for _, bits := range []uint8{0, 31, 127} {
			silent(t, n, searched(identity()[0], bits, 0, 0))
			waits(t, n, false)
		}
		silent(t, n, searched(0, 128, 0, 0))
		waits(t, n, true)
		if *n != before {
			t.Errorf("%s: %v, was %v", name, *n, before)
		}
	}
}

// The place of one that has an address next is still there when it has none.
func TestSearchBehindAnAddress(t *testing.T) { // P19.2
	n := nearlyWithout(t)["next"]
	silent(t, n, searched(0, 128, 0, 0))
	silent(t, n, "0401")
	answers(t, n, "11FF", "11")
	silent(t, n, searched(identity()[2], 1, 2, 0)) // it is still configured
	silent(t, n, "0400")
	answers(t, n, searched(identity()[2], 1, 2, 0), "4F")
	isAt(t, n, 2)
}

// One whose address is gone behind a reset is searched again.
func TestSearchBehindReset(t *testing.T) { // P19.2, P19.3
	n := nearlyWithout(t)["now"]
	silent(t, n, searched(0, 128, 0, 0))
	n.Reset()
	addresses(t, n, none, none)
	answers(t, n, searched(identity()[0], 3, 0, 0), "4F")
	answers(t, n, searched(0, 128, 0, 0), "4F")
}
