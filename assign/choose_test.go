package assign_test

import (
	"fmt"
	"testing"

	"campanile/api"
	"campanile/assign"
)

// digits tells a number's four bytes, the lowest first.
func digits(n uint32) string {
	return fmt.Sprintf("%02X%02X%02X%02X", n&255, n>>8&255, n>>16&255, n>>24)
}

// choice tells the digits of Choose and k.
func choice(k int, number uint32) string { return fmt.Sprintf("%02X%s", 0x40+k, digits(number)) }

// rightChoice tells the digits of the k-th part, as it is.
func rightChoice(k int) string { return choice(k, identity()[k]) }

// wrongChoice tells the digits of the k-th part, another one.
func wrongChoice(k int) string { return choice(k, identity()[k]^1) }

// rightParts tells how many parts of its choice were right, by how many more a copy of the node needs.
func rightParts(t *testing.T, n *assign.Node) int {
	t.Helper()
	for parts := 3; parts >= 1; parts-- {
		c := *n
		c.Hear(asks(t, "0400"))
		for k := parts; k <= 3; k++ {
			if f, ok := c.Hear(asks(t, rightChoice(k))); ok && f == read(t, "7E4#"+full("44")) {
				return parts
			}
		}
	}
	return 0
}

func parts(t *testing.T, n *assign.Node, want int) {
	t.Helper()
	if is := rightParts(t, n); is != want {
		t.Errorf("%d parts are right, want %d", is, want)
	}
}

// chosenTo tells a node of whose choice so many parts were right.
func chosenTo(t *testing.T, address uint8, count int) *assign.Node {
	t.Helper()
	n := waiting(t, address)
	for k := range count {
		silent(t, n, rightChoice(k))
	}
	parts(t, n, count)
	return n
}

// All four parts in order, whatever address it has; Chosen is told for the fourth alone.
func TestChoose(t *testing.T) { // P19.2, P19.5
	for _, address := range []uint8{1, 127, none} {
		n := waiting(t, address)
		for k := range 3 {
			silent(t, n, rightChoice(k))
			parts(t, n, k+1)
			waits(t, n, true)
		}
		answers(t, n, rightChoice(3), "4400000000000000")
		waits(t, n, false)
		parts(t, n, 0)
		addresses(t, n, address, address)
	}
}

// No part is right behind a choice that was whole: another one needs all four again.
func TestChooseAgain(t *testing.T) { // P19.2
	n := chosenTo(t, none, 3)
	answers(t, n, rightChoice(3), "44")
	silent(t, n, "0400")
	silent(t, n, rightChoice(3))
	waits(t, n, true)
	for k := range 3 {
		silent(t, n, rightChoice(k))
	}
	answers(t, n, rightChoice(3), "44")
	waits(t, n, false)
}

// A wrong part behind any number of right ones: none is right any more.
func TestChooseWrongPart(t *testing.T) { // P19.2
	for count := range 4 {
		for k := range 4 {
			for bit := range 32 {
				n := chosenTo(t, none, count)
				silent(t, n, choice(k, identity()[k]^1<<bit))
				parts(t, n, 0)
				waits(t, n, true)
			}
		}
	}
}

// Each part behind any number of right ones; the 0th begins anew, the others go on only in order.
func TestChooseOutOfOrder(t *testing.T) { // P19.2
	for count := range 4 {
		for k := range 4 {
			n := chosenTo(t, none, count)
			switch {
			case count == 3 && k == 3:
				answers(t, n, rightChoice(3), "44")
				waits(t, n, false)
				continue
			case k == 0:
				silent(t, n, rightChoice(0))
				parts(t, n, 1)
			case k == count:
				silent(t, n, rightChoice(k))
				parts(t, n, k+1)
			default:
				silent(t, n, rightChoice(k))
				parts(t, n, 0)
			}
			waits(t, n, true)
		}
	}
}

// A part that is told twice is out of order, but the 0th.
func TestChooseTwice(t *testing.T) { // P19.2
	n := chosenTo(t, none, 1)
	silent(t, n, rightChoice(0))
	parts(t, n, 1)
	for k := 1; k < 3; k++ {
		n := chosenTo(t, none, k+1)
		silent(t, n, rightChoice(k))
		parts(t, n, 0)
		silent(t, n, rightChoice(k+1))
		parts(t, n, 0)
	}
}

// A number is held against its own part alone.
func TestChooseOtherParts(t *testing.T) { // P19.2
	for k := range 4 {
		for other := range 4 {
			if other == k {
				continue
			}
			n := chosenTo(t, none, k)
			silent(t, n, choice(k, identity()[other]))
			parts(t, n, 0)
		}
	}
}

// Identities whose parts are alike, or noughts, are chosen as any other.
func TestChooseOfAlikeParts(t *testing.T) { // P19.2
	for _, id := range []api.Identity{{}, {7, 7, 7, 7}, {0xFFFFFFFF, 0xFFFFFFFF, 0xFFFFFFFF, 0xFFFFFFFF}, {0x80000000, 0, 0x80000000, 0}} {
		n := node(t, id, none, 0)
		for k := range 3 {
			silent(t, n, choice(k, id[k]))
			waits(t, n, true)
		}
		answers(t, n, choice(3, id[3]), "44")
		waits(t, n, false)
	}
}

// The three bytes behind the number do not count.
func TestChooseWithBytesBehind(t *testing.T) { // P19.2
	n := waiting(t, none)
	for k, behind := range []string{"010203", "800000", "0000FF"} {
		silent(t, n, rightChoice(k)+behind)
		parts(t, n, k+1)
	}
	answers(t, n, rightChoice(3)+"FFFFFF", "44")
	waits(t, n, false)
}

// Other asks between leave the right parts as they are, in one that waits and in one that is configured.
func TestChooseWithOthersBetween(t *testing.T) { // P19.2
	others := []string{"0400", "0402", "04FF", "1105", "11FF", "1180", "130003", "130103", "17", "5A", "5B", "5C", "5D", "5E", "3F", "44", "4F", "59", "5F", "00", "FF",
		searched(0, 128, 0, 0), searched(identity()[0], 31, 0, 0), searched(identity()[0], 0, 0, 1), searched(identity()[3], 0, 3, 0), searched(0, 5, 2, 1)}
	for count := range 4 {
		for _, other := range others {
			n := chosenTo(t, none, count)
			n.Hear(asks(t, other))
			parts(t, n, count)
			n.Hear(asks(t, "0401"))
			waits(t, n, false)
			n.Hear(asks(t, other))
			parts(t, n, count)
		}
		n := chosenTo(t, none, count)
		deaf(t, n, read(t, "7E4#"+full(wrongChoice(count%4))))
		deaf(t, n, read(t, "7E5#"+full(wrongChoice(count % 4))[:14]))
		keepsNot(t, n)
		parts(t, n, count)
	}
}

// One that is configured does not hear Choose.
func TestChooseConfigured(t *testing.T) { // P19.2
	for count := range 4 {
		n := chosenTo(t, none, count)
		silent(t, n, "0401")
		for k := range 4 {
			for _, ask := range []string{rightChoice(k), wrongChoice(k), choice(k, 0)} {
				untouched(t, n, ask, func() { silent(t, n, ask) })
			}
		}
		waits(t, n, false)
		parts(t, n, count)
	}
}

// What a whole search has configured has the right parts that it had.
func TestChooseAndSearch(t *testing.T) { // P19.2
	n := chosenTo(t, none, 2)
	for part := range 4 {
		answers(t, n, searched(identity()[part], 0, uint8(part), uint8(part+1)%4), "4F")
	}
	waits(t, n, false)
	parts(t, n, 2)
	answers(t, n, searched(0, 128, 0, 0), "4F")
	waits(t, n, true)
	parts(t, n, 2)
}

// No command but the four is a choice.
func TestChooseHasFourCommands(t *testing.T) { // P19.2
	for count := range 4 {
		for command := range 256 {
			if command >= 0x40 && command < 0x44 || command == 0x04 || command == 0x51 {
				continue
			}
			n := chosenTo(t, none, count)
			for _, number := range identity() {
				ask := fmt.Sprintf("%02X%s", command, digits(number))
				untouched(t, n, ask, func() { silent(t, n, ask) })
			}
		}
	}
}
