package consume_test

import (
	"fmt"
	"testing"

	"campanile/consume"
	"campanile/dict"
	"campanile/mapping"
	"campanile/produce"
)

// byBeat does a test with Kinds that wait for a beat, one object of 6000 sub 1 with an Event of 10.
func byBeat(t *testing.T, do func(t *testing.T, c *consume.Consumer, d *dict.Dict)) {
	for _, kind := range []uint8{0, 1, 2, 239, 240} {
		t.Run(fmt.Sprint(kind), func(t *testing.T) {
			c, d := begun(t, within(kind, 10))
			do(t, c, d)
		})
	}
}

// What comes while the window is open is held, and written at the next beat, once.
func TestHeldTillBeat(t *testing.T) { // P14.2, P14.3
	byBeat(t, func(t *testing.T, c *consume.Consumer, d *dict.Dict) {
		beats(t, c, "")
		hears(t, c, "201#05", 1, "")
		due(t, c, 11)
		value(t, d, 1, 0)
		beats(t, c, "0 OK")
		value(t, d, 1, 5)
		put(t, d, 1, 6)
		beats(t, c, "")
		value(t, d, 1, 6)
		if n := d.Changes(); n != 2 {
			t.Errorf("%d values were written", n)
		}
	})
}

// Of two frames ahead of a beat the later one is written alone.
func TestHeldInstead(t *testing.T) { // P14.2, P14.3
	byBeat(t, func(t *testing.T, c *consume.Consumer, d *dict.Dict) {
		hears(t, c, "201#05FFFF", 1, "")
		hears(t, c, "201#07", 2, "")
		due(t, c, 12)
		beats(t, c, "0 OK")
		value(t, d, 1, 7)
		beats(t, c, "")
		hears(t, c, "201#08", 3, "")
		hears(t, c, "201#0A", 4, "") // refused at the beat, not ahead of it
		beats(t, c, "0 AbHigh")
		value(t, d, 1, 7)
		beats(t, c, "")
		if n := d.Changes(); n != 1 {
			t.Errorf("%d values were written", n)
		}
	})
}

// What comes while the window is closed is reported and left out; what was held stays.
func TestClosed(t *testing.T) { // P14.2, P14.3
	byBeat(t, func(t *testing.T, c *consume.Consumer, d *dict.Dict) {
		shuts(t, c, "201#05", 1, "0 AbState")
		due(t, c, 11) // heard, though it was left out
		beats(t, c, "")
		value(t, d, 1, 0)
		hears(t, c, "201#06", 2, "")
		shuts(t, c, "201#07", 3, "0 AbState")
		shuts(t, c, "201#0A", 4, "0 AbState")
		due(t, c, 14)
		beats(t, c, "0 OK")
		value(t, d, 1, 6)
		beats(t, c, "")
	})
}

// Bounds are those of the moment of the beat, and of all values or none.
func TestHeldAndRefused(t *testing.T) { // P14.3
	c, d := made(t)
	set(t, c, 0, on(1), to(5), to(1))
	set(t, c, 1, on(240), to(6))
	c.Start()
	hears(t, c, "201#0B0A", 0, "")
	beats(t, c, "0 AbHigh, 1 OK")
	value(t, d, 5, 0)
	value(t, d, 1, 0)
	value(t, d, 6, 11)
	beats(t, c, "")
	hears(t, c, "201#0B09", 0, "")
	beats(t, c, "0 OK, 1 OK")
	value(t, d, 5, 11)
	value(t, d, 1, 9)
}

// At a beat objects write in order, those that hold none and those of other Kinds left out.
func TestBeatOrder(t *testing.T) { // P14.3
	c, d := made(t)
	for i, kind := range []uint8{240, 255, 0, 1, 254, 2, 3} {
		set(t, c, i, produce.Comm{On: true, ID: uint16(0x300 - i), Kind: kind}, to(5), to(uint8(1+i%4)))
	}
	c.Start()
	for _, text := range []string{"2FD#4403", "2FE#3302", "2FB#550B", "300#1101"} {
		hears(t, c, text, 0, "")
	}
	hears(t, c, "2FF#2202", 0, "1 OK")
	value(t, d, 5, 0x22)
	beats(t, c, "0 OK, 2 OK, 3 OK, 5 AbHigh")
	value(t, d, 5, 0x44) // by their numbers, not as they came
	value(t, d, 1, 1)
	value(t, d, 2, 2)
	value(t, d, 3, 2)
	value(t, d, 4, 3)
	beats(t, c, "")
}

// What is held is what came, in all of a frame's bytes and bits.
func TestHeldBytes(t *testing.T) { // P14.3
	c, d := made(t)
	bit := mapping.Map{Place: at(0x6000, 9), Bits: 1}
	set(t, c, 0, on(1), to(8), to(7), to(6), to(5), to(8), to(7), to(6), to(8))
	set(t, c, 1, produce.Comm{On: true, ID: 0x301, Kind: 0}, bit, to(5), bit, to(7))
	c.Start()
	hears(t, c, "201#0102030405F607F8", 0, "")
	beats(t, c, "0 OK")
	for sub, want := range map[uint8]byte{5: 4, 6: 7, 7: 0xF6, 8: 0xF8} {
		value(t, d, sub, want)
	}
	hears(t, c, "301#FE8903", 0, "")
	beats(t, c, "1 OK")
	for sub, want := range map[uint8]byte{5: 0xFF, 7: 0xE2, 9: 0} {
		value(t, d, sub, want)
	}
}

// Being late takes nothing of what an object holds.
func TestLateAndHeld(t *testing.T) { // P14.3, P14.4
	byBeat(t, func(t *testing.T, c *consume.Consumer, d *dict.Dict) {
		hears(t, c, "201#05", 1, "")
		ticks(t, c, 11, 0)
		beats(t, c, "0 OK")
		value(t, d, 1, 5)
		neverDue(t, c) // neither does a beat count as hearing
		ticks(t, c, 30)
	})
}
