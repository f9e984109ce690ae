package consume_test

import (
	"fmt"
	"math"
	"testing"

	"campanile/api"
	"campanile/consume"
	"campanile/dict"
	"campanile/mapping"
	"campanile/produce"
)

// nothing holds that a call changes nothing: neither the dictionary, nor what is heard, late or held.
func nothing(t *testing.T, c *consume.Consumer, d *dict.Dict, do func()) {
	t.Helper()
	was := told(d)
	time, some := c.Due()
	do()
	if n, ok := c.Due(); n != time || ok != some {
		t.Errorf("Due: %d, %t, and it was %d, %t", n, ok, time, some)
	}
	beats(t, c, "")
	if told(d) != was {
		t.Errorf("the dictionary was\n%s\nand is\n%s", was, told(d))
	}
}

// While it stands nothing is heard, held, late or due.
func TestStop(t *testing.T) { // P14.1 to P14.4
	c, d := made(t)
	c.Stop()
	set(t, c, 0, within(255, 5), to(1))
	set(t, c, 1, within(0, 5), to(2))
	stands := func() {
		t.Helper()
		was := told(d)
		hears(t, c, "201#07", 3, "")
		hears(t, c, "201#", 3, "")
		shuts(t, c, "201#07", 3, "")
		beats(t, c, "")
		ticks(t, c, 100)
		neverDue(t, c)
		if told(d) != was {
			t.Errorf("the dictionary was\n%s\nand is\n%s", was, told(d))
		}
	}
	stands()
	c.Start()
	hears(t, c, "201#04", 3, "0 OK")
	c.Stop()
	stands()
	c.Stop()
	stands()
	c.Start()
	neverDue(t, c)
	beats(t, c, "")
	ticks(t, c, 100)
	hears(t, c, "201#05", 100, "0 OK")
	ticks(t, c, 104)
	ticks(t, c, 105, 0, 1)
	beats(t, c, "1 OK")
	value(t, d, 1, 5)
	value(t, d, 2, 5)
}

// Behind Start no object was heard, is late, or holds any, also if it went already.
func TestStartAgain(t *testing.T) { // P14.1
	for _, stops := range []bool{false, true} {
		c, d := made(t)
		set(t, c, 0, within(255, 5), to(1))
		set(t, c, 1, within(240, 5), to(2))
		set(t, c, 2, produce.Comm{On: true, ID: 0x301, Kind: 255, Event: 50}, to(3))
		c.Start()
		hears(t, c, "201#04", 0, "0 OK")
		hears(t, c, "301#04", 0, "2 OK")
		ticks(t, c, 5, 0, 1)
		due(t, c, 50)
		if stops {
			c.Stop()
		}
		c.Start()
		neverDue(t, c)
		ticks(t, c, 100)
		beats(t, c, "")
		value(t, d, 2, 0)
		hears(t, c, "201#06", 200, "0 OK")
		due(t, c, 205)
		ticks(t, c, 205, 0, 1)
		beats(t, c, "1 OK")
		value(t, d, 2, 6)
	}
}

func TestHearTimes(t *testing.T) { // P14.2
	for _, kind := range []uint8{0, 240, 254, 255} {
		c, d := begun(t, within(kind, 10))
		hears(t, c, "201#01", 5, map[bool]string{true: "0 OK"}[kind > 240])
		c.Sync()
		for _, now := range []int64{math.MinInt64, -1, api.MaxTime + 1, math.MaxInt64} {
			for _, text := range []string{"201#07", "201#", "201#0A"} {
				nothing(t, c, d, func() { hears(t, c, text, now, ""); shuts(t, c, text, now, "") })
			}
		}
		ticks(t, c, 15, 0)
		for _, now := range []int64{0, 1, api.MaxTime - 1, api.MaxTime} {
			if r := c.Hear(read(t, "201#07"), now, true); (len(r) == 1) != (kind > 240) {
				t.Errorf("Hear at %d, of the Kind %d: %v", now, kind, r)
			}
			due(t, c, now+10)
		}
	}
}

// Of a frame that is not right, or remote, or of another ID, nothing is heard.
func TestHearFrames(t *testing.T) { // P14.2
	for _, kind := range []uint8{0, 1, 240, 254, 255} {
		c, d := begun(t, within(kind, 10))
		set(t, c, 1, produce.Comm{On: true, ID: 0x201, Kind: kind, Event: 10}) // takes all lengths
		for _, f := range []api.Frame{
			{ID: 0x201, Len: 9}, {ID: 0x201, Len: -1}, {ID: 0x201, Len: math.MaxInt}, {ID: 0x201, Len: math.MinInt},
			{ID: 0x201, Len: 1, Data: [8]byte{7, 1}}, {ID: 0x201, Len: 7, Data: [8]byte{7, 0, 0, 0, 0, 0, 0, 1}}, {ID: 0x201, Data: [8]byte{7}},
			{ID: 0xA01, Len: 1, Data: [8]byte{7}}, {ID: 0x800, Len: 1}, {ID: 0xFFFF, Len: 1},
			{ID: 0x201, Len: 1, Remote: true}, {ID: 0x201, Remote: true}, {ID: 0x201, Len: 8, Remote: true}, {ID: 0x201, Len: 1, Data: [8]byte{7}, Remote: true},
			{ID: 0x200, Len: 1, Data: [8]byte{7}}, {ID: 0x202, Len: 1, Data: [8]byte{7}}, {ID: 1, Len: 1}, {Len: 1}, {ID: 0x301, Len: 1}, {ID: 0x7FF, Len: 1},
		} {
			for _, open := range []bool{true, false} {
				nothing(t, c, d, func() {
					if r := c.Hear(f, 3, open); len(r) != 0 {
						t.Errorf("Hear(%+v): %v", f, r)
					}
				})
			}
		}
	}
}

// The least and the greatest ID are heard like others.
func TestHearIDs(t *testing.T) { // P14.2
	c, d := made(t)
	set(t, c, 0, produce.Comm{On: true, ID: 0, Kind: 255}, to(1))
	set(t, c, 7, produce.Comm{On: true, ID: 0x7FF, Kind: 255}, to(2))
	c.Start()
	hears(t, c, "000#03", 0, "0 OK")
	hears(t, c, "7FF#04", 0, "7 OK")
	value(t, d, 1, 3)
	value(t, d, 2, 4)
}

// An object that is off hears nothing, whatever its mapping.
func TestOffHearsNothing(t *testing.T) { // P14.2 to P14.4
	c, d := made(t)
	for i, kind := range []uint8{0, 1, 240, 254, 255} {
		set(t, c, i, produce.Comm{ID: 0x201, Kind: kind, Event: 1}, to(1))
	}
	set(t, c, 5, produce.Comm{ID: 0x201, Kind: 255, Event: 1}, nowhere()...)
	set(t, c, 6, produce.Comm{ID: 0x201, Kind: 0, Event: 1}, times(64, to(1))...)
	c.Start()
	for _, text := range []string{"201#07", "201#", "201#0A", "201#0102030405060708"} {
		nothing(t, c, d, func() { hears(t, c, text, 3, ""); shuts(t, c, text, 3, "") })
	}
	ticks(t, c, 100)
}

// A frame with fewer bytes than the mapping takes is not heard; one with as many, or more, is.
func TestHearLengths(t *testing.T) { // P14.2
	bit := mapping.Map{Place: at(0x6000, 9), Bits: 1}
	gap := mapping.Of(0x00070020)
	for _, x := range []struct {
		l    []mapping.Map
		size int
	}{
		{nil, 0}, {row(bit), 1}, {row(to(5)), 1}, {row(to(5), bit), 2}, {times(8, bit), 1}, {times(9, bit), 2},
		{row(to(5), to(6), to(7)), 3}, {row(gap, to(5)), 5}, {row(gap, to(5), to(6), to(7)), 7}, {times(8, to(5)), 8}, {times(64, bit), 8}, {row(gap, gap), 8},
	} {
		for _, kind := range []uint8{0, 240, 254, 255} {
			for n := range 9 {
				c, _ := made(t)
				set(t, c, 3, within(kind, 10), x.l...)
				c.Start()
				f := api.Frame{ID: 0x201, Len: n}
				r := c.Hear(f, 7, true)
				want := "3 OK"
				switch {
				case n < x.size:
					want = "3 AbLength"
				case kind <= 240:
					want = ""
				}
				if shown(r) != want {
					t.Errorf("Hear of %d bytes, of a mapping of %d and the Kind %d: %v, want %q", n, x.size, kind, r, want)
				}
				if n < x.size {
					neverDue(t, c)
					beats(t, c, "")
				} else {
					due(t, c, 17)
				}
			}
		}
	}
}

// A frame that is too short leaves an object as it was: heard when it was, late, with what it holds, whether the window is open or not.
func TestTooShort(t *testing.T) { // P14.2
	for _, kind := range []uint8{0, 1, 240, 255} {
		c, d := made(t)
		set(t, c, 0, within(kind, 10), to(1), to(2))
		c.Start()
		hears(t, c, "201#0304", 5, map[bool]string{true: "0 OK"}[kind > 240])
		hears(t, c, "201#07", 8, "0 AbLength")
		shuts(t, c, "201#", 8, "0 AbLength")
		due(t, c, 15)
		ticks(t, c, 15, 0)
		hears(t, c, "201#07", 16, "0 AbLength")
		neverDue(t, c)
		ticks(t, c, 40)
		c.Sync()
		value(t, d, 1, 3)
		value(t, d, 2, 4)
	}
}

// Bytes behind those that the mapping takes are left out.
func TestLongerFrames(t *testing.T) { // P14.2, P14.3
	for _, kind := range []uint8{0, 255} {
		c, d := made(t)
		set(t, c, 0, on(kind), to(2), to(1))
		c.Start()
		c.Hear(read(t, "201#0304AABBCCDDEEFF"), 0, true)
		c.Sync()
		value(t, d, 1, 4)
		value(t, d, 2, 3)
		if n := d.Changes(); n != 2 {
			t.Errorf("%d values were written", n)
		}
	}
}

// Of the Kinds 254 and 255 values are written at once, whether the window is open or not; what may not be written is told, and nothing is.
func TestHearAtOnce(t *testing.T) { // P14.2
	for _, kind := range []uint8{254, 255} {
		for name, hear := range map[string]func(*testing.T, *consume.Consumer, string, int64, string){"open": hears, "closed": shuts} {
			t.Run(fmt.Sprint(kind, " ", name), func(t *testing.T) {
				c, d := made(t)
				set(t, c, 2, within(kind, 10), to(1), to(5))
				c.Start()
				hear(t, c, "201#0711", 1, "2 OK")
				value(t, d, 1, 7)
				value(t, d, 5, 0x11)
				hear(t, c, "201#0A22", 2, "2 AbHigh")
				value(t, d, 1, 7)
				value(t, d, 5, 0x11)
				due(t, c, 12) // heard, though it was refused
				beats(t, c, "")
				hear(t, c, "201#0933", 3, "2 OK")
				value(t, d, 1, 9)
				value(t, d, 5, 0x33)
				hear(t, c, "201#0933", 4, "2 OK")
				if n := d.Changes(); n != 6 {
					t.Errorf("%d values were written", n)
				}
			})
		}
	}
}

// The code is mapping.Write's: of a bool neither 0 nor 1, of bits and gaps.
func TestHearBits(t *testing.T) { // P14.2
	c, d := made(t)
	flag := mapping.Map{Place: at(0x6000, 9), Bits: 8}
	bit := mapping.Map{Place: at(0x6000, 9), Bits: 1}
	set(t, c, 0, on(255), flag)
	set(t, c, 1, produce.Comm{On: true, ID: 0x301, Kind: 255}, mapping.Of(0x00010001), bit, to(5))
	set(t, c, 2, produce.Comm{On: true, ID: 0x401, Kind: 3}, mapping.Of(0x00010001), bit, to(5))
	set(t, c, 3, produce.Comm{On: true, ID: 0x501, Kind: 255}, to(12))
	c.Start()
	want := mapping.Write(d.Copy(), row(flag), []byte{2})
	if r := c.Hear(read(t, "201#02"), 0, true); len(r) != 1 || r[0].Code != want || want == 0 {
		t.Errorf("a bool of 2: %v, want %x", r, want)
	}
	hears(t, c, "301#FE03", 0, "1 OK")
	value(t, d, 9, 1)
	value(t, d, 5, 0xFF)
	hears(t, c, "401#0100", 0, "")
	value(t, d, 9, 1)
	beats(t, c, "2 OK")
	value(t, d, 9, 0)
	value(t, d, 5, 0)
	hears(t, c, "501#08", 0, "3 OK")
	value(t, d, 12, 8)
}

// Several objects with one ID hear in order, each in its own way, and write one behind the other.
func TestHearInOrder(t *testing.T) { // P14.2
	c, d := made(t)
	set(t, c, 0, on(255), to(1), to(5))
	set(t, c, 1, on(1), to(2))
	set(t, c, 2, on(254), to(2), to(6), to(7))
	set(t, c, 3, produce.Comm{ID: 0x201, Kind: 255}, to(3))
	set(t, c, 4, on(254), to(5), to(1))
	set(t, c, 5, produce.Comm{On: true, ID: 0x202, Kind: 255}, to(4))
	set(t, c, 6, on(0), to(8), to(8), to(8))
	set(t, c, 7, on(255), to(5))
	c.Start()
	hears(t, c, "201#0509", 0, "0 OK, 2 AbLength, 4 OK, 6 AbLength, 7 OK")
	value(t, d, 1, 9) // number 4's, behind number 0's
	value(t, d, 5, 5)
	value(t, d, 3, 0)
	value(t, d, 4, 0)
	shuts(t, c, "201#0A0203", 0, "0 AbHigh, 1 AbState, 2 AbHigh, 4 OK, 6 AbState, 7 OK")
	value(t, d, 1, 2)
	value(t, d, 5, 10)
	hears(t, c, "201#0B0203", 0, "0 AbHigh, 2 AbHigh, 4 OK, 7 OK")
	beats(t, c, "1 AbHigh, 6 OK")
	value(t, d, 8, 3)
}

// An object without Maps takes frames of all lengths, and writes nothing.
func TestEmptyMapping(t *testing.T) { // P14.2, P14.3
	c, d := made(t)
	set(t, c, 0, within(255, 5))
	set(t, c, 1, on(0))
	c.Start()
	was := told(d)
	hears(t, c, "201#", 0, "0 OK")
	beats(t, c, "1 OK") // it held what came, though that was no byte
	beats(t, c, "")
	hears(t, c, "201#0102030405060708", 1, "0 OK")
	shuts(t, c, "201#", 1, "0 OK, 1 AbState")
	beats(t, c, "1 OK")
	due(t, c, 6)
	if told(d) != was {
		t.Errorf("the dictionary was\n%s\nand is\n%s", was, told(d))
	}
}

// A mapping that may no longer be tells so by its code, and writes nothing.
func TestNoLongerMapped(t *testing.T) { // P14.2, P14.3
	c, d := made(t)
	set(t, c, 0, within(255, 5), to(1))
	set(t, c, 1, on(1), to(1))
	set(t, c, 2, on(1), to(2))
	c.Start()
	hears(t, c, "201#01", 0, "0 OK")
	bare, _ := dict.New([]api.Entry{{Index: 0x6000, Sub: 2, Type: api.TUint8, Rights: rwm}})
	*d = *bare
	beats(t, c, "1 AbNoSub, 2 OK")
	value(t, d, 2, 1)
	hears(t, c, "201#03", 1, "0 AbNoSub")
	due(t, c, 6)
	value(t, d, 2, 1)
}
