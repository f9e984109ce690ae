package emcy_test

import (
	"fmt"
	"math"
	"testing"

	"campanile/api"
	"campanile/emcy"
)

// Frames are told at once at first, and then each at least inhibit behind the one ahead of it.
func TestTick(t *testing.T) { // P16.4
	for _, inhibit := range []int64{1, 2, 10, 1 << 35, api.MaxTime - 7} {
		for _, first := range []int64{0, 1, 7} {
			x := errorsOf(t, 5, inhibit)
			raises(t, x, 0x1000, 1, none, api.OK)
			raises(t, x, 0x2000, 2, none, api.OK)
			clears(t, x, 0x1000, api.OK)
			ticks(t, x, first, "085#0010030000000000")
			due(t, x, first+inhibit)
			for _, now := range []int64{first, first + inhibit/2, first + inhibit - 1} {
				ticks(t, x, now, "")
			}
			ticks(t, x, first+inhibit, "085#0020070000000000") // at it
			due(t, x, first+2*inhibit)
			later := first + 2*inhibit + 5 // behind it
			if later > api.MaxTime {
				ticks(t, x, api.MaxTime, "")
				continue
			}
			ticks(t, x, later-6, "")
			ticks(t, x, later, "085#0000050000000000")
			neverDue(t, x)
			ticks(t, x, api.MaxTime, "")
		}
	}
}

// What comes to wait later waits for the last one that was told, even if nothing waited meanwhile.
func TestTickOfALaterOne(t *testing.T) { // P16.4
	x := errorsOf(t, 5, 10)
	raises(t, x, 0x1000, 1, none, api.OK)
	ticks(t, x, 100, "085#0010030000000000")
	neverDue(t, x)
	for _, now := range []int64{105, 109, 110, 200} {
		ticks(t, x, now, "") // nothing is told, and so nothing is put off
	}
	raises(t, x, 0x2000, 2, none, api.OK)
	due(t, x, 110)
	ticks(t, x, 109, "")
	ticks(t, x, 110, "085#0020070000000000")
	clears(t, x, 0x2000, api.OK)
	due(t, x, 120)
	ticks(t, x, 500, "085#0000030000000000")
	clears(t, x, 0x1000, api.OK)
	due(t, x, 510)
	ticks(t, x, 509, "")
	ticks(t, x, 511, "085#0000000000000000")
}

// A time ahead of the one at which one was told: nothing.
func TestTickAheadOfTold(t *testing.T) { // P16.4
	for _, inhibit := range []int64{0, 1, 10, api.MaxTime} {
		x := errorsOf(t, 5, inhibit)
		for code := range uint16(3) {
			raises(t, x, 0x1000+code, 1, none, api.OK)
		}
		ticks(t, x, 50, "085#0010030000000000")
		for _, now := range []int64{0, 1, 39, 40, 41, 48, 49} {
			ticks(t, x, now, "")
			due(t, x, 50+inhibit)
		}
		if inhibit == 0 {
			ticks(t, x, 50, "085#0110030000000000")
		} else {
			ticks(t, x, 50, "")
		}
	}
}

// Without inhibit all are told at one time, one behind the other.
func TestTickWithoutInhibit(t *testing.T) { // P16.4
	for _, now := range []int64{0, 1, 1000, api.MaxTime} {
		x := errorsOf(t, 127, 0)
		for i := range 16 {
			raises(t, x, uint16(0x1000+i), 1, [5]byte{4: byte(i)}, api.OK)
		}
		for i := range 16 {
			if i > 0 {
				due(t, x, now)
				ticks(t, x, now-1, "")
			}
			ticks(t, x, now, fmt.Sprintf("0FF#%02X100300000000%02X", i, i))
		}
		ticks(t, x, now, "")
		neverDue(t, x)
	}
}

func TestTickAtNoTime(t *testing.T) { // P16.4
	for _, inhibit := range []int64{0, 10, api.MaxTime} {
		x := errorsOf(t, 5, inhibit)
		for range 2 {
			for _, now := range noTimes() {
				ticks(t, x, now, "")
			}
			raises(t, x, 0x1000, 1, none, api.OK)
			raises(t, x, 0x2000, 2, none, api.OK)
			for _, now := range noTimes() {
				ticks(t, x, now, "")
			}
			ticks(t, x, 0, "085#0010030000000000")
			for _, now := range noTimes() {
				ticks(t, x, now, "")
			}
			x.Reset()
		}
	}
}

func TestTickAtTheGreatestTime(t *testing.T) { // P16.4
	x := errorsOf(t, 5, api.MaxTime)
	raises(t, x, 0x1000, 1, none, api.OK)
	raises(t, x, 0x2000, 2, none, api.OK)
	ticks(t, x, 0, "085#0010030000000000")
	due(t, x, api.MaxTime)
	ticks(t, x, api.MaxTime-1, "")
	ticks(t, x, api.MaxTime+1, "")
	ticks(t, x, api.MaxTime, "085#0020070000000000")
	clears(t, x, 0x1000, api.OK)
	due(t, x, 2*api.MaxTime) // no time any more: it is never told
	ticks(t, x, api.MaxTime, "")
	ticks(t, x, 2*api.MaxTime, "")
}

// Frames go in the order in which they came to wait, each with the register as it was then, not as it is when it is told.
func TestTickInOrder(t *testing.T) { // P16.2, P16.4
	x := errorsOf(t, 1, 5)
	raises(t, x, 0x9000, 0, [5]byte{1, 2, 3, 4, 5}, api.OK)
	raises(t, x, 0x0001, 1, none, api.OK)
	clears(t, x, 0x9000, api.OK)
	raises(t, x, 0x5000, 7, [5]byte{4: 9}, api.OK)
	clears(t, x, 0x0001, api.OK)
	raises(t, x, 0x9000, 2, none, api.OK) // raised again with another bit
	clears(t, x, 0x5000, api.OK)
	clears(t, x, 0x9000, api.OK)
	registers(t, x, 0)
	for i, want := range []string{
		"081#0090010102030405",
		"081#0100030000000000",
		"081#0000030000000000",
		"081#0050830000000009",
		"081#0000810000000000",
		"081#0090850000000000",
		"081#0000050000000000",
		"081#0000000000000000",
	} {
		ticks(t, x, int64(5*i), want)
	}
	neverDue(t, x)
}

// Frames that come to wait while others are told go behind these.
func TestTickAmidRaise(t *testing.T) { // P16.4
	x := errorsOf(t, 1, 0)
	var waits []string
	for i := range 200 {
		code := uint16(0x1000 + i)
		raises(t, x, code, 0, none, api.OK)
		waits = append(waits, fmt.Sprintf("081#%02X10010000000000", i))
		if i >= 3 {
			clears(t, x, code-3, api.OK)
			waits = append(waits, "081#0000010000000000")
		}
		for len(waits) > 2+i%13 {
			ticks(t, x, int64(i), waits[0])
			waits = waits[1:]
		}
	}
	tells(t, x, waits...)
}

// Due asks for nothing, and changes nothing.
func TestDue(t *testing.T) { // P16.4
	x := errorsOf(t, 5, 10)
	neverDue(t, x)
	raises(t, x, 0x1000, 1, none, api.OK)
	due(t, x, 0)
	raises(t, x, 0x2000, 2, none, api.OK)
	for range 3 {
		due(t, x, 0)
	}
	ticks(t, x, 33, "085#0010030000000000")
	for range 3 {
		due(t, x, 43)
	}
	ticks(t, x, 42, "")
	due(t, x, 43)
	ticks(t, x, 60, "085#0020070000000000")
	neverDue(t, x)
	clears(t, x, 0x2000, api.OK)
	due(t, x, 70)
	x.Reset()
	neverDue(t, x)
	raises(t, x, 0x2000, 2, none, api.OK)
	due(t, x, 0)
}

// reads holds what Read tells of a frame that is an error's.
func reads(t *testing.T, f api.Frame, address uint8, code uint16, register uint8, info [5]byte) {
	t.Helper()
	if a, c, r, i, ok := emcy.Read(f); a != address || c != code || r != register || i != info || !ok {
		t.Errorf("Read(%v): %d, %x, %x, %v, %t, want %d, %x, %x, %v", f, a, c, r, i, ok, address, code, register, info)
	}
}

func readsNothing(t *testing.T, f api.Frame) {
	t.Helper()
	if a, c, r, i, ok := emcy.Read(f); a != 0 || c != 0 || r != 0 || i != none || ok {
		t.Errorf("Read(%v): %d, %x, %x, %v, %t, want nothing", f, a, c, r, i, ok)
	}
}

// Of all IDs those from 81 to FF are of errors.
func TestReadOfAddresses(t *testing.T) { // P16.5
	for id := range 65536 {
		f := api.Frame{ID: uint16(id), Len: 8, Data: [8]byte{0x34, 0x12, 0x81, 1, 2, 3, 4, 5}}
		if id >= 0x81 && id <= 0xFF {
			reads(t, f, uint8(id-0x80), 0x1234, 0x81, [5]byte{1, 2, 3, 4, 5})
		} else {
			readsNothing(t, f)
		}
	}
}

// Any bytes are an error's, also those that no node tells.
func TestReadOfBytes(t *testing.T) { // P16.5
	reads(t, read(t, "081#0000000000000000"), 1, 0, 0, none)
	reads(t, read(t, "0FF#0000FF0000000000"), 127, 0, 0xFF, none)
	reads(t, read(t, "085#0000000102030405"), 5, 0, 0, [5]byte{1, 2, 3, 4, 5}) // no error stands, and yet it has bytes
	reads(t, read(t, "085#FFFFFFFFFFFFFFFF"), 5, 0xFFFF, 0xFF, [5]byte{255, 255, 255, 255, 255})
	reads(t, read(t, "085#0100FE0000000001"), 5, 1, 0xFE, [5]byte{4: 1}) // a register without the bit 0
	for place := range 8 {
		for b := range 256 {
			f := api.Frame{ID: 0x85, Len: 8, Data: [8]byte{1, 2, 3, 4, 5, 6, 7, 8}}
			f.Data[place] = byte(b)
			d := f.Data
			reads(t, f, 5, uint16(d[1])*256+uint16(d[0]), d[2], [5]byte{d[3], d[4], d[5], d[6], d[7]})
		}
	}
}

func TestReadOfNoError(t *testing.T) { // P16.5
	for _, text := range []string{"085#", "085#R0", "085#R7", "085#R8", "081#R8", "0FF#R8", "080#0010010102030405", "100#0010010102030405",
		"085#00", "085#0010", "085#001001", "085#00100101", "085#0010010102", "085#001001010203", "085#00100101020304", "085#00000000000000"} {
		readsNothing(t, read(t, text))
	}
	for _, n := range []int{math.MinInt, -1, 0, 1, 7, 9, 16, 264, math.MaxInt} {
		readsNothing(t, api.Frame{ID: 0x85, Len: n})
		readsNothing(t, api.Frame{ID: 0x85, Len: n, Data: [8]byte{1, 2, 3, 4, 5, 6, 7, 8}})
	}
	readsNothing(t, api.Frame{ID: 0x85, Len: 8, Data: [8]byte{1, 2, 3, 4, 5, 6, 7, 8}, Remote: true})
	readsNothing(t, api.Frame{})
}

// What an error's frame says is what was raised.
func TestReadOfTick(t *testing.T) { // P16.2, P16.5
	r := dice(5)
	for range 1000 {
		address, code, bit := uint8(1+r.roll(127)), uint16(1+r.roll(65535)), uint8(r.roll(8))
		var info [5]byte
		for i := range info {
			info[i] = byte(r.roll(256))
		}
		x := errorsOf(t, address, 0)
		raises(t, x, code, bit, info, api.OK)
		f, _ := x.Tick(0)
		reads(t, f, address, code, 1|1<<bit, info)
		clears(t, x, code, api.OK)
		f, _ = x.Tick(0)
		reads(t, f, address, 0, 0, none)
	}
}
