package produce_test

import (
	"math"
	"testing"

	"campanile/api"
	"campanile/produce"
)

// Start begins at a time, and at nothing else; what goes is begun anew by it.
func TestStartTimes(t *testing.T) { // P13.2
	for _, now := range []int64{math.MinInt64, -1, api.MaxTime + 1, math.MaxInt64} {
		p, _ := made(t)
		set(t, p, 0, timed(10, 50), to(1))
		p.Start(now)
		wants(t, p, 0, false)
		neverDue(t, p)
		ticks(t, p, 0, "")
		p.Start(3)
		ticks(t, p, 3, "181#00")
		p.Start(now) // it goes on
		due(t, p, 53)
		ticks(t, p, 53, "181#00")
	}
	for _, now := range []int64{0, 1, api.MaxTime - 1, api.MaxTime} {
		p, _ := made(t)
		set(t, p, 0, timed(0, 0), to(1))
		p.Start(now)
		due(t, p, now)
		ticks(t, p, now, "181#00")
		neverDue(t, p)
	}
}

// Behind Start no object was sent, is wanted, has counted; those with Start 0 have begun.
func TestStartAgain(t *testing.T) { // P13.2
	p, _ := made(t)
	set(t, p, 0, timed(10, 0), to(1))
	set(t, p, 1, produce.Comm{On: true, ID: 0x281, Kind: 3}, to(1))
	set(t, p, 2, produce.Comm{On: true, ID: 0x381, Kind: 3, Start: 4}, to(1))
	set(t, p, 3, produce.Comm{On: true, ID: 0x481}, to(1))
	for _, stops := range []bool{false, true, false} {
		p.Start(100)
		due(t, p, 100)
		ticks(t, p, 100, "181#00")
		ticks(t, p, 120, "")
		beats(t, p, 4, 120, "381#00 481#00")
		beats(t, p, 5, 120, "")
		wants(t, p, 0, true)
		wants(t, p, 3, true)
		if stops {
			p.Stop()
		}
		p.Start(200)
		due(t, p, 200)
		ticks(t, p, 150, "")
		ticks(t, p, 200, "181#00")
		ticks(t, p, 220, "")
		beats(t, p, 5, 220, "481#00") // number 2 waits for its beat again
		beats(t, p, 6, 220, "")       // neither number 3, which is not wanted
		beats(t, p, 7, 220, "281#00")
		beats(t, p, 0, 220, "381#00")
	}
}

func TestStop(t *testing.T) { // P13.2, P13.3
	p, _ := made(t)
	p.Stop()
	for i, kind := range []uint8{0, 1, 254, 255} {
		set(t, p, i, on(kind), to(1))
	}
	stands := func() {
		t.Helper()
		for i := range 4 {
			wants(t, p, i, false)
		}
		beats(t, p, 0, 9, "")
		ticks(t, p, 9, "")
		neverDue(t, p)
	}
	stands()
	p.Start(5)
	beats(t, p, 0, 5, "181#00 181#00")
	p.Stop()
	stands()
	p.Stop()
	stands()
	p.Start(5)
	ticks(t, p, 5, "181#00 181#00")
	beats(t, p, 0, 5, "181#00 181#00")
}

func TestWant(t *testing.T) { // P13.3
	p, _ := made(t)
	for i, kind := range []uint8{0, 1, 240, 254, 255} {
		set(t, p, i, on(kind), to(1))
	}
	set(t, p, 5, produce.Comm{ID: 0x181, Kind: 255}, to(1))
	for i := range api.MaxPDO {
		wants(t, p, i, false)
	}
	p.Start(0)
	p.Tick(0)
	p.Sync(0, 0)
	for i := range 5 {
		wants(t, p, i, true)
		wants(t, p, i, true)
	}
	for _, i := range []int{math.MinInt, -1, 5, 6, 7, 8, 256, math.MaxInt} {
		wants(t, p, i, false)
	}
	ticks(t, p, 1, "181#00 181#00")
	ticks(t, p, 2, "") // each once, however often it was wanted
	beats(t, p, 0, 3, "181#00 181#00")
	beats(t, p, 0, 4, "181#00") // the Kind 1 alone
}

// A beat at what is no time is none: nothing is counted.
func TestBeatTimes(t *testing.T) { // P13.4
	for _, now := range []int64{math.MinInt64, -1, api.MaxTime + 1, math.MaxInt64} {
		p, _ := made(t)
		set(t, p, 0, on(2), to(1))
		set(t, p, 1, on(0), to(2))
		set(t, p, 2, produce.Comm{On: true, ID: 0x281, Kind: 1, Start: 5}, to(1))
		p.Start(0)
		beats(t, p, 5, now, "")
		beats(t, p, 0, now, "")
		beats(t, p, 1, 3, "181#00")
		beats(t, p, 5, 0, "181#00 281#00")
	}
	for _, now := range []int64{0, 1, api.MaxTime - 1, api.MaxTime} {
		p, _ := begun(t, on(1))
		beats(t, p, 1, now, "181#00")
	}
}

// The Kind 0 is sent at a beat, if it has changed or is wanted.
func TestBeatOnChange(t *testing.T) { // P13.4
	p, d := begun(t, on(0))
	ticks(t, p, 0, "")
	beats(t, p, 7, 0, "181#00") // not sent yet
	beats(t, p, 0, 1, "")
	put(t, d, 1, 0) // written, and the same
	beats(t, p, 1, 2, "")
	put(t, d, 2, 9) // not mapped
	beats(t, p, 1, 2, "")
	put(t, d, 1, 5)
	ticks(t, p, 3, "")
	beats(t, p, 2, 3, "181#05")
	beats(t, p, 3, 4, "")
	put(t, d, 1, 6)
	put(t, d, 1, 5) // changed, and back
	beats(t, p, 4, 5, "")
	wants(t, p, 0, true)
	beats(t, p, 5, 6, "181#05")
	beats(t, p, 6, 7, "")
	wants(t, p, 0, true)
	put(t, d, 1, 8) // both: one frame
	beats(t, p, 7, 8, "181#08")
	beats(t, p, 8, 9, "")
}

// Neither Inhibit nor Event nor Start nor the order of times count for the Kind 0.
func TestBeatOnChangeWhenever(t *testing.T) { // P13.4
	p, d := begun(t, produce.Comm{On: true, ID: 0x181, Inhibit: 100, Event: 3, Start: 9})
	beats(t, p, 1, 50, "181#00")
	put(t, d, 1, 1)
	beats(t, p, 1, 51, "181#01")
	put(t, d, 1, 2)
	beats(t, p, 1, 10, "181#02")
	beats(t, p, 1, 500, "")
	neverDue(t, p)
}

// Of the Kind n each n-th beat is followed by a frame, whatever its number, its time, and what has changed.
func TestBeatsAreCounted(t *testing.T) { // P13.4, P13.8
	for _, kind := range []int{1, 2, 3, 7, 239, 240} {
		p, d := begun(t, on(uint8(kind)))
		for n := 1; n <= 3*kind; n++ {
			want := ""
			if n%kind == 0 {
				want = "181#01"
			}
			put(t, d, 1, 1)
			if n%3 == 0 {
				wants(t, p, 0, true) // it is sent when its beat comes
			}
			beats(t, p, uint8(n), int64(3*kind-n), want)
			ticks(t, p, int64(n), "")
		}
		neverDue(t, p)
	}
}

// With Start another number than 0 the first frame goes at the beat of the count 0 or Start; from there on beats are counted.
func TestBeatsBegin(t *testing.T) { // P13.4
	for _, kind := range []int{1, 2, 3, 240} {
		for _, start := range []uint8{1, 4, 240} {
			for _, first := range []uint8{0, start} {
				p, _ := made(t)
				c := produce.Comm{On: true, ID: 0x181, Kind: uint8(kind), Start: start}
				set(t, p, 0, c, to(1))
				p.Start(0)
				for count := range 256 {
					if count != 0 && count != int(start) {
						beats(t, p, uint8(count), 1, "")
					}
				}
				beats(t, p, first, 2, "181#00")
				for n := 1; n <= 2*kind; n++ {
					want := ""
					if n%kind == 0 {
						want = "181#00"
					}
					beats(t, p, pickCount(n, start), 3, want)
				}
			}
		}
	}
}

// pickCount tells counts, 0 and Start among them: what has begun does not look at them.
func pickCount(n int, start uint8) uint8 {
	return []uint8{0, start, start + 1, 77}[n%4]
}

// With Start 0 an object has begun at once: the first beat is counted, also one of the count 0.
func TestBeatsBeginAtOnce(t *testing.T) { // P13.2, P13.4
	for _, count := range []uint8{0, 1, 240, 255} {
		p, _ := begun(t, on(2))
		beats(t, p, count, 0, "")
		beats(t, p, count, 0, "181#00")
	}
}

// Want does not hurry what counts beats, and is done with when it is sent.
func TestWantOfBeats(t *testing.T) { // P13.3, P13.4
	p, _ := begun(t, on(3))
	wants(t, p, 0, true)
	beats(t, p, 0, 0, "")
	beats(t, p, 0, 0, "")
	beats(t, p, 0, 0, "181#00")
	beats(t, p, 0, 0, "")
}

// The Kinds 254 and 255 are not sent at beats.
func TestBeatsAreNotForTimes(t *testing.T) { // P13.4
	for _, kind := range []uint8{254, 255} {
		p, _ := begun(t, on(kind))
		wants(t, p, 0, true)
		for count := range 256 {
			beats(t, p, uint8(count), 0, "")
		}
		due(t, p, 0)
		ticks(t, p, 0, "181#00")
	}
}

// All that is sent at a beat is told in the order of the objects' numbers, not of their identifiers.
func TestBeatOrder(t *testing.T) { // P13.4
	p, _ := made(t)
	for i := range api.MaxPDO {
		set(t, p, i, produce.Comm{On: i != 3, ID: uint16(0x700 - i), Kind: uint8(i % 3)}, to(1))
	}
	p.Start(0)
	beats(t, p, 1, 0, "700#00 6FF#00 6FC#00 6FA#00 6F9#00")
	beats(t, p, 1, 0, "6FF#00 6FE#00 6FC#00 6FB#00 6F9#00")
}
