package produce_test

import (
	"fmt"
	"math"
	"testing"

	"campanile/api"
	"campanile/dict"
	"campanile/produce"
)

// byTime does a test with each of the Kinds that go by time, one object of 6000 sub 1, from 0 on.
func byTime(t *testing.T, inhibit, event int64, do func(t *testing.T, p *produce.Producer, d *dict.Dict)) {
	for _, kind := range []uint8{254, 255} {
		t.Run(fmt.Sprint(kind), func(t *testing.T) {
			c := timed(inhibit, event)
			c.Kind = kind
			p, d := begun(t, c)
			do(t, p, d)
		})
	}
}

func TestTickTimes(t *testing.T) { // P13.5
	byTime(t, 0, 0, func(t *testing.T, p *produce.Producer, d *dict.Dict) {
		for _, now := range []int64{math.MinInt64, -1, api.MaxTime + 1, math.MaxInt64} {
			ticks(t, p, now, "")
		}
		due(t, p, 0)
		ticks(t, p, api.MaxTime, "181#00")
	})
}

// A change is sent at once, if nothing inhibits it.
func TestTickOnChange(t *testing.T) { // P13.5
	byTime(t, 0, 0, func(t *testing.T, p *produce.Producer, d *dict.Dict) {
		ticks(t, p, 0, "181#00")
		ticks(t, p, 0, "")
		put(t, d, 1, 1)
		ticks(t, p, 0, "181#01")
		put(t, d, 1, 1)
		ticks(t, p, 1, "")
		put(t, d, 2, 9)
		ticks(t, p, 2, "")
		put(t, d, 1, 2)
		put(t, d, 1, 1)
		ticks(t, p, 3, "")
		wants(t, p, 0, true)
		ticks(t, p, 4, "181#01")
		ticks(t, p, 5, "")
		wants(t, p, 0, true)
		put(t, d, 1, 3)
		ticks(t, p, 6, "181#03")
		ticks(t, p, 7, "")
		ticks(t, p, api.MaxTime, "")
	})
}

// The first frame goes whatever Inhibit is, as soon as the object's time has come.
func TestTickFirst(t *testing.T) { // P13.5, P13.6
	for _, kind := range []uint8{254, 255} {
		p, _ := made(t)
		set(t, p, 0, produce.Comm{On: true, ID: 0x181, Kind: kind, Inhibit: api.MaxTime, Event: api.MaxTime}, to(1))
		p.Start(40)
		wants(t, p, 0, true)
		due(t, p, 40)
		ticks(t, p, 39, "")
		ticks(t, p, 0, "")
		due(t, p, 40)
		ticks(t, p, 40, "181#00")
		due(t, p, 40+api.MaxTime)
	}
}

// What has changed or is wanted waits for Inhibit ticks behind the frame ahead.
func TestTickInhibit(t *testing.T) { // P13.5, P13.6
	byTime(t, 10, 0, func(t *testing.T, p *produce.Producer, d *dict.Dict) {
		ticks(t, p, 3, "181#00") // its time is 3 now, not 0
		neverDue(t, p)
		put(t, d, 1, 1)
		due(t, p, 13)
		ticks(t, p, 12, "")
		put(t, d, 1, 2)
		ticks(t, p, 13, "181#02") // the value of now
		wants(t, p, 0, true)
		due(t, p, 23)
		ticks(t, p, 22, "")
		ticks(t, p, 23, "181#02")
		neverDue(t, p)
		ticks(t, p, 40, "")
		put(t, d, 1, 3)
		due(t, p, 33) // it might have gone already
		ticks(t, p, 41, "181#03")
		put(t, d, 1, 4)
		due(t, p, 51)
		put(t, d, 1, 3) // back again, while it waited
		neverDue(t, p)
		ticks(t, p, 60, "")
	})
}

// With Event a frame goes when so many ticks have gone, though nothing has changed.
func TestTickEvent(t *testing.T) { // P13.5, P13.6
	byTime(t, 0, 50, func(t *testing.T, p *produce.Producer, d *dict.Dict) {
		ticks(t, p, 7, "181#00")
		due(t, p, 57)
		ticks(t, p, 56, "")
		ticks(t, p, 57, "181#00")
		due(t, p, 107)
		put(t, d, 1, 1)
		due(t, p, 57)
		ticks(t, p, 60, "181#01") // from here on Event counts anew
		due(t, p, 110)
		ticks(t, p, 109, "")
		ticks(t, p, 300, "181#01") // once, however late it is
		due(t, p, 350)
		wants(t, p, 0, true)
		due(t, p, 300)
		ticks(t, p, 301, "181#01")
		due(t, p, 351)
	})
}

// Inhibit holds back what Event asks, where it is the greater one.
func TestTickInhibitAndEvent(t *testing.T) { // P13.5, P13.6
	byTime(t, 10, 4, func(t *testing.T, p *produce.Producer, d *dict.Dict) {
		ticks(t, p, 0, "181#00")
		due(t, p, 10)
		ticks(t, p, 4, "")
		ticks(t, p, 9, "")
		ticks(t, p, 10, "181#00")
		due(t, p, 20)
	})
	byTime(t, 4, 10, func(t *testing.T, p *produce.Producer, d *dict.Dict) {
		ticks(t, p, 0, "181#00")
		due(t, p, 10)
		ticks(t, p, 9, "")
		ticks(t, p, 10, "181#00")
		wants(t, p, 0, true)
		due(t, p, 14)
		ticks(t, p, 13, "")
		ticks(t, p, 14, "181#00")
		due(t, p, 24)
	})
	byTime(t, 6, 6, func(t *testing.T, p *produce.Producer, d *dict.Dict) {
		ticks(t, p, 0, "181#00")
		due(t, p, 6)
		ticks(t, p, 5, "")
		ticks(t, p, 6, "181#00")
	})
	byTime(t, 0, 1, func(t *testing.T, p *produce.Producer, d *dict.Dict) {
		ticks(t, p, 0, "181#00")
		ticks(t, p, 0, "")
		ticks(t, p, 1, "181#00")
	})
}

// At a time ahead of an object's own nothing is sent, whatever asks for it.
func TestTickAhead(t *testing.T) { // P13.5
	byTime(t, 0, 1, func(t *testing.T, p *produce.Producer, d *dict.Dict) {
		ticks(t, p, 100, "181#00")
		put(t, d, 1, 1)
		wants(t, p, 0, true)
		for _, now := range []int64{0, 50, 99} {
			ticks(t, p, now, "")
		}
		due(t, p, 100)
		ticks(t, p, 100, "181#01")
	})
}

// Times as great as may be are summed without harm.
func TestGreatTimes(t *testing.T) { // P13.5, P13.6
	byTime(t, api.MaxTime, api.MaxTime, func(t *testing.T, p *produce.Producer, d *dict.Dict) {
		ticks(t, p, 0, "181#00")
		put(t, d, 1, 1)
		due(t, p, api.MaxTime)
		ticks(t, p, api.MaxTime-1, "")
		ticks(t, p, api.MaxTime, "181#01")
		due(t, p, 2*api.MaxTime) // by its sum, though no time is so great
		put(t, d, 1, 2)
		due(t, p, 2*api.MaxTime)
		ticks(t, p, api.MaxTime, "")
	})
}

// The Kinds of beats are not sent as time goes, and are never due.
func TestTicksAreNotForBeats(t *testing.T) { // P13.5, P13.6
	for _, kind := range []uint8{0, 1, 2, 240} {
		p, d := begun(t, produce.Comm{On: true, ID: 0x181, Kind: kind, Event: 5})
		for now := range int64(20) {
			put(t, d, 1, byte(now))
			wants(t, p, 0, true)
			ticks(t, p, now, "")
			neverDue(t, p)
		}
	}
}

func TestTickOrder(t *testing.T) { // P13.5
	p, d := made(t)
	for i := range api.MaxPDO {
		set(t, p, i, produce.Comm{On: i != 3, ID: uint16(0x700 - i), Kind: []uint8{254, 255, 0, 255}[i%4]}, to(uint8(i%2+1)))
	}
	p.Start(0)
	ticks(t, p, 0, "700#00 6FF#00 6FC#00 6FB#00 6F9#00")
	put(t, d, 2, 5)
	ticks(t, p, 0, "6FF#05 6FB#05 6F9#05")
	wants(t, p, 4, true)
	ticks(t, p, 0, "6FC#00")
}

// Of several objects the least time is due.
func TestDueOfSeveral(t *testing.T) { // P13.6
	p, d := made(t)
	p.Start(0)
	neverDue(t, p)
	set(t, p, 0, timed(0, 70), to(1))
	set(t, p, 3, timed(30, 40), to(2))
	set(t, p, 7, timed(20, 0), to(3))
	set(t, p, 5, on(1), to(1))
	due(t, p, 0)
	ticks(t, p, 5, "181#00 181#00 181#00")
	due(t, p, 45)
	put(t, d, 3, 1)
	due(t, p, 25)
	put(t, d, 2, 1)
	due(t, p, 25)
	ticks(t, p, 25, "181#01")
	due(t, p, 35)
	ticks(t, p, 36, "181#01")
	due(t, p, 75)
	ticks(t, p, 75, "181#00")
	due(t, p, 76)
	set(t, p, 3, produce.Comm{})
	due(t, p, 145)
	set(t, p, 1, timed(5, 5), to(1))
	due(t, p, 75)
	p.Stop()
	neverDue(t, p)
}

// Due asks, and changes nothing.
func TestDueOnlyAsks(t *testing.T) { // P13.6
	p, d := begun(t, timed(10, 0))
	for range 3 {
		due(t, p, 0)
	}
	ticks(t, p, 0, "181#00")
	put(t, d, 1, 1)
	for range 3 {
		due(t, p, 10)
	}
	ticks(t, p, 10, "181#01")
	neverDue(t, p)
}

// A mapping without Maps is a frame without bytes: it is sent once, as it never changes.
func TestEmptyMapping(t *testing.T) { // P13.4, P13.5
	p, d := made(t)
	set(t, p, 0, timed(0, 9))
	set(t, p, 1, on(0))
	p.Start(0)
	ticks(t, p, 0, "181#")
	put(t, d, 1, 1)
	ticks(t, p, 8, "")
	ticks(t, p, 9, "181#")
	beats(t, p, 0, 9, "181#")
	beats(t, p, 0, 9, "")
	wants(t, p, 1, true)
	beats(t, p, 0, 9, "181#")
}

// A frame of the ID 0 without bytes is one as well, and is sent once.
func TestLeastFrame(t *testing.T) { // P13.4, P13.5
	p, _ := made(t)
	set(t, p, 0, produce.Comm{On: true, Kind: 255})
	set(t, p, 1, produce.Comm{On: true})
	p.Start(0)
	ticks(t, p, 0, "000#")
	ticks(t, p, 0, "")
	beats(t, p, 0, 0, "000#")
	beats(t, p, 0, 0, "")
}

// A mapping that can no longer be packed is not sent; beats are counted all the same, and what was wanted stays so.
func TestNoLongerPacked(t *testing.T) { // P13.4 to P13.6
	p, d := made(t)
	set(t, p, 0, timed(0, 5), to(1))
	set(t, p, 1, produce.Comm{On: true, ID: 0x281}, to(1))
	set(t, p, 2, produce.Comm{On: true, ID: 0x381, Kind: 2}, to(1))
	set(t, p, 3, produce.Comm{On: true, ID: 0x481, Kind: 255}, to(2))
	p.Start(0)
	ticks(t, p, 0, "181#00 481#00")
	beats(t, p, 0, 0, "281#00")
	was := *d
	bare, _ := dict.New([]api.Entry{{Index: 0x6000, Sub: 2, Type: api.TUint8, Rights: rwm, Default: []byte{7}}})
	*d = *bare
	wants(t, p, 0, true)
	wants(t, p, 1, true)
	due(t, p, 0) // of number 3 alone
	ticks(t, p, 9, "481#07")
	neverDue(t, p)
	beats(t, p, 0, 9, "") // number 2 would have been sent at this one
	*d = was
	due(t, p, 0)
	ticks(t, p, 10, "181#00 481#00")
	beats(t, p, 0, 10, "281#00")
	beats(t, p, 0, 10, "381#00")
}

// Ticked at each moment, a change goes no later than Inhibit ticks behind the frame ahead, and no two frames are nearer.
func TestEachMoment(t *testing.T) { // P13.8
	for _, inhibit := range []int64{0, 1, 3, 10} {
		byTime(t, inhibit, 0, func(t *testing.T, p *produce.Producer, d *dict.Dict) {
			ticks(t, p, 0, "181#00")
			last, sent := int64(0), byte(0)
			r := dice(inhibit)
			for now := range int64(2000) {
				value := sent
				if r.roll(4) == 0 {
					value = byte(r.roll(3))
				}
				put(t, d, 1, value)
				l := p.Tick(now)
				switch {
				case len(l) > 1, len(l) == 1 && (now-last < inhibit || l[0].Data[0] != value || value == sent):
					t.Fatalf("Tick(%d): %v, last at %d", now, l, last)
				case len(l) == 1:
					last, sent = now, value
				case value != sent && now >= last+inhibit:
					t.Fatalf("Tick(%d): nothing, last at %d", now, last)
				}
			}
			if last < 1900 {
				t.Errorf("the last frame went at %d", last)
			}
		})
	}
}
