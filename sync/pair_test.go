package sync_test

import (
	"fmt"
	"testing"

	"campanile/api"
	"campanile/sync"
)

// A consumer that hears all that a producer sends, however late that is ticked, loses nothing, and takes nothing as wrong.
func TestPair(t *testing.T) { // P15.7
	for top := range 256 {
		if !rightTop(top) {
			continue
		}
		for _, id := range []uint16{0, 0x80, 0x7FF} {
			r := dice(top)
			p := going(t, id, int64(1+r.roll(9)), uint8(top), 0)
			c := consumer(t, id, 3, uint8(top))
			heard, now := 0, int64(0)
			for range 2000 {
				now += int64(r.roll(8))
				f, ok := p.Tick(now)
				if !ok {
					continue
				}
				number := 0
				if top != 0 {
					number = heard%top + 1
				}
				hears(t, c, f, now, uint8(number))
				opens(t, c, now, true)
				heard++
			}
			counts(t, c, 0, 0)
			if heard < 500 {
				t.Errorf("only %d were heard", heard)
			}
		}
	}
}

// Of a producer's beats so many are lost as were not heard, as long as they are fewer than there are numbers.
func TestPairWithLosses(t *testing.T) { // P15.3, P15.7
	for _, top := range []uint8{2, 3, 10, 240} {
		t.Run(fmt.Sprint(top), func(t *testing.T) {
			r := dice(top)
			p, c := going(t, 0x80, 1, top, 0), consumer(t, 0x80, 1, top)
			lost, row := int64(0), 0
			for now := int64(1); now < 3000; now++ {
				f, ok := p.Tick(now)
				if !ok {
					t.Fatalf("nothing at %d", now)
				}
				if row < int(top)-1 && r.roll(3) == 0 && now > 1 {
					row++
					continue
				}
				hears(t, c, f, now, f.Data[0])
				lost += int64(row)
				row = 0
				counts(t, c, lost, 0)
			}
			if lost < 300 {
				t.Errorf("only %d were lost", lost)
			}
		})
	}
}

// Ends that do not agree on the numbers: what is sent is wrong.
func TestPairUnlike(t *testing.T) { // P15.3
	for _, k := range []struct {
		sends, hears uint8
		wrong        int64
	}{{0, 3, 12}, {3, 0, 12}, {4, 3, 3}, {3, 4, 0}} {
		p, c := going(t, 0x80, 1, k.sends, 0), consumer(t, 0x80, 1, k.hears)
		for now := range int64(13) {
			if f, ok := p.Tick(now); ok {
				c.Hear(f, now)
			}
		}
		if w := c.Wrong(); w != k.wrong {
			t.Errorf("of %d heard as %d: %d wrong, want %d", k.sends, k.hears, w, k.wrong)
		}
	}
}

// A stamp that goes over the bus sets another clock to the same time.
func TestPairOfClocks(t *testing.T) { // P15.5, P15.7
	here := clock(t, 65535, 86399000, 100)
	for _, now := range []int64{100, 1099, 1100, 5000, dayLength} {
		days, ms, ok := here.At(now)
		f, errno := sync.Stamp(0x100, days, ms)
		if !ok || errno != api.OK {
			t.Fatalf("At(%d): %t; Stamp: %d", now, ok, errno)
		}
		days, ms, ok = sync.Stamped(f, 0x100)
		if !ok {
			t.Fatalf("Stamped(%v): nothing", f)
		}
		there := clock(t, days, ms, now)
		for _, later := range []int64{now, now + 1, now + 86399999, now + 3*dayLength} {
			days, ms, _ := here.At(later)
			shows(t, there, later, days, ms)
		}
	}
}

// A clock that is asked later by less than a day is later by just so much.
func TestLaterByJustSoMuch(t *testing.T) { // P15.7
	r := dice(7)
	for range 3000 {
		k := clock(t, uint16(r.roll(65536)), uint32(r.roll(dayLength)), int64(r.roll(1000)))
		now := 1000 + int64(r.roll(api.MaxTime/2))
		gone := int64(pick(&r, 0, 1, 86399999, r.roll(dayLength)))
		days, ms, ok := k.At(now)
		otherDays, otherMs, otherOK := k.At(now + gone)
		if !ok || !otherOK {
			t.Fatalf("At(%d), At(%d): %t, %t", now, now+gone, ok, otherOK)
		}
		later := int64(otherDays-days)*dayLength + int64(otherMs) - int64(ms)
		if later != gone {
			t.Errorf("at %d it is %d:%d, at %d it is %d:%d", now, days, ms, now+gone, otherDays, otherMs)
		}
	}
}
