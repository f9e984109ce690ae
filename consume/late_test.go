package consume_test

import (
	"fmt"
	"math"
	"testing"

	"campanile/api"
	"campanile/consume"
	"campanile/produce"
)

// byKind does a test with Kinds of all sorts, one object of 6000 sub 1.
func byKind(t *testing.T, event int64, do func(t *testing.T, c *consume.Consumer)) {
	for _, kind := range []uint8{0, 1, 240, 254, 255} {
		t.Run(fmt.Sprint(kind), func(t *testing.T) {
			c, _ := begun(t, within(kind, event))
			do(t, c)
		})
	}
}

// heard lets a frame of 201 be heard.
func heard(c *consume.Consumer, now int64) { c.Hear(api.Frame{ID: 0x201, Len: 1}, now, true) }

func TestLate(t *testing.T) { // P14.4
	byKind(t, 20, func(t *testing.T, c *consume.Consumer) {
		heard(c, 4)
		due(t, c, 24)
		ticks(t, c, 4)
		ticks(t, c, 23)
		due(t, c, 24)
		ticks(t, c, 24, 0)
		neverDue(t, c)
		ticks(t, c, 24) // told once
		ticks(t, c, 1000)
		heard(c, 30) // late no more
		due(t, c, 50)
		ticks(t, c, 49)
		ticks(t, c, 51, 0) // behind Event as well
		ticks(t, c, 52)
	})
}

// Whoever is heard more often than each Event ticks is never late.
func TestNeverLate(t *testing.T) { // P14.4
	byKind(t, 20, func(t *testing.T, c *consume.Consumer) {
		for now := range int64(200) {
			ticks(t, c, now)
			if now%19 == 0 {
				heard(c, now)
				due(t, c, now+20)
			}
		}
	})
}

// An object that was not heard yet is not late, and not due.
func TestNotHeard(t *testing.T) { // P14.4
	byKind(t, 1, func(t *testing.T, c *consume.Consumer) {
		neverDue(t, c)
		for _, now := range []int64{0, 1, 2, api.MaxTime} {
			ticks(t, c, now)
		}
		heard(c, 0)
		due(t, c, 1)
		ticks(t, c, 0)
		ticks(t, c, 1, 0)
	})
}

// With an Event of 0 no object is ever late.
func TestNoEvent(t *testing.T) { // P14.4
	byKind(t, 0, func(t *testing.T, c *consume.Consumer) {
		heard(c, 5)
		neverDue(t, c)
		for _, now := range []int64{0, 5, 6, api.MaxTime} {
			ticks(t, c, now)
		}
	})
}

// Inhibit and Start do not count.
func TestInhibitDoesNotCount(t *testing.T) { // P14.2, P14.4
	c, d := made(t)
	set(t, c, 0, produce.Comm{On: true, ID: 0x201, Kind: 255, Inhibit: 100, Event: 10, Start: 9}, to(1))
	set(t, c, 1, produce.Comm{On: true, ID: 0x301, Kind: 5, Inhibit: 100, Event: 30, Start: 9}, to(2))
	c.Start()
	hears(t, c, "201#01", 0, "0 OK")
	hears(t, c, "201#02", 0, "0 OK")
	value(t, d, 1, 2)
	hears(t, c, "301#03", 0, "")
	beats(t, c, "1 OK") // the first beat already, though its Kind is 5
	value(t, d, 2, 3)
	due(t, c, 10)
	ticks(t, c, 10, 0)
	due(t, c, 30)
	ticks(t, c, 30, 1)
}

func TestTickTimes(t *testing.T) { // P14.4
	byKind(t, 20, func(t *testing.T, c *consume.Consumer) {
		heard(c, 4)
		for _, now := range []int64{math.MinInt64, -1, api.MaxTime + 1, math.MaxInt64} {
			ticks(t, c, now)
			due(t, c, 24)
		}
		ticks(t, c, 3) // ahead of its hearing
		ticks(t, c, 0)
		ticks(t, c, api.MaxTime, 0)
	})
}

// Times as great as may be are summed without harm.
func TestGreatTimes(t *testing.T) { // P14.4
	byKind(t, api.MaxTime, func(t *testing.T, c *consume.Consumer) {
		heard(c, 0)
		due(t, c, api.MaxTime)
		ticks(t, c, api.MaxTime-1)
		ticks(t, c, api.MaxTime, 0)
		heard(c, api.MaxTime)
		due(t, c, 2*api.MaxTime) // by its sum, though no time is so great
		ticks(t, c, api.MaxTime)
		ticks(t, c, 0)
		heard(c, 1)
		ticks(t, c, api.MaxTime)
	})
}

// It was heard when it was heard last, though that is ahead of an earlier time.
func TestHeardBackwards(t *testing.T) { // P14.2, P14.4
	byKind(t, 20, func(t *testing.T, c *consume.Consumer) {
		heard(c, 100)
		heard(c, 50)
		due(t, c, 70)
		ticks(t, c, 69)
		ticks(t, c, 70, 0)
	})
}

// Of several objects those are told that are late now, in order; the least of the others' times is due.
func TestLateOfSeveral(t *testing.T) { // P14.4
	c, _ := made(t)
	neverDue(t, c)
	for i, event := range []int64{30, 20, 0, 10, 20} {
		set(t, c, i, produce.Comm{On: true, ID: 0x201, Kind: []uint8{255, 0, 254}[i%3], Event: event}, to(5))
	}
	set(t, c, 5, produce.Comm{ID: 0x201, Kind: 255, Event: 5}, to(5))
	set(t, c, 6, produce.Comm{On: true, ID: 0x301, Kind: 255, Event: 1}, to(5))
	set(t, c, 7, produce.Comm{On: true, ID: 0x401, Kind: 254, Event: 3}, to(5))
	neverDue(t, c)
	c.Start()
	neverDue(t, c)
	heard(c, 100)
	due(t, c, 110)
	hears(t, c, "401#01", 109, "7 OK")
	due(t, c, 110)
	ticks(t, c, 109)
	ticks(t, c, 110, 3)
	due(t, c, 112)
	ticks(t, c, 125, 1, 4, 7)
	due(t, c, 130)
	ticks(t, c, 130, 0)
	neverDue(t, c)
	heard(c, 140)
	due(t, c, 150)
	ticks(t, c, 200, 0, 1, 3, 4)
	heard(c, 200)
	set(t, c, 3, within(255, 10), to(5)) // not heard any more
	due(t, c, 220)
	set(t, c, 1, produce.Comm{})
	set(t, c, 4, within(255, 0), to(5))
	due(t, c, 230)
	c.Stop()
	neverDue(t, c)
	ticks(t, c, 300)
}

// Due asks, and changes nothing.
func TestDueOnlyAsks(t *testing.T) { // P14.4
	byKind(t, 20, func(t *testing.T, c *consume.Consumer) {
		heard(c, 0)
		for range 3 {
			due(t, c, 20)
		}
		ticks(t, c, 20, 0)
		for range 3 {
			neverDue(t, c)
		}
	})
}
