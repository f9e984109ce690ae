package sync_test

import (
	"fmt"
	"math"
	"testing"

	"campanile/api"
	"campanile/sync"
)

// made holds whether NewProducer takes what it is given.
func made(t *testing.T, id uint16, period int64, top uint8, want bool) {
	t.Helper()
	p, errno := sync.NewProducer(id, period, top)
	switch {
	case want && (errno != api.OK || p == nil):
		t.Errorf("NewProducer(%x, %d, %d): %v, %d", id, period, top, p, errno)
	case !want && (errno != api.ErrArg || p != nil):
		t.Errorf("NewProducer(%x, %d, %d): %v, %d, want ErrArg", id, period, top, p, errno)
	}
}

func TestNewProducer(t *testing.T) { // P15.1
	for _, id := range []uint16{0, 1, 0x80, 0x7FE, 0x7FF} {
		made(t, id, 10, 3, true)
		made(t, id, 10, 0, true)
	}
	for _, id := range []uint16{0x800, 0x801, 0x880, 0xFFFF} {
		made(t, id, 10, 3, false)
		made(t, id, 10, 0, false)
	}
	for _, period := range []int64{1, 2, api.MaxTime - 1, api.MaxTime} {
		made(t, 0x80, period, 3, true)
	}
	for _, period := range append(noTimes(), 0) {
		made(t, 0x80, period, 3, false)
	}
	for top := range 256 {
		made(t, 0x80, 10, uint8(top), rightTop(top))
	}
	made(t, 0x800, 0, 1, false)
}

// A producer stands till it is started.
func TestStands(t *testing.T) { // P15.1, P15.2
	p := producer(t, 0x80, 10, 3)
	for _, now := range append(noTimes(), 0, 1, 10, 100, api.MaxTime) {
		ticks(t, p, now, "")
		neverDue(t, p)
	}
}

func TestStart(t *testing.T) { // P15.1
	for _, now := range []int64{0, 1, 5, api.MaxTime - 10} {
		p := going(t, 0x80, 10, 3, now)
		due(t, p, now+10)
		ticks(t, p, now+9, "")
		ticks(t, p, now+10, "080#01")
	}
}

// A start that is refused changes nothing, of one that stands and of one that goes.
func TestStartAtNoTime(t *testing.T) { // P15.1
	for _, now := range noTimes() {
		p := producer(t, 0x80, 10, 3)
		refuses := func() {
			t.Helper()
			if errno := p.Start(now); errno != api.ErrArg {
				t.Errorf("Start(%d): %d, want ErrArg", now, errno)
			}
		}
		refuses()
		neverDue(t, p)
		ticks(t, p, 1000, "")
		starts(t, p, 0)
		ticks(t, p, 10, "080#01")
		refuses()
		due(t, p, 20)
		ticks(t, p, 20, "080#02")
		p.Stop()
		refuses()
		neverDue(t, p)
	}
}

// One that goes begins anew: the next number is 1 again, and time counts from then on, also if that is ahead.
func TestStartAnew(t *testing.T) { // P15.1
	p := going(t, 0x80, 10, 3, 0)
	ticks(t, p, 10, "080#01")
	ticks(t, p, 20, "080#02")
	starts(t, p, 25)
	due(t, p, 35)
	ticks(t, p, 30, "")
	ticks(t, p, 35, "080#01")
	ticks(t, p, 45, "080#02")
	starts(t, p, 3)
	due(t, p, 13)
	ticks(t, p, 13, "080#01")
	starts(t, p, 13)
	starts(t, p, 13)
	due(t, p, 23)
	ticks(t, p, 23, "080#01")
}

func TestStop(t *testing.T) { // P15.1, P15.2
	p := producer(t, 0x80, 10, 3)
	p.Stop() // of one that stands nothing happens
	neverDue(t, p)
	starts(t, p, 0)
	ticks(t, p, 10, "080#01")
	p.Stop()
	neverDue(t, p)
	for _, now := range []int64{10, 20, 1000, api.MaxTime} {
		ticks(t, p, now, "")
	}
	p.Stop()
	neverDue(t, p)
	starts(t, p, 100)
	due(t, p, 110)
	ticks(t, p, 110, "080#01")
}

func TestNilProducer(t *testing.T) { // P15.1
	var p *sync.Producer
	for _, now := range append(noTimes(), 0, 10, api.MaxTime) {
		if errno := p.Start(now); errno != api.ErrNil {
			t.Errorf("Start(%d): %d, want ErrNil", now, errno)
		}
		ticks(t, p, now, "")
		neverDue(t, p)
		p.Stop()
	}
}

// One that is made by hand has no period: whatever it is asked, no call panics, and it stands.
func TestProducerByHand(t *testing.T) { // P15.1, P15.2
	var p sync.Producer
	for _, now := range append(noTimes(), 0, 10, 10, api.MaxTime) {
		ticks(t, &p, now, "")
		neverDue(t, &p)
		p.Start(now)
		ticks(t, &p, now, "")
		p.Stop()
	}
}

// A beat that is told late puts off none: the next one goes when it would have gone.
func TestTick(t *testing.T) { // P15.2
	for _, c := range []struct{ now, next int64 }{
		{15, 25}, {16, 25}, {24, 25}, // at it, behind it by less than a period
		{25, 35}, {26, 35}, {34, 35}, // by a period
		{35, 45}, {44, 45}, {114, 115}, {115, 125}, {116, 125}, // by several
		{api.MaxTime, (api.MaxTime-5)/10*10 + 15},
	} {
		t.Run(fmt.Sprint(c.now), func(t *testing.T) {
			p := going(t, 0x80, 10, 3, 5)
			for _, early := range []int64{0, 4, 5, 14} {
				ticks(t, p, early, "")
				due(t, p, 15)
			}
			ticks(t, p, c.now, "080#01")
			due(t, p, c.next)
			ticks(t, p, c.now, "") // only one is told, however many were due
			ticks(t, p, 15, "")
			if c.next <= api.MaxTime {
				ticks(t, p, c.next-1, "")
				ticks(t, p, c.next, "080#02")
				due(t, p, c.next+10)
			}
		})
	}
}

func TestTickAtNoTime(t *testing.T) { // P15.2
	p := going(t, 0x80, 1, 3, 0)
	for _, now := range noTimes() {
		ticks(t, p, now, "")
		due(t, p, 1)
	}
	ticks(t, p, 1, "080#01")
}

// Times as great as may be are summed without harm; a beat that is due behind all times never goes.
func TestGreatTimes(t *testing.T) { // P15.1, P15.2
	p := going(t, 0x80, 1, 3, api.MaxTime-1)
	ticks(t, p, api.MaxTime-1, "")
	ticks(t, p, api.MaxTime, "080#01")
	due(t, p, api.MaxTime+1)
	ticks(t, p, api.MaxTime, "")
	ticks(t, p, api.MaxTime+1, "")

	p = going(t, 0x80, api.MaxTime, 3, 0)
	ticks(t, p, api.MaxTime-1, "")
	ticks(t, p, api.MaxTime, "080#01")
	due(t, p, 2*api.MaxTime)
	starts(t, p, api.MaxTime)
	due(t, p, 2*api.MaxTime)
	ticks(t, p, api.MaxTime, "")
	ticks(t, p, math.MaxInt64, "")

	p = going(t, 0x80, 3, 3, 0) // 2^40 is 1 more than a multiple of 3
	ticks(t, p, api.MaxTime, "080#01")
	due(t, p, api.MaxTime+2)
}

// The numbers go up to the greatest one, and begin with 1 again, also where beats were left out.
func TestNumbers(t *testing.T) { // P15.2
	for top := range 256 {
		if top == 0 || !rightTop(top) {
			continue
		}
		p := going(t, 0x7FF, 2, uint8(top), 0)
		now := int64(0)
		for beat := range 2*top + 3 {
			now += int64(2 + beat%5)
			ticks(t, p, now, fmt.Sprintf("7FF#%02X", beat%top+1))
		}
	}
}

func TestNoNumbers(t *testing.T) { // P15.2
	p := going(t, 0x123, 10, 0, 0)
	for now := int64(10); now < 6000; now += 10 {
		ticks(t, p, now-1, "")
		ticks(t, p, now, "123#")
	}
	due(t, p, 6000)
}

// Due asks, and changes nothing; ticked at the times that it tells, a producer sends all beats.
func TestDue(t *testing.T) { // P15.2
	p := going(t, 0x80, 7, 2, 3)
	for beat := range int64(9) {
		want := 3 + 7*(beat+1)
		due(t, p, want)
		due(t, p, want)
		ticks(t, p, want-1, "")
		due(t, p, want)
		ticks(t, p, want, fmt.Sprintf("080#%02X", beat%2+1))
	}
}

// Producers have nothing in common.
func TestProducersApart(t *testing.T) { // P15.1, P15.2
	p, q := going(t, 0x80, 10, 3, 0), going(t, 0x81, 4, 2, 1)
	ticks(t, p, 10, "080#01")
	ticks(t, q, 10, "081#01")
	q.Stop()
	due(t, p, 20)
	ticks(t, p, 20, "080#02")
	neverDue(t, q)
}
