package sync_test

import (
	"math"
	"testing"

	"campanile/api"
	"campanile/frame"
	"campanile/sync"
)

// noTimes tells numbers of ticks that are no times.
func noTimes() []int64 {
	return []int64{math.MinInt64, -1, api.MaxTime + 1, 2 * api.MaxTime, math.MaxInt64}
}

// rightTop: may a beat be counted up to it? By the chapter's words: 0 or from 2 to 240.
func rightTop(top int) bool { return top == 0 || top >= 2 && top <= 240 }

// read tells the frame of a text.
func read(t *testing.T, s string) api.Frame {
	t.Helper()
	f, errno := frame.Read(s)
	if errno != api.OK {
		t.Fatalf("no frame: %s", s)
	}
	return f
}

// producer tells one that must be taken; it stands.
func producer(t *testing.T, id uint16, period int64, top uint8) *sync.Producer {
	t.Helper()
	p, errno := sync.NewProducer(id, period, top)
	if errno != api.OK || p == nil {
		t.Fatalf("NewProducer(%x, %d, %d): %v, %d", id, period, top, p, errno)
	}
	return p
}

// going tells a producer that goes.
func going(t *testing.T, id uint16, period int64, top uint8, now int64) *sync.Producer {
	t.Helper()
	p := producer(t, id, period, top)
	starts(t, p, now)
	return p
}

func starts(t *testing.T, p *sync.Producer, now int64) {
	t.Helper()
	if errno := p.Start(now); errno != api.OK {
		t.Fatalf("Start(%d): %d", now, errno)
	}
}

// ticks holds what Tick tells, as a frame's text; an empty one: nothing.
func ticks(t *testing.T, p *sync.Producer, now int64, want string) {
	t.Helper()
	f, ok := p.Tick(now)
	if want == "" {
		if ok || f != (api.Frame{}) {
			t.Errorf("Tick(%d): %v, %t, want nothing", now, f, ok)
		}
		return
	}
	if !ok || f != read(t, want) {
		t.Errorf("Tick(%d): %v, %t, want %s", now, f, ok, want)
	}
}

func due(t *testing.T, p *sync.Producer, want int64) {
	t.Helper()
	if n, ok := p.Due(); n != want || !ok {
		t.Errorf("Due: %d, %t, want %d", n, ok, want)
	}
}

func neverDue(t *testing.T, p *sync.Producer) {
	t.Helper()
	if n, ok := p.Due(); n != 0 || ok {
		t.Errorf("Due: %d, %t, want nothing", n, ok)
	}
}

// consumer tells one that must be taken.
func consumer(t *testing.T, id uint16, window int64, top uint8) *sync.Consumer {
	t.Helper()
	c, errno := sync.NewConsumer(id, window, top)
	if errno != api.OK || c == nil {
		t.Fatalf("NewConsumer(%x, %d, %d): %v, %d", id, window, top, c, errno)
	}
	return c
}

// hears holds that a frame is heard, with that number.
func hears(t *testing.T, c *sync.Consumer, f api.Frame, now int64, want uint8) {
	t.Helper()
	if n, ok := c.Hear(f, now); n != want || !ok {
		t.Errorf("Hear(%v, %d): %d, %t, want %d", f, now, n, ok, want)
	}
}

// deaf holds that a frame is not heard.
func deaf(t *testing.T, c *sync.Consumer, f api.Frame, now int64) {
	t.Helper()
	if n, ok := c.Hear(f, now); n != 0 || ok {
		t.Errorf("Hear(%v, %d): %d, %t, want nothing", f, now, n, ok)
	}
}

// counts holds what Lost and Wrong tell.
func counts(t *testing.T, c *sync.Consumer, lost, wrong int64) {
	t.Helper()
	if l, w := c.Lost(), c.Wrong(); l != lost || w != wrong {
		t.Errorf("Lost, Wrong: %d, %d, want %d, %d", l, w, lost, wrong)
	}
}

// opens holds what Open tells.
func opens(t *testing.T, c *sync.Consumer, now int64, want bool) {
	t.Helper()
	if is := c.Open(now); is != want {
		t.Errorf("Open(%d): %t", now, is)
	}
}

// clock tells one that was set.
func clock(t *testing.T, days uint16, ms uint32, now int64) *sync.Clock {
	t.Helper()
	c := new(sync.Clock)
	sets(t, c, days, ms, now)
	return c
}

func sets(t *testing.T, c *sync.Clock, days uint16, ms uint32, now int64) {
	t.Helper()
	if errno := c.Set(days, ms, now); errno != api.OK {
		t.Errorf("Set(%d, %d, %d): %d", days, ms, now, errno)
	}
}

// shows holds what a clock's At tells.
func shows(t *testing.T, c *sync.Clock, now int64, days uint16, ms uint32) {
	t.Helper()
	if d, m, ok := c.At(now); d != days || m != ms || !ok {
		t.Errorf("At(%d): %d, %d, %t, want %d, %d", now, d, m, ok, days, ms)
	}
}

func showsNothing(t *testing.T, c *sync.Clock, now int64) {
	t.Helper()
	if d, m, ok := c.At(now); d != 0 || m != 0 || ok {
		t.Errorf("At(%d): %d, %d, %t, want nothing", now, d, m, ok)
	}
}

func TestExamples(t *testing.T) { // P15.1 to P15.6
	p := going(t, 0x80, 10, 3, 5)
	ticks(t, p, 14, "")
	ticks(t, p, 15, "080#01")
	ticks(t, p, 38, "080#02")
	due(t, p, 45)

	c := consumer(t, 0x80, 4, 3)
	hears(t, c, read(t, "080#02"), 7, 2)
	hears(t, c, read(t, "080#01"), 9, 1)
	deaf(t, c, read(t, "080#04"), 9)
	deaf(t, c, read(t, "080#"), 9)
	opens(t, c, 13, true)
	opens(t, c, 14, false)
	counts(t, c, 1, 2)

	if f, errno := sync.Stamp(0x100, 2, 1); errno != api.OK || f != read(t, "100#010000000200") {
		t.Errorf("Stamp: %v, %d", f, errno)
	}
	k := clock(t, 65535, 86399999, 10)
	shows(t, k, 11, 0, 0)
	showsNothing(t, k, 9)
}
