package sync_test

import (
	"fmt"
	"testing"

	"campanile/api"
	"campanile/sync"
)

// dice tells numbers that look thrown and are the same at each run.
type dice uint64

func (d *dice) roll(n int) int {
	*d = *d*6364136223846793005 + 1442695040888963407
	return int(uint64(*d>>33) % uint64(n))
}

// pick tells one of some.
func pick[T any](d *dice, l ...T) T { return l[d.roll(len(l))] }

// moment tells a time near another one; few are no times.
func (d *dice) moment(now int64) int64 {
	if d.roll(20) == 0 {
		return pick(d, -1, 0, api.MaxTime, int64(api.MaxTime+1))
	}
	return now
}

func timeOK(n int64) bool { return 0 <= n && n <= 1099511627776 }

// plainProducer is a producer by the chapter's words.
type plainProducer struct {
	period, due int64
	top         int
	goes        bool
	sent        int // since it started
}

func (p *plainProducer) start(now int64) api.Errno {
	if !timeOK(now) {
		return api.ErrArg
	}
	p.goes, p.due, p.sent = true, now+p.period, 0
	return api.OK
}

// tick tells a frame's text.
func (p *plainProducer) tick(now int64) string {
	if !p.goes || !timeOK(now) || now < p.due {
		return ""
	}
	for p.due <= now {
		p.due += p.period
	}
	p.sent++
	if p.top == 0 {
		return "080#"
	}
	return fmt.Sprintf("080#%02X", (p.sent-1)%p.top+1)
}

// Thrown calls of producers are held against the chapter's words.
func TestThrownProducers(t *testing.T) { // P15.1, P15.2
	sent, refused := 0, 0
	for seed := range 300 {
		r := dice(seed)
		want := plainProducer{period: pick(&r, int64(1), 2, 3, 10, 17), top: pick(&r, 0, 2, 3, 4, 240)}
		p := producer(t, 0x80, want.period, uint8(want.top))
		now := int64(r.roll(20))
		for range 400 {
			now = max(0, now+int64(pick(&r, 0, 1, 1, 2, 9, 40, -3)))
			switch r.roll(12) {
			case 0:
				when := r.moment(now)
				errno := want.start(when)
				if got := p.Start(when); got != errno {
					t.Errorf("Start(%d): %d, want %d", when, got, errno)
				}
				refused += int(min(1, errno))
			case 1:
				if r.roll(3) == 0 {
					p.Stop()
					want.goes = false
				}
			default:
				when := now
				if r.roll(50) == 0 {
					when = pick(&r, -1, 0, int64(api.MaxTime+1))
				}
				text := want.tick(when)
				ticks(t, p, when, text)
				sent += min(1, len(text))
			}
			if want.goes {
				due(t, p, want.due)
			} else {
				neverDue(t, p)
			}
		}
		if t.Failed() {
			t.Fatalf("seed %d", seed)
		}
	}
	if sent < 20000 || refused < 100 {
		t.Errorf("only %d beats were sent, %d starts refused", sent, refused)
	}
}

// heardBeat is a beat that a plain consumer heard.
type heardBeat struct {
	at     int64
	number int
}

// plainConsumer is a consumer by the chapter's words: it keeps all that it has heard.
type plainConsumer struct {
	window int64
	top    int
	all    []heardBeat
	wrong  int64
}

func (c *plainConsumer) hear(f api.Frame, now int64) (uint8, bool) {
	if f.ID != 0x80 || f.Remote || !timeOK(now) {
		return 0, false
	}
	n := int(f.Data[0])
	want := api.Frame{ID: 0x80}
	if c.top != 0 {
		want.Len, want.Data[0] = 1, f.Data[0]
	}
	if f != want || c.top != 0 && (n == 0 || n > c.top) {
		c.wrong++
		return 0, false
	}
	c.all = append(c.all, heardBeat{now, n})
	return uint8(n), true
}

func (c *plainConsumer) lost() int64 {
	lost := int64(0)
	for i := 1; i < len(c.all) && c.top != 0; i++ {
		lost += lostBetween(c.all[i-1].number, c.all[i].number, c.top)
	}
	return lost
}

func (c *plainConsumer) open(now int64) bool {
	if !timeOK(now) {
		return false
	}
	if c.window == 0 {
		return true
	}
	if len(c.all) == 0 {
		return false
	}
	last := c.all[len(c.all)-1].at
	return last <= now && now <= last+c.window
}

// beat tells a thrown frame; few are no beats.
func (d *dice) beat(top int) api.Frame {
	f := api.Frame{ID: 0x80}
	if top != 0 {
		f.Len, f.Data[0] = 1, byte(1+d.roll(top))
	}
	switch d.roll(20) {
	case 0:
		f.ID = pick(d, uint16(0), 0x81, 0x880)
	case 1:
		f.Remote = true
	case 2:
		f.Len = pick(d, -1, 0, 1, 2, 8, 9)
	case 3:
		f.Data[0] = pick(d, byte(0), 1, byte(top), byte(top+1), 255)
	case 4:
		f.Data[pick(d, 1, 2, 7)] = byte(d.roll(2))
	}
	return f
}

// Thrown calls of consumers are held against the chapter's words.
func TestThrownConsumers(t *testing.T) { // P15.3, P15.4
	heard, wrong, open, shut := 0, int64(0), 0, 0
	for seed := range 300 {
		r := dice(1000 + seed)
		want := plainConsumer{window: pick(&r, int64(0), 1, 2, 5, 20), top: pick(&r, 0, 2, 3, 4, 9, 240)}
		c := consumer(t, 0x80, want.window, uint8(want.top))
		now := int64(r.roll(20))
		for range 200 {
			now = max(0, now+int64(pick(&r, 0, 1, 1, 2, 9, -3)))
			when := r.moment(now)
			if r.roll(3) == 0 {
				f := r.beat(want.top)
				n, ok := want.hear(f, when)
				if got, is := c.Hear(f, when); got != n || is != ok {
					t.Errorf("Hear(%v, %d): %d, %t, want %d, %t", f, when, got, is, n, ok)
				}
			}
			for _, asked := range []int64{when, when + 1, when + want.window, when - 1} {
				is := want.open(asked)
				opens(t, c, asked, is)
				if is {
					open++
				} else {
					shut++
				}
			}
		}
		counts(t, c, want.lost(), want.wrong)
		heard += len(want.all)
		wrong += want.wrong
		if t.Failed() {
			t.Fatalf("seed %d", seed)
		}
	}
	if heard < 10000 || wrong < 1000 || open < 50000 || shut < 50000 {
		t.Errorf("only %d beats were heard, %d wrong, %d times it was open, %d times shut", heard, wrong, open, shut)
	}
}

// Thrown times of day, set and asked, are held against their milliseconds since day 0.
func TestThrownClocks(t *testing.T) { // P15.5, P15.6
	for seed := range 2000 {
		r := dice(2000 + seed)
		days := pick(&r, uint16(0), 1, 65535, uint16(r.roll(65536)))
		ms := uint32(pick(&r, 0, 1, 86399999, r.roll(dayLength)))
		now := int64(pick(&r, 0, 5, api.MaxTime, r.roll(api.MaxTime)))
		id := uint16(r.roll(0x800))
		f, errno := sync.Stamp(id, days, ms)
		if errno != api.OK {
			t.Fatalf("Stamp(%x, %d, %d): %d", id, days, ms, errno)
		}
		stamped(t, f, id, days, ms)
		k := clock(t, days, ms, now)
		for range 10 {
			later := now + int64(pick(&r, 0, 1, 86399999, dayLength, r.roll(dayLength), r.roll(api.MaxTime)))
			if !timeOK(later) {
				showsNothing(t, k, later)
				continue
			}
			all := int64(days)*dayLength + int64(ms) + later - now
			shows(t, k, later, uint16(all/dayLength%65536), uint32(all%dayLength))
		}
		if t.Failed() {
			t.Fatalf("seed %d", seed)
		}
	}
}
