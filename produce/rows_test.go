package produce_test

import (
	"fmt"
	"slices"
	"testing"

	"campanile/api"
	"campanile/dict"
	"campanile/mapping"
	"campanile/produce"
)

// dice tells numbers that look thrown and are the same at each run.
type dice uint64

func (d *dice) roll(n int) int {
	*d = *d*6364136223846793005 + 1442695040888963407
	return int(uint64(*d>>33) % uint64(n))
}

// pick tells one of some.
func pick[T any](d *dice, l ...T) T { return l[d.roll(len(l))] }

// comm tells a thrown one; few may not be.
func (d *dice) comm() produce.Comm {
	c := produce.Comm{On: d.roll(6) > 0, ID: uint16(0x180 + d.roll(4)), Kind: pick(d, uint8(0), 1, 2, 3, 5, 254, 255, 254, 255),
		Inhibit: int64(pick(d, 0, 1, 4, 9)), Event: int64(pick(d, 0, 0, 1, 5, 12)), Start: uint8(pick(d, 0, 0, 1, 3))}
	switch d.roll(60) {
	case 0:
		c.ID = pick(d, uint16(0x7FF), 0x800)
	case 1:
		c.Kind = uint8(pick(d, 240, 241, 253))
	case 2:
		c.Inhibit = pick(d, -1, api.MaxTime, int64(api.MaxTime+1))
	case 3:
		c.Event = pick(d, -1, api.MaxTime, int64(api.MaxTime+1))
	case 4:
		c.Start = uint8(pick(d, 240, 241))
	}
	return c
}

// maps tells a thrown mapping, of bytes; few may not be.
func (d *dice) maps() []mapping.Map {
	var l []mapping.Map
	for range pick(d, 0, 1, 1, 2, 3, 8) {
		l = append(l, to(uint8(1+d.roll(4))))
	}
	switch d.roll(40) {
	case 0:
		return append(l, nowhere()...)
	case 1:
		return append(l, times(64, to(1))...)
	case 2:
		return append(l, to(10))
	}
	return l
}

// sending is a frame that an object sent, and when.
type sending struct {
	at    int64
	bytes string
}

// plain is an object as the chapter's words tell it: all that it has sent since it began, all beats since it counts.
type plain struct {
	c      produce.Comm
	l      []mapping.Map
	start  int64
	sent   []sending
	wanted bool
	counts []uint8 // of the beats since it began to count; nil: it has not
}

// plainProducer is a producer by the chapter's words.
type plainProducer struct {
	d       *dict.Dict
	objects [8]plain
	goes    bool
	now     int64
}

func (o *plain) begin(now int64) {
	*o = plain{c: o.c, l: o.l, start: now}
	if o.c.Start == 0 {
		o.counts = []uint8{}
	}
}

// bytes tells what an object's mapping packs: each Map is a byte.
func (p *plainProducer) bytes(o *plain) string {
	s := ""
	for _, m := range o.l {
		n, _ := p.d.Number(m.Place)
		s += fmt.Sprintf("%02X", n)
	}
	return s
}

func (p *plainProducer) changed(o *plain) bool {
	return len(o.sent) == 0 || o.sent[len(o.sent)-1].bytes != p.bytes(o)
}

func (o *plain) time() int64 {
	if len(o.sent) == 0 {
		return o.start
	}
	return o.sent[len(o.sent)-1].at
}

func timeOK(n int64) bool { return 0 <= n && n <= 1099511627776 }

func (p *plainProducer) set(i int, c produce.Comm, l []mapping.Map) api.Abort {
	if i < 0 || i > 7 {
		return api.AbGeneral
	}
	if c.ID > 0x7FF || c.Kind > 240 && c.Kind < 254 || !timeOK(c.Inhibit) || !timeOK(c.Event) || c.Start > 240 {
		return api.AbValue
	}
	if len(l) > 64 {
		return api.AbMapLen
	}
	if c.On {
		if code := mapping.Check(p.d, l, true); code != 0 {
			return code
		}
	}
	p.objects[i] = plain{c: c, l: slices.Clone(l)}
	p.objects[i].begin(p.now)
	return 0
}

func (p *plainProducer) begin(now int64) {
	if !timeOK(now) {
		return
	}
	p.goes, p.now = true, now
	for i := range p.objects {
		p.objects[i].begin(now)
	}
}

func (p *plainProducer) want(i int) bool {
	if i < 0 || i > 7 || !p.goes || !p.objects[i].c.On {
		return false
	}
	p.objects[i].wanted = true
	return true
}

// send tells an object's frame as a text.
func (p *plainProducer) send(o *plain, now int64) string {
	o.sent = append(o.sent, sending{now, p.bytes(o)})
	o.wanted = false
	return fmt.Sprintf("%03X#%s", o.c.ID, p.bytes(o))
}

// beat: does an object's beat come with this one?
func (p *plainProducer) beat(o *plain, count uint8) bool {
	if o.c.Kind == 0 {
		return p.changed(o) || o.wanted
	}
	if o.counts == nil {
		if count == 0 || count == o.c.Start {
			o.counts = []uint8{}
			return true
		}
		return false
	}
	o.counts = append(o.counts, count)
	return len(o.counts)%int(o.c.Kind) == 0
}

// tick: is an object sent as time goes?
func (p *plainProducer) tick(o *plain, now int64) bool {
	t := now - o.time()
	if t < 0 {
		return false
	}
	return (p.changed(o) || o.wanted || o.c.Event != 0 && t >= o.c.Event) && (len(o.sent) == 0 || t >= o.c.Inhibit)
}

func (p *plainProducer) frames(now int64, beat bool, count uint8) string {
	if !p.goes || !timeOK(now) {
		return ""
	}
	p.now = now
	all := ""
	for i := range p.objects {
		o := &p.objects[i]
		sent := false
		switch {
		case !o.c.On:
		case beat && o.c.Kind <= 240:
			sent = p.beat(o, count)
		case !beat && o.c.Kind >= 254:
			sent = p.tick(o, now)
		}
		if sent {
			all += " " + p.send(o, now)
		}
	}
	if all != "" {
		all = all[1:]
	}
	return all
}

// due tells the least of the times of each object, looked for by its case.
func (p *plainProducer) due() (int64, bool) {
	var l []int64
	for i := range p.objects {
		o := &p.objects[i]
		if !p.goes || !o.c.On || o.c.Kind < 254 {
			continue
		}
		switch {
		case len(o.sent) == 0:
			l = append(l, o.start)
		case p.changed(o) || o.wanted:
			l = append(l, o.time()+o.c.Inhibit)
		case o.c.Event != 0 && o.c.Event > o.c.Inhibit:
			l = append(l, o.time()+o.c.Event)
		case o.c.Event != 0:
			l = append(l, o.time()+o.c.Inhibit)
		}
	}
	if l == nil {
		return 0, false
	}
	slices.Sort(l)
	return l[0], true
}

// Thrown calls are held against the chapter's words.
func TestThrownCalls(t *testing.T) { // P13.1 to P13.7
	codes, ticked, beaten, dues := map[api.Abort]int{}, 0, 0, 0
	for seed := range 800 {
		r := dice(seed)
		p, d := made(t)
		want := plainProducer{d: d.Copy()}
		now := int64(r.roll(20))
		for range 250 {
			now += int64(pick(&r, 0, 0, 1, 1, 2, 6, -1))
			when := now
			if r.roll(50) == 0 {
				when = pick(&r, -1, 0, api.MaxTime, int64(api.MaxTime+1))
			}
			i := r.roll(8)
			if r.roll(30) == 0 {
				i = pick(&r, -1, 8, 1000)
			}
			switch r.roll(12) {
			case 0:
				c, l := r.comm(), r.maps()
				code := want.set(i, c, l)
				codes[code]++
				if got := p.Set(i, c, l); got != code {
					t.Errorf("Set(%d, %+v, %v): %x, want %x", i, c, l, got, code)
				}
			case 1:
				if r.roll(4) == 0 {
					p.Start(when)
					want.begin(when)
				}
			case 2:
				if r.roll(40) == 0 {
					p.Stop()
					want.goes = false
				}
			case 3:
				wants(t, p, i, want.want(i))
			case 4, 5:
				sub, b := uint8(1+r.roll(4)), byte(r.roll(3))
				put(t, d, sub, b)
				put(t, want.d, sub, b)
			case 6, 7, 8:
				count := uint8(r.roll(5))
				frames := want.frames(when, true, count)
				beats(t, p, count, when, frames)
				beaten += min(1, len(frames))
			default:
				frames := want.frames(when, false, 0)
				ticks(t, p, when, frames)
				ticked += min(1, len(frames))
			}
			if n, ok := want.due(); ok {
				due(t, p, n)
				dues++
			} else {
				neverDue(t, p)
			}
		}
		for i, o := range want.objects {
			has(t, p, i, o.c, o.l...)
		}
		if told(d) != told(want.d) {
			t.Errorf("the dictionary is\n%s\nwant\n%s", told(d), told(want.d))
		}
		if t.Failed() {
			t.Fatalf("seed %d", seed)
		}
	}
	for _, code := range []api.Abort{0, api.AbGeneral, api.AbValue, api.AbMapLen, api.AbNoMap, api.AbNoEntry} {
		if codes[code] < 100 {
			t.Errorf("Set told %x only %d times", code, codes[code])
		}
	}
	if ticked < 5000 || beaten < 5000 || dues < 50000 {
		t.Errorf("only %d ticks, %d beats told frames, %d times one was due", ticked, beaten, dues)
	}
}

// A producer that is ticked at the times that Due tells sends what one sends that is ticked at each moment.
func TestDueIsEnough(t *testing.T) { // P13.6, P13.8
	frames := 0
	for seed := range 300 {
		r := dice(5000 + seed)
		p, d := made(t)
		q := produce.New(d)
		for i := range 4 {
			c, l := r.comm(), r.maps()
			c.Kind |= 254
			p.Set(i, c, l)
			q.Set(i, c, l)
		}
		p.Start(0)
		q.Start(0)
		for now := range int64(100) {
			if r.roll(5) == 0 {
				put(t, d, uint8(1+r.roll(4)), byte(r.roll(3)))
			}
			if r.roll(20) == 0 {
				i := r.roll(4)
				wants(t, q, i, p.Want(i))
			}
			want := texts(t, p.Tick(now))
			if n, ok := q.Due(); ok && n <= now {
				ticks(t, q, now, want)
			} else if want != "" {
				t.Errorf("at %d %q is sent, and Due told %d, %t", now, want, n, ok)
			}
			frames += min(1, len(want))
		}
		if t.Failed() {
			t.Fatalf("seed %d", seed)
		}
	}
	if frames < 3000 {
		t.Errorf("only at %d moments frames were sent", frames)
	}
}
