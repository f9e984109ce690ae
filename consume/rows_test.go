package consume_test

import (
	"slices"
	"testing"

	"campanile/api"
	"campanile/consume"
	"campanile/dict"
	"campanile/mapping"
	"campanile/produce"
)

// dice tells numbers that look thrown and are the same at each run.
type dice uint64

func (d *dice) roll(n int) int {
	*d = *d*6364136223846793005 + 1442695040888963407
	return int(uint64(*d>>33) % uint64(n))
}

// pick tells one of some.
func pick[T any](d *dice, l ...T) T { return l[d.roll(len(l))] }

// comm tells a thrown one; few may not be.
func (d *dice) comm() produce.Comm {
	m := produce.Comm{On: d.roll(8) > 0, ID: uint16(0x200 + d.roll(3)), Kind: pick(d, uint8(0), 1, 2, 240, 254, 255),
		Inhibit: int64(pick(d, 0, 1, 9)), Event: int64(pick(d, 0, 1, 4, 7, 15)), Start: uint8(pick(d, 0, 0, 1, 3))}
	switch d.roll(30) {
	case 0:
		m.ID = pick(d, uint16(0x7FF), 0x800)
	case 1:
		m.Kind = uint8(pick(d, 240, 241, 253))
	case 2:
		m.Inhibit = pick(d, -1, api.MaxTime, int64(api.MaxTime+1))
	case 3:
		m.Event = pick(d, -1, api.MaxTime, int64(api.MaxTime+1))
	case 4:
		m.Start = uint8(pick(d, 240, 241))
	}
	return m
}

// maps tells a thrown mapping, of bytes; few may not be.
func (d *dice) maps() []mapping.Map {
	var l []mapping.Map
	for range pick(d, 0, 1, 1, 2, 3, 8) {
		l = append(l, to(pick(d, uint8(1), 2, 5, 6, 12)))
	}
	switch d.roll(30) {
	case 0:
		return append(l, nowhere()...)
	case 1:
		return append(l, times(64, to(1))...)
	case 2:
		return append(l, to(pick(d, uint8(10), 11)))
	}
	return l
}

// frame tells a thrown one; few are not right.
func (d *dice) frame() api.Frame {
	f := api.Frame{ID: uint16(0x200 + d.roll(4)), Len: pick(d, 0, 1, 1, 2, 3, 8)}
	for i := range f.Len {
		f.Data[i] = byte(d.roll(11))
	}
	switch d.roll(25) {
	case 0:
		f.Remote = true
	case 1:
		f.Data = [8]byte{}
		f.Remote = true
	case 2:
		f.Data[7] = 1
	case 3:
		f.Len = pick(d, -1, 9)
	case 4:
		f.ID = pick(d, uint16(0x7FF), 0xA00)
	}
	return f
}

// Things that happen to an object.
const (
	came     = 'c' // a frame that was long enough
	lateness = 'l'
	kept     = 'k' // bytes, to be held
	beaten   = 'b' // what it held was written
)

// happening is one of them; its time is that of a frame, its bytes are those that are held.
type happening struct {
	what  rune
	time  int64
	bytes []byte
}

// plain is an object as the chapter's words tell it: all that has happened to it since it began.
type plain struct {
	m   produce.Comm
	l   []mapping.Map
	all []happening
}

// last tells what happened last of some things.
func (o *plain) last(what ...rune) (happening, bool) {
	for _, h := range slices.Backward(o.all) {
		if slices.Contains(what, h.what) {
			return h, true
		}
	}
	return happening{}, false
}

func (o *plain) add(what rune, time int64, b []byte) {
	o.all = append(o.all, happening{what, time, b})
}

// plainConsumer is a consumer by the chapter's words.
type plainConsumer struct {
	d       *dict.Dict
	objects [8]plain
	goes    bool
}

func timeOK(n int64) bool { return 0 <= n && n <= 1099511627776 }

func (c *plainConsumer) set(i int, m produce.Comm, l []mapping.Map) api.Abort {
	if i < 0 || i > 7 {
		return api.AbGeneral
	}
	if m.ID > 0x7FF || m.Kind > 240 && m.Kind < 254 || !timeOK(m.Inhibit) || !timeOK(m.Event) || m.Start > 240 {
		return api.AbValue
	}
	if len(l) > 64 {
		return api.AbMapLen
	}
	if m.On {
		if code := mapping.Check(c.d, l, false); code != 0 {
			return code
		}
	}
	c.objects[i] = plain{m: m, l: slices.Clone(l)}
	return 0
}

func (c *plainConsumer) start() {
	c.goes = true
	for i := range c.objects {
		c.objects[i].all = nil
	}
}

// write writes bytes, one a Map: all of them, or none.
func (c *plainConsumer) write(o *plain, b []byte) api.Abort {
	for i, m := range o.l {
		if m.Place.Sub <= 4 && b[i] > 9 {
			return api.AbHigh
		}
	}
	for i, m := range o.l {
		c.d.Write(m.Place, b[i:i+1])
	}
	return 0
}

// frameOK: is it right, and not remote?
func frameOK(f api.Frame) bool {
	if f.ID >= 2048 || f.Len < 0 || f.Len > 8 || f.Remote {
		return false
	}
	for _, b := range f.Data[f.Len:] {
		if b != 0 {
			return false
		}
	}
	return true
}

func (c *plainConsumer) hear(f api.Frame, now int64, open bool) []consume.Result {
	if !c.goes || !timeOK(now) || !frameOK(f) {
		return nil
	}
	var all []consume.Result
	for i := range c.objects {
		o := &c.objects[i]
		if !o.m.On || o.m.ID != f.ID {
			continue
		}
		if f.Len < len(o.l) {
			all = append(all, consume.Result{Number: i, Code: api.AbLength})
			continue
		}
		o.add(came, now, nil)
		switch {
		case o.m.Kind >= 254:
			all = append(all, consume.Result{Number: i, Code: c.write(o, f.Data[:f.Len])})
		case open:
			o.add(kept, 0, slices.Clone(f.Data[:f.Len]))
		default:
			all = append(all, consume.Result{Number: i, Code: api.AbState})
		}
	}
	return all
}

func (c *plainConsumer) sync() []consume.Result {
	var all []consume.Result
	for i := range c.objects {
		o := &c.objects[i]
		h, some := o.last(kept, beaten)
		if c.goes && o.m.On && o.m.Kind <= 240 && some && h.what == kept {
			all = append(all, consume.Result{Number: i, Code: c.write(o, h.bytes)})
			o.add(beaten, 0, nil)
		}
	}
	return all
}

// waits tells when an object came last, if it is one that may be late, and is not.
func (c *plainConsumer) waits(o *plain) (int64, bool) {
	h, some := o.last(came, lateness)
	return h.time, c.goes && o.m.On && o.m.Event != 0 && some && h.what == came
}

func (c *plainConsumer) tick(now int64) []int {
	var all []int
	for i := range c.objects {
		o := &c.objects[i]
		if time, waits := c.waits(o); waits && timeOK(now) && now-time >= o.m.Event {
			o.add(lateness, 0, nil)
			all = append(all, i)
		}
	}
	return all
}

func (c *plainConsumer) due() (int64, bool) {
	var l []int64
	for i := range c.objects {
		if time, waits := c.waits(&c.objects[i]); waits {
			l = append(l, time+c.objects[i].m.Event)
		}
	}
	if l == nil {
		return 0, false
	}
	return slices.Min(l), true
}

// counts tells how often things were seen, so that none is left out.
type counts struct {
	set, heard, beaten map[api.Abort]int
	late, dues         int
}

// step does a thrown call to both, and holds their answers against each other.
func step(t *testing.T, r *dice, c *consume.Consumer, want *plainConsumer, now int64, n *counts) {
	t.Helper()
	i := r.roll(8)
	if r.roll(30) == 0 {
		i = pick(r, -1, 8, 1000)
	}
	switch r.roll(16) {
	case 0, 1:
		m, l := r.comm(), r.maps()
		code := want.set(i, m, l)
		n.set[code]++
		if got := c.Set(i, m, l); got != code {
			t.Errorf("Set(%d, %+v, %v): %x, want %x", i, m, l, got, code)
		}
	case 2:
		if r.roll(5) == 0 {
			c.Start()
			want.start()
		}
	case 3:
		if r.roll(20) == 0 {
			c.Stop()
			want.goes = false
		}
	case 4, 5:
		l := want.sync()
		beats(t, c, shown(l))
		for _, x := range l {
			n.beaten[x.Code]++
		}
	case 6, 7, 8:
		late := want.tick(now)
		ticks(t, c, now, late...)
		n.late += len(late)
	default:
		f, open := r.frame(), r.roll(3) > 0
		l := want.hear(f, now, open)
		if got := c.Hear(f, now, open); !slices.Equal(got, l) {
			t.Errorf("Hear(%+v, %d, %t): %v, want %v", f, now, open, got, l)
		}
		for _, x := range l {
			n.heard[x.Code]++
		}
	}
	if time, ok := want.due(); ok {
		due(t, c, time)
		n.dues++
	} else {
		neverDue(t, c)
	}
}

// Thrown calls are held against the chapter's words.
func TestThrownCalls(t *testing.T) { // P14.1 to P14.5
	n := counts{set: map[api.Abort]int{}, heard: map[api.Abort]int{}, beaten: map[api.Abort]int{}}
	for seed := range 1000 {
		r := dice(seed)
		c, d := made(t)
		want := plainConsumer{d: d.Copy()}
		now := int64(r.roll(20))
		for range 250 {
			now = max(0, now+int64(pick(&r, 0, 0, 1, 1, 2, 6, -1)))
			when := now
			if r.roll(50) == 0 {
				when = pick(&r, -1, 0, api.MaxTime, int64(api.MaxTime+1))
			}
			step(t, &r, c, &want, when, &n)
			if d.Changes() != want.d.Changes() {
				t.Errorf("%d values were written, want %d", d.Changes(), want.d.Changes())
			}
		}
		for i, o := range want.objects {
			has(t, c, i, o.m, o.l...)
		}
		if told(d) != told(want.d) {
			t.Errorf("the dictionary is\n%s\nwant\n%s", told(d), told(want.d))
		}
		if t.Failed() {
			t.Fatalf("seed %d", seed)
		}
	}
	for _, code := range []api.Abort{0, api.AbGeneral, api.AbValue, api.AbMapLen, api.AbNoMap, api.AbNoEntry} {
		if n.set[code] < 100 {
			t.Errorf("Set told %x only %d times", code, n.set[code])
		}
	}
	for _, code := range []api.Abort{0, api.AbLength, api.AbHigh, api.AbState} {
		if n.heard[code] < 500 {
			t.Errorf("Hear told %x only %d times", code, n.heard[code])
		}
	}
	if n.beaten[0] < 1000 || n.beaten[api.AbHigh] < 100 || n.late < 5000 || n.dues < 50000 {
		t.Errorf("only %d beats, %d of them refused; %d times one was late, %d times one was due", n.beaten[0], n.beaten[api.AbHigh], n.late, n.dues)
	}
}

// A consumer that is ticked at the times that Due tells finds late what one finds that is ticked at each moment.
func TestDueIsEnough(t *testing.T) { // P14.4
	found := 0
	for seed := range 300 {
		r := dice(5000 + seed)
		c, d := made(t)
		q := consume.New(d)
		for i := range 8 {
			m, l := r.comm(), r.maps()
			c.Set(i, m, l)
			q.Set(i, m, l)
		}
		c.Start()
		q.Start()
		for now := range int64(100) {
			if r.roll(5) == 0 {
				f := r.frame()
				c.Hear(f, now, true)
				q.Hear(f, now, true)
			}
			want := c.Tick(now)
			if n, ok := q.Due(); ok && n <= now {
				ticks(t, q, now, want...)
			} else if len(want) > 0 {
				t.Errorf("at %d %v are late, and Due told %d, %t", now, want, n, ok)
			}
			found += len(want)
		}
		if t.Failed() {
			t.Fatalf("seed %d", seed)
		}
	}
	if found < 1000 {
		t.Errorf("only %d times one was late", found)
	}
}
