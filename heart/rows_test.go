package heart_test

import (
	"fmt"
	"slices"
	"testing"

	"campanile/api"
	"campanile/frame"
	"campanile/heart"
)

// dice tells numbers that look thrown and are the same at each run.
type dice uint64

func (d *dice) roll(n int) int {
	*d = *d*6364136223846793005 + 1442695040888963407
	return int(uint64(*d>>33) % uint64(n))
}

// pick tells one of some.
func pick[T any](d *dice, l ...T) T { return l[d.roll(len(l))] }

// state tells one of the four, now and then none.
func (d *dice) state() uint8 {
	if d.roll(12) == 0 {
		return pick(d, noStates()...)
	}
	return pick(d, states()...)
}

// time tells one near another, now and then none, or one near MaxTime.
func (d *dice) time(near int64) int64 {
	switch d.roll(40) {
	case 0:
		return pick(d, noTimes()...)
	case 1:
		return api.MaxTime - int64(d.roll(3))
	}
	return max(0, near+int64(d.roll(12))-4)
}

func rightTime(n int64) bool { return n >= 0 && n <= 1<<40 }

// plainBeater is a beater by the chapter's words: what was set last, and when it has beaten since.
type plainBeater struct {
	address     uint8
	period, set int64
	beaten      []int64
}

func (p *plainBeater) setTo(period, now int64) api.Errno {
	if !rightTime(period) || !rightTime(now) {
		return api.ErrArg
	}
	p.period, p.set, p.beaten = period, now, nil
	return api.OK
}

func (p *plainBeater) due() int64 {
	if len(p.beaten) == 0 {
		return p.set
	}
	return p.beaten[len(p.beaten)-1] + p.period
}

// tick tells a beat's text.
func (p *plainBeater) tick(now int64, state uint8) string {
	if p.period == 0 || !rightTime(now) || now < p.due() || !slices.Contains([]uint8{0, 4, 5, 127}, state) {
		return ""
	}
	p.beaten = append(p.beaten, now)
	return fmt.Sprintf("7%02X#%02X", p.address, state)
}

// Thrown calls of a beater are held against the chapter's words.
func TestThrownBeater(t *testing.T) { // P18.1
	beaten, quiet, refused := 0, 0, 0
	for seed := range 400 {
		r := dice(seed)
		p := &plainBeater{address: uint8(1 + r.roll(127))}
		b := beater(t, p.address)
		near := int64(0)
		for range 150 {
			now := r.time(near)
			if now >= 0 && now < 1<<39 {
				near = now
			}
			if r.roll(10) == 0 {
				period := pick(&r, int64(0), 1, 2, 5, 9, api.MaxTime, -1, api.MaxTime+1)
				want := p.setTo(period, now)
				if errno := b.Set(period, now); errno != want {
					t.Errorf("Set(%d, %d): %d, want %d", period, now, errno, want)
				}
				if want != api.OK {
					refused++
				}
			} else {
				state := r.state()
				if want := p.tick(now, state); want != "" {
					beats(t, b, now, state, want)
					beaten++
				} else {
					silent(t, b, now, state)
					quiet++
				}
			}
			if p.period == 0 {
				neverDue(t, b)
			} else {
				due(t, b, p.due())
			}
		}
		if t.Failed() {
			t.Fatalf("seed %d", seed)
		}
	}
	if beaten < 5000 || quiet < 5000 || refused < 500 {
		t.Errorf("%d beats, %d times nothing, %d times refused", beaten, quiet, refused)
	}
}

// happened is what has become of a node.
type happened struct {
	what  string // set, heard, gone
	state uint8
	at    int64 // when; of a set: how long it may be silent
}

// plainWatch is a watch by the chapter's words: it keeps all that has happened to each node since it was watched.
type plainWatch map[uint8][]happened

func (p plainWatch) set(node uint8, within int64) api.Errno {
	if node < 1 || node > 127 || !rightTime(within) {
		return api.ErrArg
	}
	if within == 0 {
		delete(p, node)
		return api.OK
	}
	if p[node] == nil && len(p) == 16 {
		return api.ErrLimit
	}
	p[node] = []happened{{what: "set", at: within}}
	return api.OK
}

// last tells what has happened last.
func (p plainWatch) last(node uint8) happened {
	l := p[node]
	if len(l) == 0 {
		return happened{}
	}
	return l[len(l)-1]
}

// hear tells what a frame is to a watch, by its text.
func (p plainWatch) hear(text string, now int64) heart.Event {
	for node := range p {
		for _, state := range []uint8{0, 4, 5, 127} {
			if text != fmt.Sprintf("7%02X#%02X", node, state) || !rightTime(now) {
				continue
			}
			kind, last := heart.Changed, p.last(node)
			switch {
			case last.what != "heard":
				kind = heart.Came
			case state == 0:
				kind = heart.Booted
			case state == last.state:
				kind = 0
			}
			p[node] = append(p[node], happened{"heard", state, now})
			if kind == 0 {
				return heart.Event{}
			}
			return heart.Event{Node: node, Kind: kind, State: state}
		}
	}
	return heart.Event{}
}

func (p plainWatch) tick(now int64) []heart.Event {
	var l []heart.Event
	for n := range 128 {
		node := uint8(n)
		last := p.last(node)
		if last.what == "heard" && rightTime(now) && now-last.at >= p[node][0].at {
			p[node] = append(p[node], happened{"gone", last.state, now})
			l = append(l, gone(node, last.state))
		}
	}
	return l
}

// shows holds all that a watch shows against what is to be shown.
func (p plainWatch) shows(t *testing.T, w *heart.Watch) {
	t.Helper()
	var times []int64
	for n := range 30 { // the thrown calls set no others
		node := uint8(n)
		if last := p.last(node); last.what == "heard" {
			shows(t, w, node, last.state)
			times = append(times, last.at+p[node][0].at)
		} else {
			showsNothing(t, w, node)
		}
	}
	if len(times) == 0 {
		neverDue(t, w)
	} else {
		due(t, w, slices.Min(times))
	}
}

// beat tells a frame that is thrown: a beat of one of a few nodes, or nearly one.
func (d *dice) beat(nodes int) api.Frame {
	f := beat(uint8(1+d.roll(nodes)), d.state())
	switch d.roll(30) {
	case 0:
		f.ID = pick(d, uint16(5), 0x605, 0x700, 0x7FF, 0x785)
	case 1:
		f.Len, f.Data[1] = 2, uint8(d.roll(2))
	case 2:
		f = api.Frame{ID: f.ID, Len: d.roll(3), Remote: true}
	case 3:
		f = api.Frame{ID: f.ID}
	}
	return f
}

// Thrown calls of a watch are held against the chapter's words.
func TestThrownWatch(t *testing.T) { // P18.2, P18.3, P18.4, P18.5
	kinds, errors, several := map[uint8]int{}, map[api.Errno]int{}, 0
	for seed := range 300 {
		r := dice(seed)
		p, w := plainWatch{}, heart.NewWatch()
		nodes := pick(&r, 2, 5, 20)
		for n := 1; n < nodes && n < 15; n++ { // nearly as many as may be
			p.set(uint8(n), 20)
			watches(t, w, uint8(n), 20)
		}
		near := int64(0)
		for range 200 {
			now := r.time(near)
			if now >= 0 && now < 1<<39 {
				near = now
			}
			switch {
			case r.roll(6) == 0:
				node := uint8(1 + r.roll(nodes))
				if r.roll(20) == 0 {
					node = pick(&r, nobody()...)
				}
				within := pick(&r, int64(0), 1, 3, 8, 8, 20, 20, 20, 20, api.MaxTime, -1, api.MaxTime+1)
				want := p.set(node, within)
				if errno := w.Set(node, within); errno != want {
					t.Errorf("Set(%d, %d): %d, want %d", node, within, errno, want)
				}
				errors[want]++
			case r.roll(6) == 0:
				want := p.tick(now)
				loses(t, w, now, want...)
				kinds[heart.Gone] += len(want)
				if len(want) > 1 {
					several++
				}
			default:
				f := r.beat(nodes)
				text, errno := frame.Write(f)
				if errno != api.OK {
					t.Fatalf("%v is no frame", f)
				}
				want := p.hear(text, now)
				if e, ok := w.Hear(f, now); e != want || ok != (want.Kind != 0) {
					t.Errorf("Hear(%s, %d): %v, %t, want %v", text, now, e, ok, want)
				}
				kinds[want.Kind]++
			}
			p.shows(t, w)
		}
		if t.Failed() {
			t.Fatalf("seed %d", seed)
		}
	}
	for kind := range heart.Gone + 1 {
		if kinds[kind] < 500 {
			t.Errorf("kind %d was told only %d times", kind, kinds[kind])
		}
	}
	if errors[api.OK] < 1000 || errors[api.ErrArg] < 500 || errors[api.ErrLimit] < 50 || several < 200 {
		t.Errorf("answers of Set: %v; %d times several were gone at once", errors, several)
	}
}

// All rows of five calls of a watch of two nodes, at times that go on by a tick.
func TestAllRows(t *testing.T) { // P18.2, P18.3, P18.4, P18.5
	calls := []string{"tick", "705#00", "705#05", "706#05", "set 5", "set 6", "no 5", "wait"}
	for row := range 8 * 8 * 8 * 8 * 8 {
		p, w := plainWatch{}, heart.NewWatch()
		p.set(5, 2)
		w.Set(5, 2)
		now := int64(0)
		for n, k := row, 0; k < 5; n, k = n/8, k+1 {
			switch call := calls[n%8]; call {
			case "tick":
				loses(t, w, now, p.tick(now)...)
			case "set 5":
				p.set(5, 3)
				watches(t, w, 5, 3)
			case "set 6":
				p.set(6, 1)
				watches(t, w, 6, 1)
			case "no 5":
				p.set(5, 0)
				watches(t, w, 5, 0)
			case "wait":
				now++
			default:
				want := p.hear(call, now)
				if e, ok := w.Hear(read(t, call), now); e != want || ok != (want.Kind != 0) {
					t.Fatalf("row %d: Hear(%s): %v, %t, want %v", row, call, e, ok, want)
				}
			}
			now++
		}
		p.shows(t, w)
		if t.Failed() {
			t.Fatalf("row %d", row)
		}
	}
}

// A node that beats more often than it may be silent is never gone, one that beats less often is gone once each time.
func TestBeaterAndWatch(t *testing.T) { // P18.6
	for period := int64(1); period <= 12; period++ {
		for within := int64(1); within <= 12; within++ {
			b, w := beating(t, 5, period, 0), watching(t, within, 5)
			came, lost := 0, 0
			for now := int64(0); now < 20*period; now++ {
				if f, ok := b.Tick(now, api.Operational); ok {
					if e, is := w.Hear(f, now); is && e.Kind == heart.Came {
						came++
					}
				}
				lost += len(w.Tick(now))
			}
			want := 1
			if within < period {
				want = 20
			}
			wantLost := want
			if period <= within {
				wantLost = 0
			}
			if came != want || lost != wantLost {
				t.Errorf("period %d, within %d: came %d times, gone %d times", period, within, came, lost)
			}
		}
	}
}

// One that is silent is gone once, at the first tick at which it may not be silent any more.
func TestGoneOnce(t *testing.T) { // P18.6
	for step := int64(1); step < 15; step++ { // ticks are told each so many
		w := watching(t, 10, 5)
		hears(t, w, 5, 4, 3, heart.Came)
		first := (13 + step - 1) / step * step // the first multiple at which it may not be
		for now := int64(0); now < 200; now += step {
			if now == first {
				loses(t, w, now, gone(5, 4))
			} else {
				loses(t, w, now)
			}
		}
	}
}

// Came and Gone take turns, whatever is heard and lost, and what is told between names a node that came.
func TestTurns(t *testing.T) { // P18.6
	turns := 0
	for seed := range 300 {
		r := dice(5000 + seed)
		w := watching(t, 6, 1, 2, 3)
		var here [4]bool
		tell := func(e heart.Event) {
			if is := here[e.Node]; is == (e.Kind == heart.Came) {
				t.Errorf("seed %d: %v, though here is %t", seed, e, is)
			}
			if e.Kind == heart.Came || e.Kind == heart.Gone {
				turns++
				here[e.Node] = e.Kind == heart.Came
			}
		}
		near := int64(0)
		for range 300 {
			now := r.time(near)
			if now >= 0 && now < 1<<39 {
				near = now
			}
			if r.roll(3) == 0 {
				for _, e := range w.Tick(now) {
					tell(e)
				}
			} else if e, ok := w.Hear(r.beat(5), now); ok {
				tell(e)
			}
			for node := range here {
				if _, ok := w.State(uint8(node)); ok != here[node] {
					t.Errorf("seed %d: State(%d) tells %t, though here is %t", seed, node, ok, here[node])
				}
			}
		}
		if t.Failed() {
			t.FailNow()
		}
	}
	if turns < 3000 {
		t.Errorf("only %d turns", turns)
	}
}
