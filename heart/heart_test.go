package heart_test

import (
	"math"
	"slices"
	"testing"

	"campanile/api"
	"campanile/frame"
	"campanile/heart"
)

// states tells the four states.
func states() []uint8 {
	return []uint8{api.Booting, api.Stopped, api.Operational, api.PreOperational}
}

// noStates are bytes that are none; the last ones differ from a state in one bit.
func noStates() []uint8 { return []uint8{1, 2, 3, 6, 7, 0x0D, 0x3F, 0x7E, 0x80, 0x84, 0x85, 0xFF} }

// noTimes tells numbers of ticks that are no times.
func noTimes() []int64 {
	return []int64{math.MinInt64, -1, api.MaxTime + 1, 2 * api.MaxTime, math.MaxInt64}
}

// nobody are addresses that no node has.
func nobody() []uint8 { return []uint8{0, 128, 129, 133, 200, 254, 255} }

// read tells the frame of a text.
func read(t *testing.T, s string) api.Frame {
	t.Helper()
	f, errno := frame.Read(s)
	if errno != api.OK {
		t.Fatalf("no frame: %s", s)
	}
	return f
}

// beat tells a node's beat, byte by byte.
func beat(node, state uint8) api.Frame {
	return api.Frame{ID: 0x700 + uint16(node), Len: 1, Data: [8]byte{state}}
}

// beater tells a node's beater, which must be made.
func beater(t *testing.T, address uint8) *heart.Beater {
	t.Helper()
	b, errno := heart.NewBeater(address)
	if errno != api.OK || b == nil {
		t.Fatalf("NewBeater(%d): %v, %d", address, b, errno)
	}
	return b
}

// beating tells a beater that beats.
func beating(t *testing.T, address uint8, period, now int64) *heart.Beater {
	t.Helper()
	b := beater(t, address)
	sets(t, b, period, now)
	return b
}

func sets(t *testing.T, b *heart.Beater, period, now int64) {
	t.Helper()
	if errno := b.Set(period, now); errno != api.OK {
		t.Fatalf("Set(%d, %d): %d", period, now, errno)
	}
}

// beats holds the beat that Tick tells.
func beats(t *testing.T, b *heart.Beater, now int64, state uint8, want string) {
	t.Helper()
	if f, ok := b.Tick(now, state); !ok || f != read(t, want) {
		t.Errorf("Tick(%d, %d): %v, %t, want %s", now, state, f, ok, want)
	}
}

// silent holds that Tick tells nothing.
func silent(t *testing.T, b *heart.Beater, now int64, state uint8) {
	t.Helper()
	if f, ok := b.Tick(now, state); ok || f != (api.Frame{}) {
		t.Errorf("Tick(%d, %d): %v, %t, want nothing", now, state, f, ok)
	}
}

// isDue is what a beater and a watch tell alike.
type isDue interface{ Due() (int64, bool) }

func due(t *testing.T, x isDue, want int64) {
	t.Helper()
	if n, ok := x.Due(); n != want || !ok {
		t.Errorf("Due: %d, %t, want %d", n, ok, want)
	}
}

func neverDue(t *testing.T, x isDue) {
	t.Helper()
	if n, ok := x.Due(); n != 0 || ok {
		t.Errorf("Due: %d, %t, want nothing", n, ok)
	}
}

// watching tells a watch of nodes, each of which may be silent for so long.
func watching(t *testing.T, within int64, nodes ...uint8) *heart.Watch {
	t.Helper()
	w := heart.NewWatch()
	for _, node := range nodes {
		watches(t, w, node, within)
	}
	return w
}

func watches(t *testing.T, w *heart.Watch, node uint8, within int64) {
	t.Helper()
	if errno := w.Set(node, within); errno != api.OK {
		t.Fatalf("Set(%d, %d): %d", node, within, errno)
	}
}

// watchesNot holds that a Set is refused.
func watchesNot(t *testing.T, w *heart.Watch, node uint8, within int64, want api.Errno) {
	t.Helper()
	if errno := w.Set(node, within); errno != want {
		t.Errorf("Set(%d, %d): %d, want %d", node, within, errno, want)
	}
}

// hears holds what a beat tells, and the node's state behind it.
func hears(t *testing.T, w *heart.Watch, node, state uint8, now int64, kind uint8) {
	t.Helper()
	want := heart.Event{Node: node, Kind: kind, State: state}
	if e, ok := w.Hear(beat(node, state), now); e != want || !ok {
		t.Errorf("Hear of %d in %d at %d: %v, %t, want %v", node, state, now, e, ok, want)
	}
	shows(t, w, node, state)
}

// hearsSame holds that a beat tells nothing, but is heard.
func hearsSame(t *testing.T, w *heart.Watch, node, state uint8, now int64) {
	t.Helper()
	deaf(t, w, beat(node, state), now)
	shows(t, w, node, state)
}

// deaf holds that a frame tells nothing.
func deaf(t *testing.T, w *heart.Watch, f api.Frame, now int64) {
	t.Helper()
	if e, ok := w.Hear(f, now); e != (heart.Event{}) || ok {
		t.Errorf("Hear(%v, %d): %v, %t, want nothing", f, now, e, ok)
	}
}

// loses holds which nodes are gone at a time.
func loses(t *testing.T, w *heart.Watch, now int64, want ...heart.Event) {
	t.Helper()
	if l := w.Tick(now); !slices.Equal(l, want) {
		t.Errorf("Tick(%d): %v, want %v", now, l, want)
	}
}

// gone is the event of a node that is.
func gone(node, state uint8) heart.Event {
	return heart.Event{Node: node, Kind: heart.Gone, State: state}
}

func shows(t *testing.T, w *heart.Watch, node, want uint8) {
	t.Helper()
	if state, ok := w.State(node); state != want || !ok {
		t.Errorf("State(%d): %d, %t, want %d", node, state, ok, want)
	}
}

func showsNothing(t *testing.T, w *heart.Watch, nodes ...uint8) {
	t.Helper()
	for _, node := range nodes {
		if state, ok := w.State(node); state != 0 || ok {
			t.Errorf("State(%d): %d, %t, want nothing", node, state, ok)
		}
	}
}

// The chapter's examples.
func TestExamples(t *testing.T) { // P18.1 to P18.5
	b := beating(t, 5, 10, 3)
	silent(t, b, 2, 5)
	beats(t, b, 7, 5, "705#05")
	due(t, b, 17)

	w := heart.NewWatch()
	watches(t, w, 5, 20)
	for _, c := range []struct {
		frame string
		now   int64
		want  heart.Event
		ok    bool
	}{
		{"705#00", 1, heart.Event{Node: 5, Kind: heart.Came, State: 0}, true},
		{"705#7F", 4, heart.Event{Node: 5, Kind: heart.Changed, State: 127}, true},
		{"705#7F", 9, heart.Event{}, false},
		{"705#05", 12, heart.Event{Node: 5, Kind: heart.Changed, State: 5}, true},
	} {
		if e, ok := w.Hear(read(t, c.frame), c.now); e != c.want || ok != c.ok {
			t.Errorf("Hear(%s, %d): %v, %t, want %v", c.frame, c.now, e, ok, c.want)
		}
	}
	loses(t, w, 31)
	loses(t, w, 32, heart.Event{Node: 5, Kind: heart.Gone, State: 5})
	loses(t, w, 40)
	if e, ok := w.Hear(read(t, "705#05"), 50); e != (heart.Event{Node: 5, Kind: heart.Came, State: 5}) || !ok {
		t.Errorf("Hear at 50: %v, %t", e, ok)
	}
	deaf(t, w, read(t, "706#05"), 50)
}

// The numbers of the kinds.
func TestKinds(t *testing.T) { // P18.3, P18.4
	if heart.Came != 1 || heart.Changed != 2 || heart.Booted != 3 || heart.Gone != 4 {
		t.Errorf("kinds: %d, %d, %d, %d", heart.Came, heart.Changed, heart.Booted, heart.Gone)
	}
}

func TestNilBeater(t *testing.T) { // P18.1
	var b *heart.Beater
	for _, n := range append(noTimes(), 0, 1, api.MaxTime) {
		for _, now := range append(noTimes(), 0, 7, api.MaxTime) {
			if errno := b.Set(n, now); errno != api.ErrNil {
				t.Errorf("Set(%d, %d): %d, want ErrNil", n, now, errno)
			}
		}
		for _, state := range append(states(), noStates()...) {
			silent(t, b, n, state)
		}
	}
	neverDue(t, b)
}

func TestNilWatch(t *testing.T) { // P18.2 to P18.5
	var w *heart.Watch
	for _, node := range append(nobody(), 1, 5, 127) {
		for _, n := range append(noTimes(), 0, 7, api.MaxTime) {
			watchesNot(t, w, node, n, api.ErrNil)
			for _, state := range append(states(), noStates()...) {
				deaf(t, w, beat(node, state), n)
			}
			loses(t, w, n)
		}
		showsNothing(t, w, node)
	}
	neverDue(t, w)
}

// A beater that is made by hand has the address 0; a watch that is made by hand is one of no nodes.
func TestByHand(t *testing.T) { // P18.1, P18.2
	var b heart.Beater
	silent(t, &b, 0, 5)
	neverDue(t, &b)
	if errno := b.Set(-1, 0); errno != api.ErrArg {
		t.Errorf("Set(-1, 0): %d, want ErrArg", errno)
	}
	sets(t, &b, 10, 3)
	due(t, &b, 3)
	beats(t, &b, 4, 5, "700#05")
	due(t, &b, 14)

	var w heart.Watch
	showsNothing(t, &w, 0, 5, 127, 128, 255)
	neverDue(t, &w)
	deaf(t, &w, read(t, "705#05"), 0)
	loses(t, &w, 0)
	watches(t, &w, 5, 10)
	hears(t, &w, 5, 5, 0, heart.Came)
	loses(t, &w, 10, gone(5, 5))
}
