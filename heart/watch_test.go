package heart_test

import (
	"testing"

	"campanile/api"
	"campanile/heart"
)

func TestTickWatch(t *testing.T) { // P18.4
	for _, state := range states() {
		for _, within := range []int64{1, 2, 10, 1 << 33} {
			for _, at := range []int64{0, 1, 77, 1 << 35} {
				w := watching(t, within, 5)
				hears(t, w, 5, state, at, heart.Came)
				loses(t, w, 0)
				loses(t, w, at)
				loses(t, w, at+within-1) // just ahead of when it may not be silent any more
				shows(t, w, 5, state)
				loses(t, w, at+within, gone(5, state)) // at that time
				showsNothing(t, w, 5)
				loses(t, w, at+within) // again
				loses(t, w, at+within+1)
				loses(t, w, api.MaxTime)
				showsNothing(t, w, 5)
			}
		}
	}
}

// The first tick behind that time, however late, tells it.
func TestTickWatchLate(t *testing.T) { // P18.4
	for _, now := range []int64{14, 1000, api.MaxTime} {
		w := watching(t, 10, 5)
		hears(t, w, 5, 4, 3, heart.Came)
		loses(t, w, now, gone(5, 4))
		loses(t, w, now)
	}
}

// A tick may lie ahead of when the node was heard.
func TestTickWatchAhead(t *testing.T) { // P18.4
	w := watching(t, 10, 5)
	hears(t, w, 5, 4, 100, heart.Came)
	loses(t, w, 0)
	loses(t, w, 99)
	shows(t, w, 5, 4)
	due(t, w, 110)
	w = watching(t, 10, 5)
	hears(t, w, 5, 4, api.MaxTime, heart.Came)
	loses(t, w, 0)
	loses(t, w, api.MaxTime)
	shows(t, w, 5, 4)
}

// The last state is told.
func TestTickWatchLastState(t *testing.T) { // P18.4
	w := watching(t, 10, 5)
	hears(t, w, 5, 0, 0, heart.Came)
	hears(t, w, 5, 127, 1, heart.Changed)
	hears(t, w, 5, 5, 2, heart.Changed)
	hearsSame(t, w, 5, 5, 3)
	loses(t, w, 13, gone(5, 5))
	hears(t, w, 5, 4, 14, heart.Came)
	loses(t, w, 24, gone(5, 4))
}

// Several nodes at once are told by their numbers, in whatever order they were set and heard.
func TestTickWatchSeveral(t *testing.T) { // P18.4
	w := watching(t, 10, 127, 3, 64, 1, 5)
	for i, node := range []uint8{64, 127, 1, 5} { // 3 is unheard
		hears(t, w, node, states()[i], int64(i), heart.Came)
	}
	loses(t, w, 9)
	loses(t, w, 12, gone(1, 5), gone(64, 0), gone(127, 4))
	showsNothing(t, w, 1, 3, 64, 127)
	shows(t, w, 5, 127)
	hears(t, w, 64, 4, 12, heart.Came)
	hears(t, w, 3, 4, 12, heart.Came)
	loses(t, w, 13, gone(5, 127))
	loses(t, w, 22, gone(3, 4), gone(64, 4))
	loses(t, w, 23)
}

// Each of 16 is gone at its own time, or all at once.
func TestTickWatchAll(t *testing.T) { // P18.4
	w := heart.NewWatch()
	var all []heart.Event
	for n := uint8(16); n > 0; n-- {
		watches(t, w, 7*n, 100-int64(n))
	}
	for round := range 2 {
		all = nil
		for n := uint8(1); n <= 16; n++ {
			hears(t, w, 7*n, 5, 0, heart.Came)
			all = append(all, gone(7*n, 5))
		}
		if round == 0 {
			loses(t, w, 99, all...)
		}
	}
	loses(t, w, 83)
	for n := 16; n > 0; n-- {
		loses(t, w, 100-int64(n), all[n-1])
		shown := 0
		for node := range 256 {
			if _, ok := w.State(uint8(node)); ok {
				shown++
			}
		}
		if shown != n-1 {
			t.Errorf("%d nodes are here, want %d", shown, n-1)
		}
	}
	loses(t, w, api.MaxTime)
}

// One that is unheard is never gone.
func TestTickWatchUnheard(t *testing.T) { // P18.4
	w := watching(t, 1, 5, 6)
	for _, now := range []int64{0, 1, 2, 100, api.MaxTime} {
		loses(t, w, now)
		showsNothing(t, w, 5, 6)
	}
	hears(t, w, 5, 5, 0, heart.Came)
	loses(t, w, api.MaxTime, gone(5, 5))
}

func TestTickWatchAtNoTime(t *testing.T) { // P18.4
	w := watching(t, 10, 5)
	hears(t, w, 5, 4, 3, heart.Came)
	for _, now := range noTimes() {
		loses(t, w, now)
		shows(t, w, 5, 4)
		due(t, w, 13)
	}
	loses(t, w, 13, gone(5, 4))
}

// A time that never comes lets nothing be gone.
func TestTickWatchBeyondMaxTime(t *testing.T) { // P18.4, P18.5
	w := watching(t, 10, 5)
	hears(t, w, 5, 4, api.MaxTime-9, heart.Came)
	due(t, w, api.MaxTime+1)
	loses(t, w, api.MaxTime)
	loses(t, w, api.MaxTime+1)
	shows(t, w, 5, 4)
	hears(t, w, 5, 5, api.MaxTime-10, heart.Changed)
	due(t, w, api.MaxTime)
	loses(t, w, api.MaxTime, gone(5, 5))
	watches(t, w, 5, api.MaxTime)
	hears(t, w, 5, 5, api.MaxTime, heart.Came)
	due(t, w, 2*api.MaxTime)
	loses(t, w, 2*api.MaxTime)
	shows(t, w, 5, 5)
	hears(t, w, 5, 4, 0, heart.Changed)
	loses(t, w, api.MaxTime-1)
	loses(t, w, api.MaxTime, gone(5, 4))
}

func TestState(t *testing.T) { // P18.5
	w := watching(t, 10, 5, 127)
	showsNothing(t, w, 5, 127) // unheard
	hears(t, w, 5, 0, 1, heart.Came)
	shows(t, w, 5, 0)
	shows(t, w, 5, 0) // asking changes nothing
	hears(t, w, 127, 127, 1, heart.Came)
	for n := range 256 { // not watched
		if n != 5 && n != 127 {
			showsNothing(t, w, uint8(n))
		}
	}
	loses(t, w, 11, gone(5, 0), gone(127, 127))
	showsNothing(t, w, 5, 127) // gone
	hears(t, w, 5, 4, 12, heart.Came)
	showsNothing(t, w, 127)
}

func TestDueWatch(t *testing.T) { // P18.5
	w := heart.NewWatch()
	neverDue(t, w)
	watches(t, w, 5, 30)
	watches(t, w, 1, 10)
	watches(t, w, 9, 20)
	watches(t, w, 7, 1)
	neverDue(t, w) // none was heard
	hears(t, w, 5, 5, 2, heart.Came)
	due(t, w, 32)
	hears(t, w, 1, 5, 50, heart.Came)
	due(t, w, 32)
	hears(t, w, 9, 5, 3, heart.Came)
	due(t, w, 23)
	due(t, w, 23) // asking changes nothing
	loses(t, w, 23, gone(9, 5))
	due(t, w, 32)
	hearsSame(t, w, 5, 5, 40)
	due(t, w, 60)
	hearsSame(t, w, 5, 5, 30)
	due(t, w, 60)
	hearsSame(t, w, 1, 5, 51)
	due(t, w, 60)
	loses(t, w, 60, gone(5, 5))
	due(t, w, 61)
	loses(t, w, 61, gone(1, 5))
	neverDue(t, w) // all of them are gone
	hears(t, w, 9, 5, 0, heart.Came)
	due(t, w, 20)
	watches(t, w, 9, 0)
	neverDue(t, w)
}

// The least time may be 0 and 1 and is any node's.
func TestDueWatchLeast(t *testing.T) { // P18.5
	nodes := []uint8{1, 2, 64, 126, 127}
	for i := range nodes {
		w := watching(t, 10, nodes...)
		for j, node := range nodes {
			at := int64(5)
			if i == j {
				at = 0
			}
			hears(t, w, node, 5, at, heart.Came)
		}
		due(t, w, 10)
		loses(t, w, 10, gone(nodes[i], 5))
		due(t, w, 15)
	}
	w := watching(t, 1, 5)
	hears(t, w, 5, 5, 0, heart.Came)
	due(t, w, 1)
}

// What is told may be written over; no call changes what another one told.
func TestToldIsNewMemory(t *testing.T) { // P18.4
	w := watching(t, 10, 5, 6)
	hears(t, w, 5, 5, 0, heart.Came)
	hears(t, w, 6, 4, 0, heart.Came)
	l := w.Tick(10)
	if len(l) != 2 {
		t.Fatal(l)
	}
	for i := range l {
		l[i] = heart.Event{Node: 99, Kind: 99, State: 99}
	}
	l = append(l[:0], heart.Event{}, heart.Event{})
	showsNothing(t, w, 5, 6)
	loses(t, w, 11)
	hears(t, w, 5, 4, 11, heart.Came)
	hears(t, w, 6, 5, 11, heart.Came)
	first := w.Tick(21)
	if len(first) != 2 || first[0] != gone(5, 4) || first[1] != gone(6, 5) {
		t.Fatal(first)
	}
	hears(t, w, 5, 0, 30, heart.Came)
	hears(t, w, 6, 0, 30, heart.Came)
	loses(t, w, 40, gone(5, 0), gone(6, 0))
	if first[0] != gone(5, 4) || first[1] != gone(6, 5) || l[0] != (heart.Event{}) {
		t.Errorf("a later call changed what was told: %v", first)
	}
}
