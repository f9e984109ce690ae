package heart_test

import (
	"testing"

	"campanile/api"
	"campanile/heart"
)

func TestNewWatch(t *testing.T) { // P18.2
	w := heart.NewWatch()
	if w == nil {
		t.Fatal("no watch")
	}
	for n := range 256 {
		showsNothing(t, w, uint8(n))
		for _, state := range states() {
			deaf(t, w, beat(uint8(n), state), 1)
		}
		showsNothing(t, w, uint8(n))
	}
	loses(t, w, api.MaxTime)
	neverDue(t, w)
	if heart.NewWatch() == w {
		t.Error("two watches are one")
	}
}

// Two watches share nothing.
func TestTwoWatches(t *testing.T) { // P18.2
	a, b := watching(t, 10, 5), watching(t, 20, 5, 6)
	hears(t, a, 5, 5, 1, heart.Came)
	showsNothing(t, b, 5)
	hears(t, b, 5, 4, 2, heart.Came)
	shows(t, a, 5, 5)
	due(t, a, 11)
	due(t, b, 22)
	watches(t, b, 5, 0)
	shows(t, a, 5, 5)
}

// Each node may be watched, at each time; which is how long it may be silent.
func TestSetWatch(t *testing.T) { // P18.2
	for n := 1; n <= 127; n++ {
		for _, within := range []int64{1, 2, 1000, api.MaxTime - 1, api.MaxTime} {
			w := watching(t, within, uint8(n))
			showsNothing(t, w, uint8(n))
			neverDue(t, w)
			hears(t, w, uint8(n), 5, 0, heart.Came)
			due(t, w, within)
			loses(t, w, within-1)
			loses(t, w, within, gone(uint8(n), 5))
		}
	}
}

// What is refused changes nothing: of a watch of no nodes, of one, and of as many as may be.
func TestSetWatchRefused(t *testing.T) { // P18.2
	w := heart.NewWatch()
	refused := func() {
		t.Helper()
		for _, within := range append(noTimes(), 0, 1, 7, api.MaxTime) {
			for _, node := range nobody() {
				watchesNot(t, w, node, within, api.ErrArg)
				showsNothing(t, w, node)
				deaf(t, w, beat(node, 5), 1)
				showsNothing(t, w, node)
			}
		}
		for n := 1; n <= 127; n++ {
			for _, within := range noTimes() {
				watchesNot(t, w, uint8(n), within, api.ErrArg)
			}
		}
	}
	refused()
	neverDue(t, w)
	watches(t, w, 5, 10)
	refused()
	hears(t, w, 5, 5, 3, heart.Came)
	refused()
	shows(t, w, 5, 5)
	due(t, w, 13)
	for n := 21; n < 36; n++ {
		watches(t, w, uint8(n), 10)
	}
	refused()
	watchesNot(t, w, 6, 10, api.ErrLimit)
	shows(t, w, 5, 5)
	due(t, w, 13)
	deaf(t, w, beat(6, 5), 4)
	hears(t, w, 35, 4, 4, heart.Came)
	loses(t, w, 12)
	loses(t, w, 13, gone(5, 5))
}

// 16 nodes may be watched, and no other one till one of them is not.
func TestSetWatchLimit(t *testing.T) { // P18.2
	for _, first := range []uint8{1, 50, 112} {
		w := heart.NewWatch()
		for n := range uint8(16) {
			watches(t, w, first+n, 10)
		}
		for n := 1; n <= 127; n++ {
			if node := uint8(n); node < first || node > first+15 {
				watchesNot(t, w, node, 10, api.ErrLimit)
				watchesNot(t, w, node, 1, api.ErrLimit)
				watchesNot(t, w, node, api.MaxTime, api.ErrLimit)
				watches(t, w, node, 0) // it is watched no more, as it was not
				watchesNot(t, w, node, 10, api.ErrLimit)
				deaf(t, w, beat(node, 5), 1)
				showsNothing(t, w, node)
			}
		}
		for n := range uint8(16) { // all of the others are
			hears(t, w, first+n, 5, int64(n), heart.Came)
		}
		for n := range uint8(16) { // they may be set anew
			watches(t, w, first+n, 20)
			showsNothing(t, w, first+n)
			hears(t, w, first+n, 5, 100, heart.Came)
		}
		due(t, w, 120)
		watches(t, w, first+3, 0)
		watches(t, w, first+3, 0) // twice makes no room for two
		watches(t, w, 30, 7)
		watchesNot(t, w, first+3, 10, api.ErrLimit)
		watchesNot(t, w, 31, 10, api.ErrLimit)
		showsNothing(t, w, first+3)
		hears(t, w, 30, 4, 100, heart.Came)
		due(t, w, 107)
	}
}

// Nodes that are gone, or unheard, are watched as well.
func TestSetWatchLimitGone(t *testing.T) { // P18.2
	w := heart.NewWatch()
	for n := uint8(1); n <= 16; n++ {
		watches(t, w, n, 10)
	}
	hears(t, w, 1, 5, 0, heart.Came)
	loses(t, w, 10, gone(1, 5))
	watchesNot(t, w, 17, 10, api.ErrLimit)
	watches(t, w, 1, 0)
	watches(t, w, 17, 10)
	watchesNot(t, w, 1, 10, api.ErrLimit)
}

// A node that is set anew is unheard, and may be silent for as long as was said last.
func TestSetWatchAnew(t *testing.T) { // P18.2
	w := watching(t, 10, 5, 6)
	hears(t, w, 5, 5, 1, heart.Came)
	hears(t, w, 6, 4, 1, heart.Came)
	for _, within := range []int64{10, 30} { // as it was, and another one
		watches(t, w, 5, within)
		showsNothing(t, w, 5)
		shows(t, w, 6, 4)
		due(t, w, 11)
		hears(t, w, 5, 5, 0, heart.Came)
		hearsSame(t, w, 5, 5, 2)
	}
	loses(t, w, 12, gone(6, 4)) // 5 may be silent till 32
	due(t, w, 32)
	loses(t, w, 32, gone(5, 5))
	watches(t, w, 5, 3) // one that is gone
	showsNothing(t, w, 5)
	neverDue(t, w)
	loses(t, w, 1000)
	hears(t, w, 5, 4, 5, heart.Came)
	due(t, w, 8)
	watches(t, w, 5, 3) // unheard, it is not gone
	loses(t, w, 8)
	loses(t, w, api.MaxTime)
	watches(t, w, 5, 4) // one that is unheard
	showsNothing(t, w, 5)
	neverDue(t, w)
}

// One that is watched no more is not heard, not gone, and has no state.
func TestSetWatchNoMore(t *testing.T) { // P18.2
	w := watching(t, 10, 5, 6)
	hears(t, w, 5, 5, 1, heart.Came)
	hears(t, w, 6, 4, 2, heart.Came)
	watches(t, w, 5, 0)
	showsNothing(t, w, 5)
	shows(t, w, 6, 4)
	due(t, w, 12)
	deaf(t, w, beat(5, 127), 3)
	showsNothing(t, w, 5)
	loses(t, w, 100, gone(6, 4))
	watches(t, w, 6, 0)
	showsNothing(t, w, 6)
	neverDue(t, w)
	deaf(t, w, beat(6, 4), 101)
	watches(t, w, 5, 10)
	neverDue(t, w)
	showsNothing(t, w, 5)
	hears(t, w, 5, 5, 200, heart.Came)
	showsNothing(t, w, 6)
}
