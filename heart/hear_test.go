package heart_test

import (
	"math"
	"testing"

	"campanile/api"
	"campanile/frame"
	"campanile/heart"
)

// The first beat of each node, in each state.
func TestHearFirst(t *testing.T) { // P18.3
	for n := 1; n <= 127; n++ {
		for _, state := range states() {
			w := watching(t, 10, uint8(n))
			hears(t, w, uint8(n), state, 3, heart.Came)
			due(t, w, 13)
		}
	}
}

// What each state behind each other one tells.
func TestHearPairs(t *testing.T) { // P18.3
	for _, first := range states() {
		for _, then := range states() {
			w := watching(t, 10, 5)
			hears(t, w, 5, first, 1, heart.Came)
			switch {
			case then == api.Booting: // behind Booting too
				hears(t, w, 5, then, 4, heart.Booted)
				hears(t, w, 5, then, 5, heart.Booted)
			case then != first:
				hears(t, w, 5, then, 4, heart.Changed)
				hearsSame(t, w, 5, then, 5)
			default:
				hearsSame(t, w, 5, then, 4)
				hearsSame(t, w, 5, then, 5)
			}
			due(t, w, 15)
			loses(t, w, 15, gone(5, then))
		}
	}
}

// One that is gone comes, whatever its state was, and is.
func TestHearGone(t *testing.T) { // P18.3
	for _, first := range states() {
		for _, then := range states() {
			w := watching(t, 10, 5)
			hears(t, w, 5, first, 1, heart.Came)
			loses(t, w, 11, gone(5, first))
			showsNothing(t, w, 5)
			hears(t, w, 5, then, 12, heart.Came)
			due(t, w, 22)
		}
	}
}

// A node that ought to be gone, but of which no tick has told so, is not.
func TestHearLate(t *testing.T) { // P18.3, P18.4
	w := watching(t, 10, 5)
	hears(t, w, 5, 5, 1, heart.Came)
	hearsSame(t, w, 5, 5, 100)
	due(t, w, 110)
	loses(t, w, 109)
	hears(t, w, 5, 0, 200, heart.Booted)
	hears(t, w, 5, 4, 300, heart.Changed)
	loses(t, w, 310, gone(5, 4))
}

// Of several nodes each has a state of its own.
func TestHearSeveral(t *testing.T) { // P18.3
	w := watching(t, 10, 1, 5, 127)
	hears(t, w, 5, 5, 1, heart.Came)
	showsNothing(t, w, 1, 127)
	hears(t, w, 127, 5, 1, heart.Came)
	hears(t, w, 1, 4, 1, heart.Came)
	hears(t, w, 5, 4, 2, heart.Changed)
	hearsSame(t, w, 1, 4, 3)
	hears(t, w, 127, 0, 3, heart.Booted)
	shows(t, w, 1, 4)
	shows(t, w, 5, 4)
	shows(t, w, 127, 0)
	showsNothing(t, w, 2, 0, 4, 6, 126, 128, 255)
}

// unchanged holds that a frame, which is no beat, tells nothing of a node that was heard at 20, and of one that is unheard.
func unchanged(t *testing.T, f api.Frame) {
	t.Helper()
	w := watching(t, 10, 5, 6)
	hears(t, w, 5, 4, 20, heart.Came)
	for _, now := range []int64{0, 20, 25, api.MaxTime} {
		deaf(t, w, f, now)
		shows(t, w, 5, 4)
		showsNothing(t, w, 6)
		due(t, w, 30)
	}
	loses(t, w, 29)
	loses(t, w, 30, gone(5, 4))
	deaf(t, w, f, 31)
	showsNothing(t, w, 5, 6)
	neverDue(t, w)
}

// Frames of other identifiers, even if but one bit, or the places of two bytes, differ.
func TestHearOtherIDs(t *testing.T) { // P18.3
	for id := range 0x10000 {
		f := api.Frame{ID: uint16(id), Len: 1, Data: [8]byte{5}}
		w := watching(t, 10, 5, 6)
		if id == 0x705 || id == 0x706 {
			hears(t, w, uint8(id), 5, 1, heart.Came)
			continue
		}
		deaf(t, w, f, 1)
		showsNothing(t, w, 5, 6)
		neverDue(t, w)
	}
	for _, id := range []uint16{0, 5, 0x85, 0x585, 0x605, 0x685, 0x700, 0x704, 0x707, 0x725, 0x785, 0x7FF, 0x805, 0xF05, 0x8705, 0xFFFF, 0x0507} {
		for _, state := range states() {
			unchanged(t, api.Frame{ID: id, Len: 1, Data: [8]byte{state}})
		}
	}
}

func TestHearNoBeats(t *testing.T) { // P18.3
	for _, text := range []string{"705#R1", "705#R0", "705#", "705#0500", "705#0505", "705#7F00", "705#0500000000000000", "705#R8"} {
		unchanged(t, read(t, text))
	}
	unchanged(t, api.Frame{})
	for n := range 256 {
		state := uint8(n)
		if n != 0 && n != 4 && n != 5 && n != 127 {
			unchanged(t, beat(5, state))
			unchanged(t, beat(6, state))
		}
		unchanged(t, api.Frame{ID: 0x705, Len: 1, Data: [8]byte{state}, Remote: true})
	}
	for _, state := range states() {
		for _, length := range []int{math.MinInt, -1, 0, 2, 3, 8, 9, 257, math.MaxInt} {
			unchanged(t, api.Frame{ID: 0x705, Len: length, Data: [8]byte{state}})
			unchanged(t, api.Frame{ID: 0x706, Len: length, Data: [8]byte{state}, Remote: true})
		}
		for place := 1; place < 8; place++ { // bytes behind its length
			f := beat(5, state)
			f.Data[place] = 1
			if frame.Right(f) {
				t.Errorf("%v is right", f)
			}
			unchanged(t, f)
		}
	}
}

// A node that is not watched is not heard.
func TestHearNotWatched(t *testing.T) { // P18.3
	w := watching(t, 10, 5)
	for n := range 256 {
		for _, state := range states() {
			if n != 5 {
				deaf(t, w, beat(uint8(n), state), 3)
			}
		}
		showsNothing(t, w, uint8(n))
	}
	neverDue(t, w)
	hears(t, w, 5, 0, 3, heart.Came)
}

func TestHearAtNoTime(t *testing.T) { // P18.3
	w := watching(t, 10, 5)
	for _, now := range noTimes() {
		for _, state := range states() {
			deaf(t, w, beat(5, state), now)
			showsNothing(t, w, 5)
			neverDue(t, w)
		}
	}
	hears(t, w, 5, 4, 3, heart.Came)
	for _, now := range noTimes() {
		for _, state := range states() {
			deaf(t, w, beat(5, state), now)
			shows(t, w, 5, 4)
			due(t, w, 13)
		}
	}
	loses(t, w, 13, gone(5, 4))
	for _, now := range noTimes() {
		deaf(t, w, beat(5, 4), now)
		showsNothing(t, w, 5)
	}
	hears(t, w, 5, 4, api.MaxTime, heart.Came)
}

// A node was heard last at the time of the last call, also if that lies ahead of the one before.
func TestHearAhead(t *testing.T) { // P18.3
	w := watching(t, 10, 5)
	hears(t, w, 5, 5, 50, heart.Came)
	hearsSame(t, w, 5, 5, 20)
	due(t, w, 30)
	loses(t, w, 29)
	hears(t, w, 5, 4, 0, heart.Changed)
	due(t, w, 10)
	hears(t, w, 5, 0, api.MaxTime, heart.Booted)
	due(t, w, api.MaxTime+10)
	hears(t, w, 5, 0, 7, heart.Booted)
	due(t, w, 17)
	loses(t, w, 17, gone(5, 0))
	hears(t, w, 5, 0, 3, heart.Came)
	due(t, w, 13)
}
