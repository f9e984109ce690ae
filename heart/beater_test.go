package heart_test

import (
	"testing"

	"campanile/api"
	"campanile/frame"
	"campanile/heart"
)

func TestNewBeater(t *testing.T) { // P18.1
	for n := range 256 {
		b, errno := heart.NewBeater(uint8(n))
		if n < 1 || n > 127 {
			if b != nil || errno != api.ErrArg {
				t.Errorf("NewBeater(%d): %v, %d, want ErrArg", n, b, errno)
			}
			continue
		}
		if b == nil || errno != api.OK {
			t.Fatalf("NewBeater(%d): %v, %d", n, b, errno)
		}
		neverDue(t, b)
		for _, now := range append(noTimes(), 0, 1, api.MaxTime) {
			for _, state := range states() {
				silent(t, b, now, state)
			}
		}
		neverDue(t, b)
	}
	for _, n := range nobody() {
		if b, errno := heart.NewBeater(n); b != nil || errno != api.ErrArg {
			t.Errorf("NewBeater(%d): %v, %d, want ErrArg", n, b, errno)
		}
	}
}

// Each node's beat of each state.
func TestBeats(t *testing.T) { // P18.1
	for n := 1; n <= 127; n++ {
		b := beating(t, uint8(n), 1, 0)
		for i, state := range states() {
			f, ok := b.Tick(int64(i), state)
			if want := beat(uint8(n), state); !ok || f != want || !frame.Right(f) {
				t.Errorf("beat of %d in %d: %v, %t, want %v", n, state, f, ok, want)
			}
		}
	}
	beats(t, beating(t, 1, 1, 0), 0, 0, "701#00")
	beats(t, beating(t, 127, 1, 0), 0, 127, "77F#7F")
	beats(t, beating(t, 0x31, 1, 0), 0, 4, "731#04")
}

// Two beaters share nothing.
func TestTwoBeaters(t *testing.T) { // P18.1
	a, b := beating(t, 5, 10, 0), beater(t, 5)
	neverDue(t, b)
	sets(t, b, 7, 20)
	due(t, a, 0)
	beats(t, a, 1, 5, "705#05")
	due(t, a, 11)
	due(t, b, 20)
}

func TestSetBeater(t *testing.T) { // P18.1
	for _, now := range []int64{0, 1, 5, api.MaxTime - 1, api.MaxTime} {
		for _, period := range []int64{1, 2, 1000, api.MaxTime - 1, api.MaxTime} {
			b := beating(t, 5, period, now)
			due(t, b, now)
			if now > 0 {
				silent(t, b, now-1, 5)
			}
			due(t, b, now)
			beats(t, b, now, 5, "705#05")
			due(t, b, now+period)
		}
		b := beating(t, 5, 0, now) // it is silent
		neverDue(t, b)
		for _, at := range []int64{0, now, api.MaxTime} {
			silent(t, b, at, 5)
		}
		neverDue(t, b)
	}
}

// Set anew it is due at once, with the new period, or silent.
func TestSetBeaterAnew(t *testing.T) { // P18.1
	b := beating(t, 5, 10, 3)
	beats(t, b, 3, 5, "705#05")
	due(t, b, 13)
	sets(t, b, 7, 5)
	due(t, b, 5)
	silent(t, b, 4, 5)
	beats(t, b, 5, 5, "705#05")
	due(t, b, 12)
	sets(t, b, 7, 2) // as it is, ahead of what was
	due(t, b, 2)
	beats(t, b, 2, 5, "705#05")
	due(t, b, 9)
	sets(t, b, 0, 9)
	neverDue(t, b)
	silent(t, b, 9, 5)
	silent(t, b, 100, 5)
	sets(t, b, 0, 10)
	neverDue(t, b)
	sets(t, b, 4, 8)
	due(t, b, 8)
	beats(t, b, 10, 5, "705#05")
	due(t, b, 14)
}

// What is refused changes nothing, of one that is silent, of one that was set, and behind a beat.
func TestSetBeaterRefused(t *testing.T) { // P18.1
	refused := func(b *heart.Beater) {
		t.Helper()
		for _, n := range noTimes() {
			for _, other := range append(noTimes(), 0, 1, 4, api.MaxTime) {
				if errno := b.Set(n, other); errno != api.ErrArg {
					t.Errorf("Set(%d, %d): %d, want ErrArg", n, other, errno)
				}
				if errno := b.Set(other, n); errno != api.ErrArg {
					t.Errorf("Set(%d, %d): %d, want ErrArg", other, n, errno)
				}
			}
		}
	}
	b := beater(t, 5)
	refused(b)
	neverDue(t, b)
	silent(t, b, 10, 5)
	sets(t, b, 10, 3)
	refused(b)
	due(t, b, 3)
	silent(t, b, 2, 5)
	beats(t, b, 7, 5, "705#05")
	refused(b)
	due(t, b, 17)
	silent(t, b, 16, 5)
	beats(t, b, 17, 5, "705#05")
	due(t, b, 27)
	sets(t, b, 0, 20)
	refused(b)
	neverDue(t, b)
	silent(t, b, 30, 5)
}

func TestTickBeater(t *testing.T) { // P18.1
	b := beating(t, 5, 10, 20)
	silent(t, b, 0, 5)
	silent(t, b, 19, 5)
	beats(t, b, 20, 4, "705#04") // when it is due
	silent(t, b, 20, 4)
	silent(t, b, 29, 4)
	due(t, b, 30)
	beats(t, b, 33, 127, "705#7F") // behind that by less than a period: those behind it are put off
	due(t, b, 43)
	silent(t, b, 40, 5)
	silent(t, b, 42, 5)
	beats(t, b, 43, 5, "705#05")
	beats(t, b, 63, 5, "705#05") // by a period
	due(t, b, 73)
	beats(t, b, 1000, 0, "705#00") // by more: those that were missed are not made up for
	silent(t, b, 1000, 0)
	due(t, b, 1010)
	silent(t, b, 1009, 0)
	beats(t, b, 1010, 0, "705#00")
	silent(t, b, 5, 0) // ahead of all that was
	due(t, b, 1020)
}

// Ticks that tell nothing change nothing.
func TestTickBeaterNothing(t *testing.T) { // P18.1
	b := beating(t, 5, 10, 20)
	for _, state := range states() {
		for _, now := range append(noTimes(), 0, 19) {
			silent(t, b, now, state)
			due(t, b, 20)
		}
	}
	for n := range 256 {
		if state := uint8(n); n != 0 && n != 4 && n != 5 && n != 127 {
			silent(t, b, 25, state)
			due(t, b, 20)
		}
	}
	for _, state := range noStates() {
		silent(t, b, 20, state)
		silent(t, b, 50, state)
	}
	due(t, b, 20)
	beats(t, b, 25, 5, "705#05")
	for _, now := range noTimes() {
		silent(t, b, now, 5)
	}
	due(t, b, 35)
}

// It may be due at a time that never comes.
func TestDueBeyondMaxTime(t *testing.T) { // P18.1
	b := beating(t, 5, 1, api.MaxTime)
	due(t, b, api.MaxTime)
	beats(t, b, api.MaxTime, 5, "705#05")
	due(t, b, api.MaxTime+1)
	silent(t, b, api.MaxTime, 5)
	silent(t, b, api.MaxTime+1, 5)
	silent(t, b, api.MaxTime+2, 5)
	due(t, b, api.MaxTime+1)

	b = beating(t, 5, api.MaxTime, 0)
	beats(t, b, 0, 5, "705#05")
	due(t, b, api.MaxTime)
	silent(t, b, api.MaxTime-1, 5)
	beats(t, b, api.MaxTime, 5, "705#05")
	due(t, b, 2*api.MaxTime)
	silent(t, b, 2*api.MaxTime, 5)
	sets(t, b, 3, 9) // but it may be set anew
	beats(t, b, 9, 5, "705#05")
}
