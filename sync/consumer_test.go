package sync_test

import (
	"math"
	"testing"

	"campanile/api"
	"campanile/sync"
)

// beatOf tells the frame of a beat of the ID 80.
func beatOf(number uint8) api.Frame {
	return api.Frame{ID: 0x80, Len: 1, Data: [8]byte{number}}
}

// followed holds whether NewConsumer takes what it is given.
func followed(t *testing.T, id uint16, window int64, top uint8, want bool) {
	t.Helper()
	c, errno := sync.NewConsumer(id, window, top)
	switch {
	case want && (errno != api.OK || c == nil):
		t.Errorf("NewConsumer(%x, %d, %d): %v, %d", id, window, top, c, errno)
	case !want && (errno != api.ErrArg || c != nil):
		t.Errorf("NewConsumer(%x, %d, %d): %v, %d, want ErrArg", id, window, top, c, errno)
	}
}

func TestNewConsumer(t *testing.T) { // P15.3
	for _, id := range []uint16{0, 1, 0x80, 0x7FE, 0x7FF} {
		followed(t, id, 10, 3, true)
		followed(t, id, 10, 0, true)
	}
	for _, id := range []uint16{0x800, 0x801, 0x880, 0xFFFF} {
		followed(t, id, 10, 3, false)
		followed(t, id, 10, 0, false)
	}
	for _, window := range []int64{0, 1, api.MaxTime - 1, api.MaxTime} {
		followed(t, 0x80, window, 3, true)
	}
	for _, window := range noTimes() {
		followed(t, 0x80, window, 3, false)
	}
	for top := range 256 {
		followed(t, 0x80, 10, uint8(top), rightTop(top))
	}
	followed(t, 0x800, -1, 1, false)
}

// A new consumer has heard nothing, lost nothing, taken nothing as wrong.
func TestNewHasHeardNothing(t *testing.T) { // P15.3, P15.4
	c := consumer(t, 0x80, 4, 3)
	counts(t, c, 0, 0)
	opens(t, c, 0, false)
}

func TestNilConsumer(t *testing.T) { // P15.4
	var c *sync.Consumer
	for _, now := range append(noTimes(), 0, 10, api.MaxTime) {
		deaf(t, c, beatOf(1), now)
		deaf(t, c, api.Frame{}, now)
		deaf(t, c, api.Frame{ID: 0x80, Len: -1}, now)
		opens(t, c, now, false)
		counts(t, c, 0, 0)
	}
}

// One that is made by hand panics at nothing.
func TestConsumerByHand(t *testing.T) { // P15.3, P15.4
	var c sync.Consumer
	for _, now := range append(noTimes(), 0, 10, api.MaxTime) {
		c.Hear(beatOf(1), now)
		c.Hear(api.Frame{}, now)
		c.Hear(api.Frame{Len: math.MaxInt, Data: [8]byte{1}}, now)
		c.Open(now)
		c.Lost()
		c.Wrong()
	}
}

// All numbers from 1 on up to the greatest one are of the beat, the others are wrong.
func TestHearNumbers(t *testing.T) { // P15.3
	for top := range 256 {
		if top == 0 || !rightTop(top) {
			continue
		}
		for number := range 256 {
			c := consumer(t, 0x80, 4, uint8(top))
			if number >= 1 && number <= top {
				hears(t, c, beatOf(uint8(number)), 5, uint8(number))
				counts(t, c, 0, 0) // the first one that is heard: no number is lost ahead of it
				opens(t, c, 5, true)
			} else {
				deaf(t, c, beatOf(uint8(number)), 5)
				counts(t, c, 0, 1)
				opens(t, c, 5, false)
			}
		}
	}
}

func TestHearNoNumbers(t *testing.T) { // P15.3
	c := consumer(t, 0x80, 4, 0)
	for now := range int64(20) {
		hears(t, c, read(t, "080#"), 10*now, 0)
		opens(t, c, 10*now+4, true)
		opens(t, c, 10*now+5, false)
	}
	counts(t, c, 0, 0) // nothing counts, nothing is lost
}

// notHeard are frames, times that no consumer of the ID 80 and the greatest number 3 hears: neither right nor wrong.
func notHeard() ([]api.Frame, []int64) {
	var l []api.Frame
	for _, id := range []uint16{0, 0x7F, 0x81, 0x7FF, 0x880, 0x8080, 0xFFFF} {
		l = append(l, api.Frame{ID: id}, api.Frame{ID: id, Len: 1, Data: [8]byte{1}}, api.Frame{ID: id, Len: 1, Data: [8]byte{9}})
	}
	for n := -1; n <= 9; n++ {
		l = append(l, api.Frame{ID: 0x80, Len: n, Remote: true}, api.Frame{ID: 0x80, Len: n, Remote: true, Data: [8]byte{1}})
	}
	return l, noTimes()
}

// What is not heard changes nothing: neither Lost nor Wrong, nor when it was heard last, nor which number.
func TestNotHeard(t *testing.T) { // P15.3
	frames, times := notHeard()
	for _, top := range []uint8{0, 3} {
		c := consumer(t, 0x80, 4, top)
		right := map[uint8]string{0: "080#", 3: "080#02"}[top]
		silent := func(lost, wrong, last int64) {
			t.Helper()
			for _, f := range frames {
				deaf(t, c, f, 12)
			}
			for _, now := range times {
				deaf(t, c, read(t, right), now)
				deaf(t, c, read(t, "080#09"), now)
				deaf(t, c, read(t, "080#0102"), now)
			}
			counts(t, c, lost, wrong)
			opens(t, c, last-1, false)
			opens(t, c, last, last >= 0)
			opens(t, c, last+4, last >= 0)
			opens(t, c, last+5, false)
			opens(t, c, 16, false)
		}
		silent(0, 0, -100)
		hears(t, c, read(t, right), 10, top/2*2) // 0 or 2
		silent(0, 0, 10)
		deaf(t, c, read(t, "080#07"), 11)
		silent(0, 1, 10)
		if top == 3 {
			hears(t, c, read(t, "080#03"), 20, 3) // the next one behind 2
			counts(t, c, 0, 1)
		}
	}
}

// wrongs are frames of the ID 80 that are no beat of the greatest number 3, and those that are none of a beat that is not counted.
func wrongs() map[uint8][]api.Frame {
	of := func(n int, data ...byte) api.Frame {
		f := api.Frame{ID: 0x80, Len: n}
		copy(f.Data[:], data)
		return f
	}
	both := []api.Frame{of(2, 1), of(2, 1, 2), of(2), of(3, 1, 0, 0), of(8, 1), of(8, 1, 2, 3, 4, 5, 6, 7, 8), // more bytes
		of(-1), of(-1, 1), of(9, 1), of(257, 1), of(math.MinInt, 1), of(math.MaxInt, 1), // no right frames
		of(1, 1, 2), of(1, 1, 0, 0, 0, 0, 0, 0, 1), of(0, 1), of(0, 0, 0, 0, 0, 0, 0, 0, 1), // bytes behind its length
		of(1, 0), of(1, 4), of(1, 240), of(1, 241), of(1, 255)} // numbers
	return map[uint8][]api.Frame{
		3: append([]api.Frame{of(0)}, both...),
		0: append([]api.Frame{of(1, 1), of(1, 2), of(1, 3)}, both...),
	}
}

// What is wrong changes Wrong alone.
func TestWrong(t *testing.T) { // P15.3
	for top, frames := range wrongs() {
		c := consumer(t, 0x80, 4, top)
		for i, f := range frames {
			deaf(t, c, f, 3)
			counts(t, c, 0, int64(i+1))
			opens(t, c, 3, false)
		}
		right := beatOf(2)
		if top == 0 {
			right = read(t, "080#")
		}
		hears(t, c, right, 10, right.Data[0])
		for i, f := range frames {
			deaf(t, c, f, 13)
			counts(t, c, 0, int64(len(frames)+i+1))
			opens(t, c, 9, false)
			opens(t, c, 10, true)
			opens(t, c, 14, true)
			opens(t, c, 15, false)
		}
		if top == 3 {
			hears(t, c, beatOf(3), 20, 3)
			counts(t, c, 0, int64(2*len(frames)))
		}
	}
}

// lostBetween counts the numbers that lie between two, one by one.
func lostBetween(last, number, top int) int64 {
	lost := int64(0)
	for n := last%top + 1; n != number; n = n%top + 1 {
		lost++
	}
	return lost
}

func TestLost(t *testing.T) { // P15.3
	for _, k := range []struct {
		top, last, number uint8
		lost              int64
	}{
		{3, 1, 2, 0}, {3, 2, 3, 0}, {3, 3, 1, 0}, // the next one, 1 behind the greatest one
		{3, 1, 1, 2}, {3, 2, 2, 2}, {3, 3, 3, 2}, // the same one again
		{3, 1, 3, 1}, {3, 2, 1, 1}, {3, 3, 2, 1}, // one further
		{2, 1, 2, 0}, {2, 2, 1, 0}, {2, 1, 1, 1}, {2, 2, 2, 1},
		{240, 239, 240, 0}, {240, 240, 1, 0}, {240, 240, 240, 239}, {240, 1, 1, 239}, {240, 1, 240, 238}, {240, 240, 239, 238}, {240, 2, 1, 238},
	} {
		c := consumer(t, 0x80, 4, k.top)
		hears(t, c, beatOf(k.last), 5, k.last)
		hears(t, c, beatOf(k.number), 6, k.number)
		counts(t, c, k.lost, 0)
	}
}

// Of each greatest number, of each number behind each other: as many are lost as are counted one by one.
func TestLostOfAll(t *testing.T) { // P15.3
	for _, top := range []int{2, 3, 4, 7, 100, 239, 240} {
		c := consumer(t, 0x80, 4, uint8(top))
		hears(t, c, beatOf(1), 0, 1)
		lost, last := int64(0), 1
		for first := 1; first <= top; first++ {
			for second := 1; second <= top; second++ {
				hears(t, c, beatOf(uint8(first)), 0, uint8(first))
				hears(t, c, beatOf(uint8(second)), 0, uint8(second))
				lost += lostBetween(last, first, top) + lostBetween(first, second, top)
				last = second
			}
		}
		counts(t, c, lost, 0)
	}
}

// Time makes no number lost: it may stand, and go back.
func TestLostAtAnyTime(t *testing.T) { // P15.3
	c := consumer(t, 0x80, 4, 3)
	for i, now := range []int64{5, 5, 1000, 3, api.MaxTime, 0} {
		hears(t, c, beatOf(uint8(i%3+1)), now, uint8(i%3+1))
	}
	counts(t, c, 0, 0)
}

func TestOpen(t *testing.T) { // P15.4
	c := consumer(t, 0x80, 4, 3)
	for _, now := range append(noTimes(), 0, 5, api.MaxTime) {
		opens(t, c, now, false) // ahead of the first beat
	}
	hears(t, c, beatOf(1), 5, 1)
	for now := range int64(30) {
		opens(t, c, now, now >= 5 && now <= 9)
	}
	hears(t, c, beatOf(2), 20, 2)
	for now := range int64(30) {
		opens(t, c, now, now >= 20 && now <= 24)
	}
	hears(t, c, beatOf(3), 7, 3) // heard last is what was called last
	for now := range int64(30) {
		opens(t, c, now, now >= 7 && now <= 11)
	}
	for _, now := range append(noTimes(), api.MaxTime) {
		opens(t, c, now, false)
	}
}

// A window of 0 is always open, at each time.
func TestAlwaysOpen(t *testing.T) { // P15.4
	for _, top := range []uint8{0, 3} {
		c := consumer(t, 0x80, 0, top)
		always := func() {
			t.Helper()
			for _, now := range []int64{0, 1, 5, 6, 1000, api.MaxTime} {
				opens(t, c, now, true)
			}
			for _, now := range noTimes() {
				opens(t, c, now, false)
			}
		}
		always()
		c.Hear(beatOf(1), 5)
		always()
		c.Hear(read(t, "080#"), 5)
		always()
	}
}

func TestWindows(t *testing.T) { // P15.4
	c := consumer(t, 0x80, 1, 3)
	hears(t, c, beatOf(1), 0, 1)
	opens(t, c, 0, true)
	opens(t, c, 1, true)
	opens(t, c, 2, false)

	c = consumer(t, 0x80, api.MaxTime, 3)
	opens(t, c, 0, false)
	hears(t, c, beatOf(1), 0, 1)
	opens(t, c, 0, true)
	opens(t, c, api.MaxTime, true)
	opens(t, c, -1, false)
	opens(t, c, api.MaxTime+1, false)
	hears(t, c, beatOf(2), api.MaxTime, 2)
	opens(t, c, api.MaxTime, true)
	opens(t, c, api.MaxTime-1, false)
	opens(t, c, api.MaxTime+1, false)
}

// Asking changes nothing.
func TestConsumerOnlyAsked(t *testing.T) { // P15.4
	c := consumer(t, 0x80, 4, 3)
	hears(t, c, beatOf(1), 5, 1)
	deaf(t, c, beatOf(9), 5)
	for range 3 {
		opens(t, c, 3, false)
		opens(t, c, 9, true)
		opens(t, c, 10, false)
		counts(t, c, 0, 1)
	}
	hears(t, c, beatOf(3), 6, 3)
	counts(t, c, 1, 1)
}

// Consumers have nothing in common.
func TestConsumersApart(t *testing.T) { // P15.3, P15.4
	a, b := consumer(t, 0x80, 4, 3), consumer(t, 0x80, 4, 3)
	hears(t, a, beatOf(1), 5, 1)
	hears(t, a, beatOf(1), 5, 1)
	deaf(t, a, beatOf(0), 5)
	counts(t, a, 2, 1)
	counts(t, b, 0, 0)
	opens(t, b, 5, false)
}
