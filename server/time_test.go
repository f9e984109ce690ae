package server_test

import (
	"math"
	"testing"

	"campanile/api"
	"campanile/dict"
	"campanile/server"
)

// timesOut: nothing at the first time, the stop of the text at the second one, nothing behind it.
func timesOut(t *testing.T, s *server.Server, ahead, at int64) {
	t.Helper()
	if said := s.Tick(ahead); len(said) != 0 {
		t.Errorf("Tick(%d): %s", ahead, texts(said))
	}
	busy(t, s, text)
	if said := texts(s.Tick(at)); said != "8002200000000405" {
		t.Errorf("Tick(%d): %s", at, said)
	}
	idle(t, s)
	for _, now := range []int64{at, at + 1, api.MaxTime, math.MaxInt64} {
		if said := s.Tick(now); len(said) != 0 {
			t.Errorf("Tick(%d) again: %s", now, texts(said))
		}
	}
}

func TestTick(t *testing.T) { // P10.3
	for _, x := range states() {
		if x.waits == nothing {
			s, _ := made(t)
			for _, now := range []int64{math.MinInt64, -1, 0, wait, api.MaxTime, math.MaxInt64} {
				if said := s.Tick(now); len(said) != 0 {
					t.Errorf("Tick(%d): %s", now, texts(said))
				}
			}
			continue
		}
		for _, at := range []int64{wait, wait + 1, api.MaxTime, api.MaxTime + 1, math.MaxInt64} {
			s, d := x.reached(t)
			timesOut(t, s, wait-1, at)
			has(t, d, text, twenty)
		}
		s, d := x.reached(t)
		s.Tick(wait - 1) // a tick is nothing that was heard
		timesOut(t, s, math.MinInt64, wait)
		if d.Changes() != 0 {
			t.Errorf("%s: %d values were written", x.name, d.Changes())
		}
	}
}

// What is heard counts from when it is heard, forwards and backwards.
func TestLastTime(t *testing.T) { // P10.2, P10.3
	begin := asking(t, "C0 0220 00 00000000")
	for _, x := range []struct {
		heard []int64
		ahead int64 // the last time at which it waits
	}{
		{[]int64{0}, wait - 1},
		{[]int64{5}, 5 + wait - 1},
		{[]int64{5, 7}, 7 + wait - 1},
		{[]int64{100, 50}, 50 + wait - 1},
		{[]int64{-1}, wait - 1},
		{[]int64{math.MinInt64}, wait - 1},
		{[]int64{100, -100}, wait - 1},
		{[]int64{api.MaxTime - wait}, api.MaxTime - 1},
		{[]int64{api.MaxTime - wait - 1}, api.MaxTime - 2},
	} {
		for _, next := range []string{"01 " + seg, "09 " + seg, "00 " + seg, "87 " + seg, "81 " + seg} { // in its turn, left out, no number, the last ones
			s, _ := made(t)
			s.Hear(begin, x.heard[0])
			for _, now := range x.heard[1:] {
				s.Hear(asking(t, next), now)
			}
			timesOut(t, s, x.ahead, x.ahead+1)
		}
	}
}

// No time comes behind MaxTime: what was heard too near to it is waited for for ever.
func TestTimesNearMaxTime(t *testing.T) { // P10.3
	for _, heard := range []int64{api.MaxTime - wait + 1, api.MaxTime, api.MaxTime + 1, math.MaxInt64} {
		s, _ := made(t)
		s.Hear(asking(t, "C0 0220 00 00000000"), heard)
		for _, now := range []int64{api.MaxTime, api.MaxTime + 1, api.MaxTime + wait, math.MaxInt64} {
			if said := s.Tick(now); len(said) != 0 {
				t.Errorf("heard at %d, Tick(%d): %s", heard, now, texts(said))
			}
		}
		busy(t, s, text)
	}
}

func TestWaits(t *testing.T) { // P10.1, P10.3
	d, _ := dict.New(several())
	for _, w := range []int64{1, 2, 1000, api.MaxTime - 1, api.MaxTime} {
		s, _ := server.New(5, d, nil, w)
		s.Hear(asking(t, "40 0220 00 00000000"), 0)
		timesOut(t, s, w-1, w)
	}
	s, _ := server.New(5, d, nil, api.MaxTime)
	s.Hear(asking(t, "40 0220 00 00000000"), 1)
	if said := s.Tick(math.MaxInt64); len(said) != 0 {
		t.Errorf("%s", texts(said))
	}
}

// A transfer's last time is its own, not that of one ahead of it.
func TestTimeOfTheNextTransfer(t *testing.T) { // P10.2, P10.3
	s, _ := made(t)
	s.Hear(asking(t, "40 0220 00 00000000"), 500)
	s.Hear(asking(t, "80 0000 00 00000000"), 600)
	s.Hear(asking(t, "40 0220 00 00000000"), 3)
	timesOut(t, s, 3+wait-1, 3+wait)
}
