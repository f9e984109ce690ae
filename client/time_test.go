package client_test

import (
	"math"
	"testing"

	"campanile/api"
	"campanile/client"
)

// timesOut: nothing at the first time, the stop of the text at the second one, nothing behind it.
func timesOut(t *testing.T, c *client.Client, isWrite bool, ahead, at int64) {
	t.Helper()
	if asked := c.Tick(ahead); len(asked) != 0 {
		t.Errorf("Tick(%d): %s", ahead, texts(asked))
	}
	busy(t, c)
	if asked := texts(c.Tick(at)); asked != "8002200000000405" {
		t.Errorf("Tick(%d): %s", at, asked)
	}
	for _, now := range []int64{at, at + 1, api.MaxTime, math.MaxInt64} {
		if asked := c.Tick(now); len(asked) != 0 {
			t.Errorf("Tick(%d) again: %s", now, texts(asked))
		}
	}
	failed(t, c, isWrite, api.AbTimeout)
}

func TestTick(t *testing.T) { // P11.4
	for _, x := range states() {
		if x.waits == nothing {
			c := made(t)
			for _, now := range []int64{math.MinInt64, -1, 0, wait, api.MaxTime, math.MaxInt64} {
				if asked := c.Tick(now); len(asked) != 0 {
					t.Errorf("Tick(%d): %s", now, texts(asked))
				}
			}
			idle(t, c)
			continue
		}
		for _, at := range []int64{wait, wait + 1, api.MaxTime, api.MaxTime + 1, math.MaxInt64} {
			timesOut(t, x.reached(t), x.isWrite, wait-1, at)
		}
		c := x.reached(t)
		c.Tick(wait - 1) // a tick is nothing that was heard
		timesOut(t, c, x.isWrite, math.MinInt64, wait)
		c = x.reached(t)
		c.Tick(wait - 1)
		x.still(t, c)
	}
}

// A transfer waits from when it begins, and from when something is heard, forwards and backwards.
func TestLastTime(t *testing.T) { // P11.2, P11.3, P11.4
	for _, x := range []struct {
		times []int64 // the first one is when it begins
		ahead int64   // the last time at which it waits
	}{
		{[]int64{0}, wait - 1},
		{[]int64{5}, 5 + wait - 1},
		{[]int64{5, 7}, 7 + wait - 1},
		{[]int64{100, 50}, 50 + wait - 1},
		{[]int64{-1}, wait - 1},
		{[]int64{math.MinInt64}, wait - 1},
		{[]int64{100, -100}, wait - 1},
		{[]int64{100, math.MinInt64}, wait - 1},
		{[]int64{math.MaxInt64, 3}, 3 + wait - 1},
		{[]int64{api.MaxTime - wait}, api.MaxTime - 1},
		{[]int64{api.MaxTime - wait - 1}, api.MaxTime - 2},
		{[]int64{0, api.MaxTime - wait}, api.MaxTime - 1},
	} {
		for _, y := range []struct {
			isWrite bool
			mode    uint8
			heard   string
		}{
			{true, client.Segments, written},
			{false, client.Auto, sizeAnswer(-1)},
			{true, client.Blocks, "A4 0220 00 7F000000"},
			{false, client.Blocks, "C4 0220 00 00000000"},
		} {
			c := made(t)
			if y.isWrite {
				c.Write(text, some(9), y.mode, x.times[0])
			} else {
				c.Read(text, y.mode, x.times[0])
			}
			for _, now := range x.times[1:] {
				c.Hear(answering(t, y.heard), now)
			}
			timesOut(t, c, y.isWrite, x.ahead, x.ahead+1)
		}
	}
}

// Segments count as heard, also those that are left out.
func TestLastTimeOfSegments(t *testing.T) { // P11.3, P11.4
	for _, heard := range []string{"01 " + seg, "09 " + seg, "00 " + seg, "87 " + seg, "81 " + seg} { // in its turn, left out, no number, the last ones
		c := gets(t, false, -1)
		c.Hear(answering(t, heard), 7)
		timesOut(t, c, false, 7+wait-1, 7+wait)
	}
}

// No time comes behind MaxTime: what was heard too near to it is waited for for ever.
func TestTimesNearMaxTime(t *testing.T) { // P11.4
	for _, heard := range []int64{api.MaxTime - wait + 1, api.MaxTime, api.MaxTime + 1, math.MaxInt64} {
		c := made(t)
		c.Read(text, client.Auto, heard)
		for _, now := range []int64{api.MaxTime, api.MaxTime + 1, api.MaxTime + wait, math.MaxInt64} {
			if asked := c.Tick(now); len(asked) != 0 {
				t.Errorf("begun at %d, Tick(%d): %s", heard, now, texts(asked))
			}
		}
		busy(t, c)
	}
}

func TestWaits(t *testing.T) { // P11.1, P11.4
	for _, w := range []int64{1, 2, 1000, api.MaxTime - 1, api.MaxTime} {
		c, _ := client.New(5, w)
		c.Read(text, client.Auto, 0)
		timesOut(t, c, false, w-1, w)
	}
	c, _ := client.New(5, api.MaxTime)
	c.Read(text, client.Auto, 1)
	if asked := c.Tick(math.MaxInt64); len(asked) != 0 {
		t.Errorf("%s", texts(asked))
	}
}

// A transfer's last time is its own, not that of one ahead of it.
func TestTimeOfTheNextTransfer(t *testing.T) { // P11.2, P11.4
	c := made(t)
	c.Read(text, client.Auto, 500)
	c.Stop(0)
	c.Write(text, nil, client.Blocks, 3)
	timesOut(t, c, true, 3+wait-1, 3+wait)
}
