package produce_test

import (
	"fmt"
	"slices"
	"testing"

	"campanile/api"
	"campanile/mapping"
	"campanile/produce"
)

// spoilt overwrites a list, what lies behind its length included.
func spoilt[T any](l []T, with T) {
	l = l[:cap(l)]
	for i := range l {
		l[i] = with
	}
}

// What is handed in is only read, and not kept.
func TestArgumentsAreLeft(t *testing.T) { // P13.7
	for _, goes := range []bool{false, true} {
		p, d := made(t)
		if goes {
			p.Start(0)
		}
		room := slices.Repeat(row(to(99)), 6)
		room[1], room[2] = to(1), to(2)
		before := slices.Clone(room)
		if code := p.Set(0, timed(0, 0), room[1:3]); code != 0 {
			t.Fatalf("Set: %x", code)
		}
		p.Set(1, timed(0, 0), room[:4])
		p.Set(9, timed(0, 0), room[:4])
		p.Comm(0)
		p.Start(0)
		p.Tick(0)
		if !slices.Equal(room, before) {
			t.Errorf("the mapping is %v now", room)
		}
		spoilt(room, to(5))
		has(t, p, 0, timed(0, 0), to(1), to(2))
		put(t, d, 5, 1)
		put(t, d, 2, 7)
		ticks(t, p, 1, "181#0007")
	}
}

// What is answered is new memory: whoever spoils it spoils nothing.
func TestAnswersAreNew(t *testing.T) { // P13.7
	p, d := made(t)
	set(t, p, 0, timed(0, 0), to(1), to(2))
	set(t, p, 1, on(1), to(3))
	set(t, p, 2, on(0), to(3))
	p.Start(0)
	for n := range byte(3) {
		_, first := p.Comm(0)
		_, second := p.Comm(0)
		spoilt(first, to(9))
		if !slices.Equal(second, row(to(1), to(2))) {
			t.Errorf("two answers of Comm share memory: %v", second)
		}
		spoilt(second, to(9))
		has(t, p, 0, timed(0, 0), to(1), to(2))
		put(t, d, 2, n+1)
		frames, others := p.Tick(int64(n)), p.Sync(0, int64(n))
		spoilt(frames, api.Frame{ID: 1, Len: 1, Data: [8]byte{9}})
		if texts(t, others)[:6] != "181#00" {
			t.Errorf("two answers share memory: %v", others)
		}
		spoilt(others, api.Frame{})
		ticks(t, p, int64(n), "")
		beats(t, p, 0, int64(n), "181#00")
	}
}

// No call changes the dictionary, also none that is refused.
func TestDictionaryIsRead(t *testing.T) { // P13.7
	p, d := made(t)
	put(t, d, 1, 3)
	before := told(d)
	for i, kind := range []uint8{0, 1, 3, 254, 255} {
		set(t, p, i, produce.Comm{On: true, ID: 0x181, Kind: kind, Event: 2}, to(1), mapping.Map{Place: at(0x6000, 9), Bits: 1})
		p.Set(i, on(0), nowhere())
	}
	p.Start(0)
	for now := range int64(20) {
		p.Want(int(now) % 8)
		p.Due()
		p.Sync(uint8(now), now)
		p.Tick(now)
		p.Comm(int(now))
	}
	p.Stop()
	if told(d) != before {
		t.Errorf("the dictionary was\n%s\nand is\n%s", before, told(d))
	}
}

// nil and empty lists mean the same.
func TestEmptyLists(t *testing.T) { // P13.1
	var shown []string
	for _, l := range [][]mapping.Map{nil, {}, row(to(1))[:0]} {
		p, _ := made(t)
		code := p.Set(0, on(255), l)
		c, maps := p.Comm(0)
		p.Start(0)
		shown = append(shown, fmt.Sprint(code, c, len(maps), p.Tick(0)))
	}
	if shown[0] != shown[1] || shown[0] != shown[2] {
		t.Errorf("unlike: %q", shown)
	}
}
