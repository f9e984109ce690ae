package consume_test

import (
	"fmt"
	"slices"
	"testing"

	"campanile/consume"
	"campanile/mapping"
	"campanile/produce"
)

// spoilt overwrites a list, what lies behind its length included.
func spoilt[T any](l []T, with T) {
	l = l[:cap(l)]
	for i := range l {
		l[i] = with
	}
}

// What is handed in is only read, and not kept.
func TestArgumentsAreLeft(t *testing.T) { // P14.5
	for _, goes := range []bool{false, true} {
		c, d := made(t)
		if goes {
			c.Start()
		}
		room := slices.Repeat(row(to(99)), 6)
		room[1], room[2] = to(1), to(2)
		was := slices.Clone(room)
		if code := c.Set(0, on(255), room[1:3]); code != 0 {
			t.Fatalf("Set: %x", code)
		}
		c.Set(1, on(255), room[:4])
		c.Set(9, on(255), room[:4])
		set(t, c, 2, on(1), room[1:3]...)
		c.Comm(0)
		c.Start()
		hears(t, c, "201#0304", 0, "0 OK")
		beats(t, c, "2 OK")
		if !slices.Equal(room, was) {
			t.Errorf("the mapping is %v now", room)
		}
		spoilt(room, to(5))
		has(t, c, 0, on(255), to(1), to(2))
		has(t, c, 2, on(1), to(1), to(2))
		hears(t, c, "201#0506", 1, "0 OK")
		value(t, d, 1, 5)
		value(t, d, 2, 6)
		value(t, d, 5, 0)
	}
}

// A frame that was heard is held as it was, whatever becomes of it.
func TestFramesAreLeft(t *testing.T) { // P14.5
	c, d := begun(t, on(1))
	f := read(t, "201#05")
	was := f
	c.Hear(f, 0, true)
	if f != was {
		t.Errorf("the frame is %v now", f)
	}
	f.Data[0] = 7
	beats(t, c, "0 OK")
	value(t, d, 1, 5)
}

// What is answered is new memory: whoever spoils it spoils nothing.
func TestAnswersAreNew(t *testing.T) { // P14.5
	c, d := made(t)
	for i := range 4 {
		set(t, c, i, within(255, 5), to(1), to(2))
		set(t, c, i+4, within(1, 5), to(3))
	}
	c.Start()
	for n := range int64(3) {
		_, first := c.Comm(0)
		_, second := c.Comm(0)
		spoilt(first, to(9))
		if !slices.Equal(second, row(to(1), to(2))) {
			t.Errorf("two answers of Comm share memory: %v", second)
		}
		spoilt(second, to(9))
		has(t, c, 0, within(255, 5), to(1), to(2))
		has(t, c, 1, within(255, 5), to(1), to(2))

		heard, again := c.Hear(read(t, "201#0304"), 10*n, true), c.Hear(read(t, "201#0304"), 10*n, true)
		spoilt(heard, consume.Result{Number: 9, Code: 9})
		if shown(again) != "0 OK, 1 OK, 2 OK, 3 OK" {
			t.Errorf("two answers of Hear share memory: %v", again)
		}
		beaten := c.Sync()
		spoilt(again, consume.Result{Number: 9, Code: 9})
		if shown(beaten) != "4 OK, 5 OK, 6 OK, 7 OK" {
			t.Errorf("answers of Hear and Sync share memory: %v", beaten)
		}
		late := c.Tick(10*n + 5)
		hears(t, c, "201#0304", 10*n+5, "0 OK, 1 OK, 2 OK, 3 OK")
		more := c.Tick(10*n + 10)
		spoilt(late, 99)
		if !slices.Equal(more, []int{0, 1, 2, 3, 4, 5, 6, 7}) {
			t.Errorf("two answers of Tick share memory: %v", more)
		}
	}
	value(t, d, 1, 3)
}

// Calls that write nothing leave the dictionary alone: all but Hear and Sync, and what these refuse or hold.
func TestDictionaryIsRead(t *testing.T) { // P14.5
	c, d := made(t)
	put(t, d, 1, 3)
	was := told(d)
	for i, kind := range []uint8{0, 1, 240, 254, 255} {
		set(t, c, i, within(kind, 2), to(1), mapping.Map{Place: at(0x6000, 9), Bits: 1})
		c.Set(i, on(0), nowhere())
	}
	c.Start()
	for now := range int64(20) {
		hears(t, c, "201#0A01", now, "3 AbHigh, 4 AbHigh")
		hears(t, c, "201#01", now, "0 AbLength, 1 AbLength, 2 AbLength, 3 AbLength, 4 AbLength")
		shuts(t, c, "201#0A01", now, "0 AbState, 1 AbState, 2 AbState, 3 AbHigh, 4 AbHigh")
		c.Due()
		c.Tick(now)
		c.Comm(int(now))
	}
	beats(t, c, "0 AbHigh, 1 AbHigh, 2 AbHigh")
	hears(t, c, "201#0A01", 20, "3 AbHigh, 4 AbHigh")
	c.Stop()
	c.Start()
	beats(t, c, "")
	if told(d) != was {
		t.Errorf("the dictionary was\n%s\nand is\n%s", was, told(d))
	}
}

// nil and empty lists mean the same.
func TestEmptyLists(t *testing.T) { // P14.1
	var all []string
	for _, l := range [][]mapping.Map{nil, {}, row(to(1))[:0]} {
		c, _ := made(t)
		code := c.Set(0, on(255), l)
		m, maps := c.Comm(0)
		c.Start()
		all = append(all, fmt.Sprint(code, m, len(maps), c.Hear(read(t, "201#"), 0, true)))
	}
	if all[0] != all[1] || all[0] != all[2] {
		t.Errorf("unlike: %q", all)
	}
}

// What one object of a consumer has is its own, though two were set alike.
func TestObjectsAreApart(t *testing.T) { // P14.5
	c, d := made(t)
	l := row(to(1))
	c.Set(0, on(255), l)
	c.Set(1, produce.Comm{On: true, ID: 0x301, Kind: 255}, l)
	l[0] = to(2)
	c.Set(0, on(255), l)
	c.Start()
	hears(t, c, "301#04", 0, "1 OK")
	hears(t, c, "201#05", 0, "0 OK")
	value(t, d, 1, 4)
	value(t, d, 2, 5)
}
