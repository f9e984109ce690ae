package consume_test

import (
	"math"
	"testing"

	"campanile/api"
	"campanile/consume"
	"campanile/mapping"
	"campanile/produce"
)

// before tells how the objects of a row are received, ahead of what a test sets: of number 0 at once, else at a beat.
func before(i int) produce.Comm {
	m := produce.Comm{On: true, ID: 0x300 + uint16(i), Kind: 1, Event: 20}
	if i == 0 {
		m.Kind = 254
	}
	return m
}

// sets holds Set's code, while the consumer stands and while it goes, and that what is refused changes nothing.
func sets(t *testing.T, i int, m produce.Comm, l []mapping.Map, want api.Abort) {
	t.Helper()
	for _, goes := range []bool{false, true} {
		c, d := made(t)
		for k := range api.MaxPDO {
			set(t, c, k, before(k), to(1))
		}
		if goes {
			c.Start()
			for k := range api.MaxPDO {
				c.Hear(api.Frame{ID: before(k).ID, Len: 1, Data: [8]byte{byte(k)}}, int64(k), true)
			}
		}
		was := told(d)
		if code := c.Set(i, m, l); code != want {
			t.Errorf("Set(%d, %+v, %v): %x, want %x", i, m, l, code, want)
		}
		if told(d) != was {
			t.Errorf("Set(%d, %+v, %v): the dictionary was\n%s\nand is\n%s", i, m, l, was, told(d))
		}
		for k := range api.MaxPDO {
			if k == i && want == 0 {
				has(t, c, k, m, l...)
			} else {
				has(t, c, k, before(k), to(1))
			}
		}
		setAlone(t, c, i, goes, want == 0)
	}
}

// setAlone holds that all objects but one that was set are as they were heard, and that this one was not heard, is not late, holds none.
func setAlone(t *testing.T, c *consume.Consumer, i int, goes, taken bool) {
	t.Helper()
	if !goes {
		neverDue(t, c)
		return
	}
	var held []consume.Result
	var late []int
	for k := range api.MaxPDO {
		if k == i && taken {
			continue
		}
		late = append(late, k)
		if k > 0 {
			held = append(held, consume.Result{Number: k})
		}
	}
	due(t, c, int64(late[0]+20))
	beats(t, c, shown(held))
	ticks(t, c, 27, late...)
}

func TestSetNumbers(t *testing.T) { // P14.1
	for _, i := range []int{math.MinInt, -1, 8, 9, 256, 1 << 32, math.MaxInt} {
		sets(t, i, on(255), row(to(2)), api.AbGeneral)
		sets(t, i, produce.Comm{}, nil, api.AbGeneral)
	}
	for i := range api.MaxPDO {
		sets(t, i, on(255), row(to(2)), 0)
		sets(t, i, on(1), row(to(2)), 0)
		sets(t, i, produce.Comm{}, nil, 0)
	}
}

func TestSetFields(t *testing.T) { // P14.1
	for _, isOn := range []bool{true, false} {
		for id, want := range map[uint16]api.Abort{0: 0, 0x7FF: 0, 0x800: api.AbValue, 0xA01: api.AbValue, 0xFFFF: api.AbValue} {
			sets(t, 0, produce.Comm{On: isOn, ID: id}, row(to(2)), want)
		}
		for kind := range 256 {
			want := api.Abort(0)
			if kind >= 241 && kind <= 253 {
				want = api.AbValue
			}
			sets(t, 1, produce.Comm{On: isOn, ID: 0x201, Kind: uint8(kind)}, row(to(2)), want)
		}
		for n, want := range map[int64]api.Abort{math.MinInt64: api.AbValue, -1: api.AbValue, 0: 0, 1: 0, api.MaxTime: 0, api.MaxTime + 1: api.AbValue, math.MaxInt64: api.AbValue} {
			sets(t, 2, produce.Comm{On: isOn, ID: 0x201, Kind: 255, Inhibit: n}, row(to(2)), want)
			sets(t, 3, produce.Comm{On: isOn, ID: 0x201, Kind: 255, Event: n}, row(to(2)), want)
			sets(t, 4, produce.Comm{On: isOn, ID: 0x201, Kind: 1, Event: n, Inhibit: 1}, row(to(2)), want)
		}
		for start := range 256 {
			want := api.Abort(0)
			if start > 240 {
				want = api.AbValue
			}
			sets(t, 7, produce.Comm{On: isOn, ID: 0x201, Kind: 1, Start: uint8(start)}, row(to(2)), want)
		}
	}
}

func TestSetMappings(t *testing.T) { // P14.1
	off := produce.Comm{ID: 0x201, Kind: 255}
	bit := mapping.Map{Place: at(0x6000, 9), Bits: 1}
	for code, l := range map[api.Abort][]mapping.Map{
		api.AbNoEntry: nowhere(),
		api.AbNoSub:   row(to(1), to(99)),
		api.AbNoMap:   row(to(10)),
		api.AbMapLen:  times(9, to(1)),
	} {
		sets(t, 0, on(255), l, code)
		sets(t, 0, on(0), l, code)
		sets(t, 0, off, l, 0)
	}
	sets(t, 0, on(255), row(to(11)), api.AbNoMap)                    // it can't be written
	sets(t, 0, on(255), row(to(12)), 0)                              // it can, and needs not be read
	sets(t, 0, on(255), row(mapping.Of(0x00050008)), 0)              // a gap is received
	sets(t, 0, on(255), row(to(1), mapping.Of(0x17)), api.AbNoEntry) // neither a gap nor a place
	sets(t, 0, on(255), nil, 0)
	sets(t, 0, on(255), []mapping.Map{}, 0)
	sets(t, 0, on(255), times(8, to(1)), 0)
	for _, m := range []produce.Comm{on(255), off} {
		sets(t, 0, m, times(api.MaxMap, bit), 0)
		sets(t, 0, m, times(api.MaxMap+1, bit), api.AbMapLen)
	}
	sets(t, 0, off, times(api.MaxMap, to(99)), 0)
	sets(t, 0, off, times(api.MaxMap+1, to(99)), api.AbMapLen)
}

// Of several faults the first one is told.
func TestSetFirstCode(t *testing.T) { // P14.1
	for _, m := range []produce.Comm{
		{On: true, ID: 0x800}, {On: true, Kind: 241}, {On: true, Inhibit: -1}, {On: true, Event: -1}, {On: true, Start: 241}, {Start: 255}, {Kind: 253},
	} {
		sets(t, 8, m, times(65, to(99)), api.AbGeneral)
		sets(t, -1, m, nil, api.AbGeneral)
		sets(t, 0, m, times(65, to(99)), api.AbValue)
		sets(t, 0, m, nowhere(), api.AbValue)
		sets(t, 0, m, times(9, to(1)), api.AbValue)
	}
	sets(t, 8, on(0), times(65, to(1)), api.AbGeneral)
	sets(t, 8, on(0), nowhere(), api.AbGeneral)
	sets(t, 0, on(0), append(nowhere(), times(64, to(1))...), api.AbMapLen)
	sets(t, 0, on(0), append(nowhere(), times(63, to(1))...), api.AbNoEntry)
	sets(t, 0, on(0), append(times(9, to(1)), nowhere()...), api.AbMapLen)
}

func TestComm(t *testing.T) { // P14.1
	c, _ := made(t)
	var kept [api.MaxPDO]produce.Comm
	for i := range kept {
		kept[i] = produce.Comm{On: i%2 == 0, ID: uint16(0x100 + i), Kind: uint8(i), Inhibit: int64(i), Event: int64(10 + i), Start: uint8(20 + i)}
		set(t, c, i, kept[i], times(i+1, to(uint8(i+1)))...)
	}
	hear := func() { c.Hear(api.Frame{ID: 0x102, Len: 8}, 1, true) }
	late := func() { c.Tick(100) }
	for _, act := range []func(){func() {}, c.Start, hear, late, func() { c.Sync() }, c.Stop} {
		act()
		for i, m := range kept {
			has(t, c, i, m, times(i+1, to(uint8(i+1)))...)
		}
		for _, i := range []int{math.MinInt, -1, 8, 264, math.MaxInt} {
			has(t, c, i, produce.Comm{})
		}
	}
	set(t, c, 4, produce.Comm{})
	has(t, c, 4, produce.Comm{})
}

// An object that is set again, even alike, was not heard, is not late, holds none; the others go on.
func TestSetAgain(t *testing.T) { // P14.1
	c, d := made(t)
	beat := within(1, 10)
	beat.ID = 0x301
	for i, m := range []produce.Comm{within(255, 10), within(255, 10), beat, beat} {
		set(t, c, i, m, to(uint8(i+1)))
	}
	c.Start()
	hears(t, c, "201#01", 5, "0 OK, 1 OK")
	hears(t, c, "301#02", 6, "")
	set(t, c, 0, within(255, 10), to(1))
	set(t, c, 2, beat, to(3))
	due(t, c, 15)
	ticks(t, c, 16, 1, 3)
	beats(t, c, "3 OK")
	value(t, d, 3, 0)
	value(t, d, 4, 2)
	set(t, c, 1, within(255, 10), to(2)) // late no more, and not heard
	neverDue(t, c)
	ticks(t, c, 100)
	hears(t, c, "201#03", 100, "0 OK, 1 OK")
	ticks(t, c, 110, 0, 1)
}

// While it goes an object's ID, Kind and mapping are those that were set last.
func TestSetWhileItGoes(t *testing.T) { // P14.1, P14.2
	c, d := begun(t, on(1))
	hears(t, c, "201#01", 0, "")
	set(t, c, 0, produce.Comm{On: true, ID: 0x202, Kind: 255}, to(2))
	beats(t, c, "")
	hears(t, c, "201#01", 0, "")
	hears(t, c, "202#03", 0, "0 OK")
	set(t, c, 0, produce.Comm{ID: 0x202, Kind: 255}, to(2))
	hears(t, c, "202#04", 0, "")
	value(t, d, 1, 0)
	value(t, d, 2, 3)
}

// An object that is refused stays as it is: heard, late, with what it holds.
func TestSetRefused(t *testing.T) { // P14.1
	c, d := begun(t, within(1, 10))
	hears(t, c, "201#05", 0, "")
	ticks(t, c, 10, 0)
	for _, m := range []produce.Comm{{ID: 0x800}, {Kind: 241}, {Event: -1}, {On: true, ID: 0x301}} {
		if code := c.Set(0, m, nowhere()); code == 0 {
			t.Errorf("Set(0, %+v): 0", m)
		}
	}
	neverDue(t, c)
	ticks(t, c, 20)
	beats(t, c, "0 OK")
	value(t, d, 1, 5)
}
