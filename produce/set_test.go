package produce_test

import (
	"math"
	"testing"

	"campanile/api"
	"campanile/mapping"
	"campanile/produce"
)

// sets holds Set's code, while the producer stands and while it goes, and that what is refused changes nothing.
func sets(t *testing.T, i int, c produce.Comm, l []mapping.Map, want api.Abort) {
	t.Helper()
	for _, goes := range []bool{false, true} {
		p, _ := made(t)
		for k := range api.MaxPDO {
			set(t, p, k, produce.Comm{On: true, ID: 0x200 + uint16(k), Kind: 254, Inhibit: 20}, to(1))
		}
		if goes {
			p.Start(5)
			p.Tick(6)
		}
		if code := p.Set(i, c, l); code != want {
			t.Errorf("Set(%d, %+v, %v): %x, want %x", i, c, l, code, want)
		}
		for k := range api.MaxPDO {
			if k == i && want == 0 {
				has(t, p, k, c, l...)
			} else {
				has(t, p, k, produce.Comm{On: true, ID: 0x200 + uint16(k), Kind: 254, Inhibit: 20}, to(1))
			}
		}
		if want != 0 && goes {
			neverDue(t, p)
			ticks(t, p, 100, "")
		}
	}
}

func TestSetNumbers(t *testing.T) { // P13.1
	for _, i := range []int{math.MinInt, -1, 8, 9, 256, 1 << 32, math.MaxInt} {
		sets(t, i, on(255), row(to(2)), api.AbGeneral)
		sets(t, i, produce.Comm{ID: 0x800}, times(65, to(1)), api.AbGeneral)
	}
	for i := range api.MaxPDO {
		sets(t, i, on(255), row(to(2)), 0)
	}
}

func TestSetFields(t *testing.T) { // P13.1
	for _, isOn := range []bool{true, false} {
		for id, want := range map[uint16]api.Abort{0: 0, 0x7FF: 0, 0x800: api.AbValue, 0x981: api.AbValue, 0xFFFF: api.AbValue} {
			sets(t, 0, produce.Comm{On: isOn, ID: id}, row(to(2)), want)
		}
		for kind := range 256 {
			want := api.Abort(0)
			if kind >= 241 && kind <= 253 {
				want = api.AbValue
			}
			sets(t, 1, produce.Comm{On: isOn, ID: 0x181, Kind: uint8(kind)}, row(to(2)), want)
		}
		for n, want := range map[int64]api.Abort{math.MinInt64: api.AbValue, -1: api.AbValue, 0: 0, 1: 0, api.MaxTime: 0, api.MaxTime + 1: api.AbValue, math.MaxInt64: api.AbValue} {
			sets(t, 2, produce.Comm{On: isOn, ID: 0x181, Kind: 255, Inhibit: n}, row(to(2)), want)
			sets(t, 3, produce.Comm{On: isOn, ID: 0x181, Kind: 255, Event: n}, row(to(2)), want)
			sets(t, 4, produce.Comm{On: isOn, ID: 0x181, Kind: 1, Event: n, Inhibit: 1}, row(to(2)), want)
		}
		for start := range 256 {
			want := api.Abort(0)
			if start > 240 {
				want = api.AbValue
			}
			sets(t, 7, produce.Comm{On: isOn, ID: 0x181, Kind: 1, Start: uint8(start)}, row(to(2)), want)
		}
	}
}

func TestSetMappings(t *testing.T) { // P13.1
	off := produce.Comm{ID: 0x181, Kind: 255}
	bit := mapping.Map{Place: at(0x6000, 9), Bits: 1}
	for code, l := range map[api.Abort][]mapping.Map{
		api.AbNoEntry: nowhere(),
		api.AbNoSub:   row(to(1), to(99)),
		api.AbNoMap:   row(to(10)),
		api.AbMapLen:  times(9, to(1)),
	} {
		sets(t, 0, on(255), l, code)
		sets(t, 0, on(0), l, code)
		sets(t, 0, off, l, 0)
	}
	sets(t, 0, on(255), row(to(11)), api.AbNoMap)                 // it can't be read
	sets(t, 0, on(255), row(mapping.Of(0x00050008)), api.AbNoMap) // a gap is not sent
	sets(t, 0, on(255), nil, 0)
	sets(t, 0, on(255), []mapping.Map{}, 0)
	sets(t, 0, on(255), times(8, to(1)), 0)
	for _, c := range []produce.Comm{on(255), off} {
		sets(t, 0, c, times(api.MaxMap, bit), 0)
		sets(t, 0, c, times(api.MaxMap+1, bit), api.AbMapLen)
	}
	sets(t, 0, off, times(api.MaxMap, to(99)), 0)
}

// Of several faults the first one is told.
func TestSetFirstCode(t *testing.T) { // P13.1
	for _, c := range []produce.Comm{
		{On: true, ID: 0x800}, {On: true, Kind: 241}, {On: true, Inhibit: -1}, {On: true, Event: -1}, {On: true, Start: 241}, {Start: 255}, {Kind: 253},
	} {
		sets(t, 8, c, times(65, to(99)), api.AbGeneral)
		sets(t, -1, c, nil, api.AbGeneral)
		sets(t, 0, c, times(65, to(99)), api.AbValue)
		sets(t, 0, c, nowhere(), api.AbValue)
		sets(t, 0, c, times(9, to(1)), api.AbValue)
	}
	sets(t, 8, on(0), times(65, to(1)), api.AbGeneral)
	sets(t, 8, on(0), nowhere(), api.AbGeneral)
	sets(t, 0, on(0), append(nowhere(), times(64, to(1))...), api.AbMapLen)
	sets(t, 0, on(0), append(nowhere(), times(63, to(1))...), api.AbNoEntry)
}

func TestComm(t *testing.T) { // P13.1
	p, _ := made(t)
	var kept [api.MaxPDO]produce.Comm
	for i := range kept {
		kept[i] = produce.Comm{On: i%2 == 0, ID: uint16(0x100 + i), Kind: uint8(i), Inhibit: int64(i), Event: int64(10 + i), Start: uint8(20 + i)}
		set(t, p, i, kept[i], times(i+1, to(uint8(i+1)))...)
	}
	for _, act := range []func(){func() {}, func() { p.Start(0) }, func() { p.Tick(1); p.Sync(0, 2) }, p.Stop} {
		act()
		for i, c := range kept {
			has(t, p, i, c, times(i+1, to(uint8(i+1)))...)
		}
		for _, i := range []int{math.MinInt, -1, 8, 264, math.MaxInt} {
			has(t, p, i, produce.Comm{})
		}
	}
	set(t, p, 4, produce.Comm{})
	has(t, p, 4, produce.Comm{})
}

// An object that is off, with a mapping that may not be, is never sent.
func TestOffIsNotSent(t *testing.T) { // P13.3 to P13.6
	p, _ := made(t)
	for i, kind := range []uint8{0, 1, 240, 254, 255} {
		set(t, p, i, produce.Comm{ID: 0x181, Kind: kind, Event: 1}, nowhere()...)
		set(t, p, i, produce.Comm{ID: 0x181, Kind: kind, Event: 1}, to(1))
	}
	p.Start(0)
	for now := range int64(300) {
		beats(t, p, 0, now, "")
		ticks(t, p, now, "")
	}
	for i := range api.MaxPDO {
		wants(t, p, i, false)
	}
	beats(t, p, 0, 300, "")
	ticks(t, p, 300, "")
	neverDue(t, p)
}

// What is set while the producer goes begins at the last time it was told, whoever told it.
func TestSetWhileItGoes(t *testing.T) { // P13.1
	for _, told := range []struct {
		name string
		at   int64
		tell func(p *produce.Producer)
	}{
		{"Start", 30, func(p *produce.Producer) {}},
		{"Sync", 33, func(p *produce.Producer) { p.Sync(0, 33) }},
		{"Tick", 34, func(p *produce.Producer) { p.Tick(34) }},
		{"Tick, Sync", 35, func(p *produce.Producer) { p.Tick(34); p.Sync(0, 35) }},
		{"backwards", 11, func(p *produce.Producer) { p.Tick(34); p.Tick(11) }},
		{"Start again", 7, func(p *produce.Producer) { p.Tick(34); p.Start(7) }},
		{"0", 0, func(p *produce.Producer) { p.Sync(0, 0) }},
		{"MaxTime", api.MaxTime, func(p *produce.Producer) { p.Tick(api.MaxTime) }},
		{"no time", 34, func(p *produce.Producer) {
			p.Tick(34)
			p.Tick(-1)
			p.Sync(0, -1)
			p.Start(-1)
			p.Tick(api.MaxTime + 1)
			p.Sync(0, api.MaxTime+1)
			p.Start(api.MaxTime + 1)
		}},
		{"Stop, and Start again", 50, func(p *produce.Producer) { p.Tick(34); p.Stop(); p.Start(50) }},
		{"asked otherwise", 34, func(p *produce.Producer) { p.Tick(34); p.Due(); p.Want(0); p.Comm(0) }},
	} {
		p, _ := made(t)
		set(t, p, 0, on(1), to(2))
		p.Start(30)
		told.tell(p)
		set(t, p, 5, timed(10, 50), to(1))
		if n, ok := p.Due(); n != told.at || !ok {
			t.Errorf("%s: Due: %d, %t, want %d", told.name, n, ok, told.at)
		}
		if told.at > 0 {
			ticks(t, p, told.at-1, "")
		}
		ticks(t, p, told.at, "181#00")
		due(t, p, told.at+50)
	}
}

// While the producer stands it is told nothing: what is set then begins with Start.
func TestSetWhileItStands(t *testing.T) { // P13.1, P13.2
	p, _ := made(t)
	p.Start(30)
	p.Stop()
	p.Tick(77)
	set(t, p, 0, timed(10, 50), to(1))
	neverDue(t, p)
	ticks(t, p, 78, "")
	wants(t, p, 0, false)
	p.Start(12)
	due(t, p, 12)
	ticks(t, p, 12, "181#00")
}

// An object that is set again, even alike, begins again: not sent, not wanted, none counted; the others go on.
func TestSetAgain(t *testing.T) { // P13.1
	p, _ := made(t)
	beat := produce.Comm{On: true, ID: 0x281, Kind: 3}
	late := produce.Comm{On: true, ID: 0x381, Kind: 2, Start: 4}
	set(t, p, 0, timed(100, 0), to(1))
	set(t, p, 1, timed(100, 0), to(1))
	set(t, p, 2, beat, to(1))
	set(t, p, 3, beat, to(2))
	set(t, p, 4, late, to(1))
	p.Start(0)
	ticks(t, p, 0, "181#00 181#00")
	beats(t, p, 4, 1, "381#00")
	beats(t, p, 5, 2, "")
	wants(t, p, 0, true)
	wants(t, p, 1, true)
	set(t, p, 0, timed(100, 0), to(1))
	set(t, p, 2, beat, to(1))
	set(t, p, 4, late, to(1))
	due(t, p, 2)
	ticks(t, p, 2, "181#00")
	due(t, p, 100) // the other one is wanted, the one that was set again is not
	ticks(t, p, 100, "181#00")
	neverDue(t, p)
	ticks(t, p, 200, "")
	beats(t, p, 6, 200, "281#00") // number 3 has counted three, number 2 one, number 4 has not begun
	beats(t, p, 7, 200, "")
	beats(t, p, 4, 200, "281#00 381#00")
}
