package consume_test

import (
	"fmt"
	"math"
	"slices"
	"strings"
	"testing"

	"campanile/api"
	"campanile/consume"
	"campanile/dict"
	"campanile/frame"
	"campanile/mapping"
	"campanile/produce"
)

const rwm = api.RRead | api.RWrite | api.RMap

func at(index uint16, sub uint8) api.Place { return api.Place{Index: index, Sub: sub} }

// to tells a Map of 8 bits of 6000 and a sub-index.
func to(sub uint8) mapping.Map { return mapping.Map{Place: at(0x6000, sub), Bits: 8} }

// row tells Maps as a list.
func row(l ...mapping.Map) []mapping.Map { return l }

// times tells a Map so many times.
func times(n int, m mapping.Map) []mapping.Map { return slices.Repeat(row(m), n) }

// nowhere tells a mapping that may not be: no entry has its place.
func nowhere() []mapping.Map { return row(mapping.Of(0x70000108)) }

// entries tells 6000 sub 1 to 8: a byte each, that may be mapped, of sub 1 to 4 at most 9; sub 9: a bool; sub 10 can't be mapped, sub 11 can't be written, sub 12 can't be read.
func entries() []api.Entry {
	var l []api.Entry
	for sub := range uint8(8) {
		e := api.Entry{Index: 0x6000, Sub: sub + 1, Type: api.TUint8, Rights: rwm}
		if sub < 4 {
			e.High = []byte{9}
		}
		l = append(l, e)
	}
	return append(l, api.Entry{Index: 0x6000, Sub: 9, Type: api.TBool, Rights: rwm},
		api.Entry{Index: 0x6000, Sub: 10, Type: api.TUint8, Rights: api.RRead | api.RWrite},
		api.Entry{Index: 0x6000, Sub: 11, Type: api.TUint8, Rights: api.RRead | api.RMap},
		api.Entry{Index: 0x6000, Sub: 12, Type: api.TUint8, Rights: api.RWrite | api.RMap})
}

// made tells a consumer that stands, and its dictionary.
func made(t *testing.T) (*consume.Consumer, *dict.Dict) {
	t.Helper()
	d, errno := dict.New(entries())
	if errno != api.OK {
		t.Fatalf("dict.New: %d", errno)
	}
	c := consume.New(d)
	if c == nil {
		t.Fatal("New: nil")
	}
	return c, d
}

// on tells how an object of a Kind is received, its ID 201.
func on(kind uint8) produce.Comm { return produce.Comm{On: true, ID: 0x201, Kind: kind} }

// within tells how an object of a Kind is received, its ID 201, that may be silent for less than so many ticks.
func within(kind uint8, event int64) produce.Comm {
	return produce.Comm{On: true, ID: 0x201, Kind: kind, Event: event}
}

// set sets an object that must be taken.
func set(t *testing.T, c *consume.Consumer, i int, m produce.Comm, l ...mapping.Map) {
	t.Helper()
	if code := c.Set(i, m, l); code != 0 {
		t.Fatalf("Set(%d, %v, %v): %x", i, m, l, code)
	}
}

// begun tells a consumer that goes, with one object, of 6000 sub 1.
func begun(t *testing.T, m produce.Comm) (*consume.Consumer, *dict.Dict) {
	t.Helper()
	c, d := made(t)
	set(t, c, 0, m, to(1))
	c.Start()
	return c, d
}

// read tells the frame of a text.
func read(t *testing.T, s string) api.Frame {
	t.Helper()
	f, errno := frame.Read(s)
	if errno != api.OK {
		t.Fatalf("no frame: %s", s)
	}
	return f
}

// shown tells Results as a text: each one's number, and its code's name.
func shown(l []consume.Result) string {
	names := map[api.Abort]string{0: "OK", api.AbLength: "AbLength", api.AbState: "AbState", api.AbHigh: "AbHigh",
		api.AbNoEntry: "AbNoEntry", api.AbNoSub: "AbNoSub", api.AbNoMap: "AbNoMap", api.AbValue: "AbValue", api.AbGeneral: "AbGeneral"}
	var all []string
	for _, r := range l {
		name, named := names[r.Code]
		if !named {
			name = fmt.Sprintf("%x", r.Code)
		}
		all = append(all, fmt.Sprint(r.Number, " ", name))
	}
	return strings.Join(all, ", ")
}

// hears holds what Hear tells of a frame's text, the window being open.
func hears(t *testing.T, c *consume.Consumer, text string, now int64, want string) {
	t.Helper()
	if said := shown(c.Hear(read(t, text), now, true)); said != want {
		t.Errorf("Hear(%s, %d, true): %q, want %q", text, now, said, want)
	}
}

// shuts holds what Hear tells of a frame's text, the window being closed.
func shuts(t *testing.T, c *consume.Consumer, text string, now int64, want string) {
	t.Helper()
	if said := shown(c.Hear(read(t, text), now, false)); said != want {
		t.Errorf("Hear(%s, %d, false): %q, want %q", text, now, said, want)
	}
}

// beats holds what Sync tells.
func beats(t *testing.T, c *consume.Consumer, want string) {
	t.Helper()
	if said := shown(c.Sync()); said != want {
		t.Errorf("Sync: %q, want %q", said, want)
	}
}

// ticks holds what Tick tells.
func ticks(t *testing.T, c *consume.Consumer, now int64, want ...int) {
	t.Helper()
	if late := c.Tick(now); !slices.Equal(late, want) {
		t.Errorf("Tick(%d): %v, want %v", now, late, want)
	}
}

// due holds what Due tells against a time.
func due(t *testing.T, c *consume.Consumer, want int64) {
	t.Helper()
	if n, ok := c.Due(); n != want || !ok {
		t.Errorf("Due: %d, %t, want %d", n, ok, want)
	}
}

// neverDue holds that Due tells nothing.
func neverDue(t *testing.T, c *consume.Consumer) {
	t.Helper()
	if n, ok := c.Due(); n != 0 || ok {
		t.Errorf("Due: %d, %t, want 0, false", n, ok)
	}
}

// has holds what Comm tells.
func has(t *testing.T, c *consume.Consumer, i int, want produce.Comm, l ...mapping.Map) {
	t.Helper()
	if m, maps := c.Comm(i); m != want || !slices.Equal(maps, l) {
		t.Errorf("Comm(%d): %v, %v, want %v, %v", i, m, maps, want, l)
	}
}

// value holds the value of 6000 and a sub-index.
func value(t *testing.T, d *dict.Dict, sub uint8, want byte) {
	t.Helper()
	if b, ok := d.Get(at(0x6000, sub)); !ok || len(b) != 1 || b[0] != want {
		t.Errorf("6000 sub %d is %v, want %d", sub, b, want)
	}
}

// put writes the value of 6000 and a sub-index.
func put(t *testing.T, d *dict.Dict, sub uint8, b byte) {
	t.Helper()
	if code := d.Write(at(0x6000, sub), []byte{b}); code != 0 {
		t.Fatalf("Write(%d): %x", sub, code)
	}
}

// told tells all that a dictionary shows.
func told(d *dict.Dict) string {
	var all strings.Builder
	for _, e := range d.Entries() {
		b, ok := d.Get(at(e.Index, e.Sub))
		fmt.Fprintf(&all, "%v = %v %t\n", e, b, ok)
	}
	fmt.Fprintf(&all, "%d changes", d.Changes())
	return all.String()
}

func TestExamples(t *testing.T) {
	d, _ := dict.New([]api.Entry{{Index: 0x6000, Sub: 1, Type: api.TUint8, Rights: rwm, High: []byte{9}}})
	c := consume.New(d)
	set(t, c, 0, within(255, 20), to(1))
	c.Start()
	hears(t, c, "201#07", 3, "0 OK")
	hears(t, c, "201#0A", 4, "0 AbHigh")
	hears(t, c, "201#", 5, "0 AbLength")

	ticks(t, c, 23)
	ticks(t, c, 24, 0)
	ticks(t, c, 30)
	neverDue(t, c)

	set(t, c, 1, produce.Comm{On: true, ID: 0x301, Kind: 1}, to(1))
	hears(t, c, "301#05", 6, "")
	value(t, d, 1, 7)
	beats(t, c, "1 OK")
	value(t, d, 1, 5)
	beats(t, c, "")
}

func TestNew(t *testing.T) { // P14.1
	if c := consume.New(nil); c != nil {
		t.Errorf("New(nil): %v", c)
	}
	c, d := made(t)
	before := told(d)
	for _, begin := range []func(){func() {}, c.Start} {
		begin()
		for i := range api.MaxPDO {
			has(t, c, i, produce.Comm{})
		}
		hears(t, c, "000#", 0, "")
		hears(t, c, "201#07", 0, "")
		beats(t, c, "")
		ticks(t, c, api.MaxTime)
		neverDue(t, c)
	}
	if told(d) != before {
		t.Errorf("the dictionary was\n%s\nand is\n%s", before, told(d))
	}
}

// A consumer that is made stands, till Start.
func TestNewStands(t *testing.T) { // P14.1
	c, d := made(t)
	set(t, c, 0, within(255, 5), to(1))
	hears(t, c, "201#07", 0, "")
	value(t, d, 1, 0)
	c.Start()
	neverDue(t, c)
	hears(t, c, "201#07", 0, "0 OK")
	value(t, d, 1, 7)
}

// A consumer that is not there refuses what is set, and is silent.
func TestNil(t *testing.T) { // P14.1
	var c *consume.Consumer
	for _, i := range []int{-1, 0, 7, 8} {
		if code := c.Set(i, on(0), nil); code != api.AbGeneral {
			t.Errorf("Set(%d) of nil: %x", i, code)
		}
		has(t, c, i, produce.Comm{})
	}
	if code := c.Set(0, produce.Comm{ID: 0x800}, times(65, to(1))); code != api.AbGeneral {
		t.Errorf("Set of nil, with more faults: %x", code)
	}
	c.Start()
	hears(t, c, "201#07", 0, "")
	hears(t, c, "000#", 0, "")
	shuts(t, c, "000#", 0, "")
	beats(t, c, "")
	ticks(t, c, 0)
	neverDue(t, c)
	c.Stop()
}

// Two consumers over one dictionary go on their own.
func TestConsumersAreApart(t *testing.T) { // P14.1
	c, d := begun(t, within(255, 10))
	q := consume.New(d)
	set(t, q, 0, within(1, 20), to(1), to(2))
	hears(t, c, "201#0304", 1, "0 OK")
	hears(t, q, "201#0304", 1, "")
	q.Start()
	hears(t, q, "201#0506", 2, "")
	value(t, d, 1, 3)
	beats(t, c, "")
	beats(t, q, "0 OK")
	value(t, d, 1, 5)
	value(t, d, 2, 6)
	due(t, c, 11)
	due(t, q, 22)
	c.Stop()
	neverDue(t, c)
	ticks(t, q, 22, 0)
}

// What is strange comes back as nothing, and nothing panics.
func TestStrangeArguments(t *testing.T) {
	numbers := []int{math.MinInt, -1, 0, 7, 8, 256, math.MaxInt}
	moments := []int64{math.MinInt64, -1, 0, 1, api.MaxTime, api.MaxTime + 1, math.MaxInt64}
	mappings := [][]mapping.Map{nil, {}, row(mapping.Map{}), nowhere(), row(to(1)), times(8, to(1)), times(9, to(1)), times(64, to(1)), times(65, to(1)),
		row(mapping.Map{Place: at(0x6000, 1), Bits: math.MinInt}), row(mapping.Map{Place: at(0x6000, 1), Bits: math.MaxInt}), row(mapping.Of(0x00050008))}
	frames := []api.Frame{{}, {ID: 0x7FF, Len: 8}, {ID: 0x7FF, Len: math.MaxInt}, {ID: 0x7FF, Len: math.MinInt}, {ID: 0xFFFF, Len: 1},
		{ID: 0x7FF, Len: 1, Remote: true}, {ID: 0x7FF, Len: 1, Data: [8]byte{1, 2}}}
	d, _ := dict.New(entries())
	for _, c := range []*consume.Consumer{nil, new(consume.Consumer), consume.New(d), consume.New(new(dict.Dict))} {
		for _, i := range numbers {
			for _, kind := range []uint8{0, 1, 240, 241, 254, 255} {
				for k, now := range moments {
					for _, l := range mappings {
						c.Set(i, produce.Comm{On: k != 3, ID: 0x7FF, Kind: kind, Inhibit: now, Event: moments[len(moments)-1-k], Start: kind}, l)
						c.Set(i, produce.Comm{On: k != 3, ID: 0x7FF, Kind: kind, Event: 1}, l)
						c.Comm(i)
						c.Start()
						for _, f := range frames {
							c.Hear(f, now, k%2 == 0)
						}
						c.Due()
						c.Sync()
						c.Tick(now)
						c.Due()
					}
				}
			}
			c.Stop()
		}
	}
}
