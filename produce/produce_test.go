package produce_test

import (
	"bytes"
	"fmt"
	"math"
	"slices"
	"strings"
	"testing"

	"campanile/api"
	"campanile/dict"
	"campanile/frame"
	"campanile/mapping"
	"campanile/produce"
)

const rwm = api.RRead | api.RWrite | api.RMap

func at(index uint16, sub uint8) api.Place { return api.Place{Index: index, Sub: sub} }

// to tells a Map of 8 bits of 6000 and a sub-index.
func to(sub uint8) mapping.Map { return mapping.Map{Place: at(0x6000, sub), Bits: 8} }

// row tells Maps as a list.
func row(l ...mapping.Map) []mapping.Map { return l }

// times tells a Map so many times.
func times(n int, m mapping.Map) []mapping.Map { return slices.Repeat(row(m), n) }

// nowhere tells a mapping that may not be: no entry has its place.
func nowhere() []mapping.Map { return row(mapping.Of(0x70000108)) }

// entries tells 6000 sub 1 to 8: a byte each, that may be mapped; sub 9: a bool; sub 10 can't be mapped, sub 11 can't be read.
func entries() []api.Entry {
	var l []api.Entry
	for sub := range uint8(8) {
		l = append(l, api.Entry{Index: 0x6000, Sub: sub + 1, Type: api.TUint8, Rights: rwm})
	}
	return append(l, api.Entry{Index: 0x6000, Sub: 9, Type: api.TBool, Rights: rwm},
		api.Entry{Index: 0x6000, Sub: 10, Type: api.TUint8, Rights: api.RRead | api.RWrite},
		api.Entry{Index: 0x6000, Sub: 11, Type: api.TUint8, Rights: api.RWrite | api.RMap})
}

// made tells a producer that stands, and its dictionary.
func made(t *testing.T) (*produce.Producer, *dict.Dict) {
	t.Helper()
	d, errno := dict.New(entries())
	if errno != api.OK {
		t.Fatalf("dict.New: %d", errno)
	}
	p := produce.New(d)
	if p == nil {
		t.Fatal("New: nil")
	}
	return p, d
}

// put sets the value of 6000 and a sub-index.
func put(t *testing.T, d *dict.Dict, sub uint8, b byte) {
	t.Helper()
	if code := d.Write(at(0x6000, sub), []byte{b}); code != 0 {
		t.Fatalf("Write(%d): %x", sub, code)
	}
}

// on tells how an object of a Kind is sent, its ID 181.
func on(kind uint8) produce.Comm { return produce.Comm{On: true, ID: 0x181, Kind: kind} }

// timed tells how an object of the Kind 255 is sent, its ID 181.
func timed(inhibit, event int64) produce.Comm {
	return produce.Comm{On: true, ID: 0x181, Kind: 255, Inhibit: inhibit, Event: event}
}

// set sets an object that must be taken.
func set(t *testing.T, p *produce.Producer, i int, c produce.Comm, l ...mapping.Map) {
	t.Helper()
	if code := p.Set(i, c, l); code != 0 {
		t.Fatalf("Set(%d, %v, %v): %x", i, c, l, code)
	}
}

// begun tells a producer that goes from 0 on, with one object, of 6000 sub 1.
func begun(t *testing.T, c produce.Comm) (*produce.Producer, *dict.Dict) {
	t.Helper()
	p, d := made(t)
	set(t, p, 0, c, to(1))
	p.Start(0)
	return p, d
}

// texts tells frames as their texts, and that each is right.
func texts(t *testing.T, l []api.Frame) string {
	t.Helper()
	var all []string
	for _, f := range l {
		s, errno := frame.Write(f)
		if errno != api.OK || f.Remote {
			t.Errorf("a frame that may not be sent: %v", f)
		}
		all = append(all, s)
	}
	return strings.Join(all, " ")
}

// ticks holds what Tick tells against frames' texts.
func ticks(t *testing.T, p *produce.Producer, now int64, want string) {
	t.Helper()
	if said := texts(t, p.Tick(now)); said != want {
		t.Errorf("Tick(%d): %q, want %q", now, said, want)
	}
}

// beats holds what Sync tells against frames' texts.
func beats(t *testing.T, p *produce.Producer, count uint8, now int64, want string) {
	t.Helper()
	if said := texts(t, p.Sync(count, now)); said != want {
		t.Errorf("Sync(%d, %d): %q, want %q", count, now, said, want)
	}
}

// due holds what Due tells against a time.
func due(t *testing.T, p *produce.Producer, want int64) {
	t.Helper()
	if n, ok := p.Due(); n != want || !ok {
		t.Errorf("Due: %d, %t, want %d", n, ok, want)
	}
}

// neverDue holds that Due tells nothing.
func neverDue(t *testing.T, p *produce.Producer) {
	t.Helper()
	if n, ok := p.Due(); n != 0 || ok {
		t.Errorf("Due: %d, %t, want 0, false", n, ok)
	}
}

// wants holds what Want tells.
func wants(t *testing.T, p *produce.Producer, i int, want bool) {
	t.Helper()
	if ok := p.Want(i); ok != want {
		t.Errorf("Want(%d): %t, want %t", i, ok, want)
	}
}

// has holds what Comm tells.
func has(t *testing.T, p *produce.Producer, i int, want produce.Comm, l ...mapping.Map) {
	t.Helper()
	if c, maps := p.Comm(i); c != want || !slices.Equal(maps, l) {
		t.Errorf("Comm(%d): %v, %v, want %v, %v", i, c, maps, want, l)
	}
}

// told tells all that a dictionary shows.
func told(d *dict.Dict) string {
	var all strings.Builder
	for _, e := range d.Entries() {
		b, ok := d.Get(at(e.Index, e.Sub))
		fmt.Fprintf(&all, "%v = %v %t\n", e, b, ok)
	}
	fmt.Fprintf(&all, "%d changes", d.Changes())
	return all.String()
}

func TestExamples(t *testing.T) {
	d, _ := dict.New([]api.Entry{{Index: 0x6000, Sub: 1, Type: api.TUint8, Rights: rwm}})
	p := produce.New(d)
	set(t, p, 0, timed(10, 50), to(1))
	p.Start(0)
	ticks(t, p, 0, "181#00")
	ticks(t, p, 5, "")
	put(t, d, 1, 7)
	ticks(t, p, 6, "")
	ticks(t, p, 10, "181#07")
	due(t, p, 60)

	set(t, p, 1, produce.Comm{On: true, ID: 0x281, Kind: 3}, to(1))
	beats(t, p, 0, 1, "")
	beats(t, p, 0, 1, "")
	beats(t, p, 0, 1, "281#07")

	set(t, p, 1, produce.Comm{})
	set(t, p, 2, produce.Comm{On: true, ID: 0x381, Kind: 2, Start: 4}, to(1))
	beats(t, p, 3, 2, "")
	beats(t, p, 4, 3, "381#07")
	beats(t, p, 5, 4, "")
	beats(t, p, 6, 5, "381#07")
}

func TestNew(t *testing.T) { // P13.1
	if p := produce.New(nil); p != nil {
		t.Errorf("New(nil): %v", p)
	}
	p, _ := made(t)
	for i := range api.MaxPDO {
		has(t, p, i, produce.Comm{})
		wants(t, p, i, false)
	}
	neverDue(t, p)
	beats(t, p, 0, 0, "")
	ticks(t, p, 0, "")
	p.Start(0)
	beats(t, p, 0, 0, "")
	ticks(t, p, 0, "")
	neverDue(t, p)
	for i := range api.MaxPDO {
		wants(t, p, i, false)
	}
}

// A producer that is not there refuses what is set, and is silent.
func TestNil(t *testing.T) { // P13.1
	var p *produce.Producer
	for _, i := range []int{-1, 0, 7, 8} {
		if code := p.Set(i, on(0), nil); code != api.AbGeneral {
			t.Errorf("Set(%d) of nil: %x", i, code)
		}
		has(t, p, i, produce.Comm{})
		wants(t, p, i, false)
	}
	if code := p.Set(0, produce.Comm{ID: 0x800}, times(65, to(1))); code != api.AbGeneral {
		t.Errorf("Set of nil, with more faults: %x", code)
	}
	p.Start(0)
	p.Stop()
	beats(t, p, 0, 0, "")
	ticks(t, p, 0, "")
	neverDue(t, p)
}

// Two producers over one dictionary go on their own.
func TestProducersAreApart(t *testing.T) { // P13.1
	p, d := begun(t, timed(0, 0))
	q := produce.New(d)
	set(t, q, 0, produce.Comm{On: true, ID: 0x182, Kind: 254}, to(1), to(2))
	ticks(t, p, 0, "181#00")
	ticks(t, q, 0, "")
	q.Start(1)
	ticks(t, q, 1, "182#0000")
	put(t, d, 1, 9)
	ticks(t, p, 2, "181#09")
	ticks(t, q, 2, "182#0900")
}

// What is strange comes back as nothing, and nothing panics.
func TestStrangeArguments(t *testing.T) {
	numbers := []int{math.MinInt, -1, 0, 1, 7, 8, 255, 256, math.MaxInt}
	moments := []int64{math.MinInt64, -1, 0, 1, api.MaxTime, api.MaxTime + 1, math.MaxInt64}
	mappings := [][]mapping.Map{nil, {}, row(mapping.Map{}), nowhere(), row(to(1)), times(8, to(1)), times(9, to(1)), times(64, to(1)), times(65, to(1)),
		row(mapping.Map{Place: at(0x6000, 1), Bits: math.MinInt}), row(mapping.Map{Place: at(0x6000, 1), Bits: math.MaxInt}), row(mapping.Of(0x00050008))}
	d, _ := dict.New(entries())
	for _, p := range []*produce.Producer{nil, new(produce.Producer), produce.New(d), produce.New(new(dict.Dict))} {
		for _, i := range numbers {
			for _, kind := range []uint8{0, 1, 240, 241, 254, 255} {
				for k, now := range moments {
					for _, l := range mappings {
						p.Set(i, produce.Comm{On: k%2 == 0, ID: 0x7FF, Kind: kind, Inhibit: now, Event: moments[len(moments)-1-k], Start: kind}, l)
						p.Comm(i)
						p.Want(i)
						p.Start(now)
						p.Want(i)
						p.Due()
						texts(t, p.Sync(kind, now))
						texts(t, p.Tick(now))
						p.Due()
					}
				}
			}
			p.Stop()
		}
	}
}

// What the frames carry is what the mapping packs, bit by bit.
func TestFramesArePacked(t *testing.T) { // P13.4, P13.5
	p, d := made(t)
	bit := mapping.Map{Place: at(0x6000, 9), Bits: 1}
	set(t, p, 3, timed(0, 0), bit, to(1), bit, to(2))
	set(t, p, 4, produce.Comm{On: true, ID: 0x7FF, Kind: 1}, to(8), to(7), to(6), to(5), to(4), to(3), to(2), to(1))
	set(t, p, 5, produce.Comm{On: true, ID: 0, Kind: 1})
	for sub := range uint8(8) {
		put(t, d, sub+1, 0x11*(sub+1))
	}
	put(t, d, 9, 1)
	p.Start(0)
	b, code := mapping.Pack(d, row(bit, to(1), bit, to(2)))
	if !bytes.Equal(b, []byte{0x23, 0x8A, 0}) || code != 0 {
		t.Fatalf("Pack: % x, %x", b, code)
	}
	ticks(t, p, 0, "181#238A00")
	beats(t, p, 1, 0, "7FF#8877665544332211 000#")
}
