package consume_test

import (
	"bytes"
	"fmt"
	"testing"

	"campanile/api"
	"campanile/consume"
	"campanile/dict"
	"campanile/mapping"
	"campanile/produce"
)

// pair is a producer and a consumer, each over a dictionary of its own, with the same objects.
type pair struct {
	from, to *dict.Dict
	p        *produce.Producer
	c        *consume.Consumer
}

func paired(t *testing.T, l ...api.Entry) pair {
	t.Helper()
	d, errno := dict.New(l)
	if errno != api.OK {
		t.Fatalf("dict.New: %d", errno)
	}
	other := d.Copy()
	return pair{from: d, to: other, p: produce.New(d), c: consume.New(other)}
}

// set gives both an object, the same one.
func (x pair) set(t *testing.T, i int, m produce.Comm, l ...mapping.Map) {
	t.Helper()
	set(t, x.c, i, m, l...)
	if code := x.p.Set(i, m, l); code != 0 {
		t.Fatalf("the producer's Set(%d, %v, %v): %x", i, m, l, code)
	}
}

// packed tells what a mapping packs of a dictionary.
func packed(t *testing.T, d *dict.Dict, l []mapping.Map) []byte {
	t.Helper()
	b, code := mapping.Pack(d, l)
	if code != 0 {
		t.Fatalf("Pack(%v): %x", l, code)
	}
	return b
}

// several tells entries of several types, all mapped: 6000 sub 1 to 6.
func several() []api.Entry {
	var l []api.Entry
	for i, kind := range []uint8{api.TUint8, api.TBool, api.TInt16, api.TUint24, api.TReal32, api.TUint64} {
		l = append(l, api.Entry{Index: 0x6000, Sub: uint8(i + 1), Type: kind, Rights: rwm})
	}
	return l
}

// mixed tells mappings of these.
func mixed() [][]mapping.Map {
	return [][]mapping.Map{
		nil,
		row(mapping.Of(0x60000108)),
		row(mapping.Of(0x60000201), mapping.Of(0x60000310), mapping.Of(0x60000108)),
		row(mapping.Of(0x60000418), mapping.Of(0x60000520)),
		row(mapping.Of(0x60000640)),
		row(mapping.Of(0x60000208), mapping.Of(0x60000418), mapping.Of(0x60000108), mapping.Of(0x60000310)),
	}
}

// throw sets thrown values to all entries.
func throw(t *testing.T, r *dice, d *dict.Dict) {
	t.Helper()
	for _, e := range d.Entries() {
		b, _ := d.Get(at(e.Index, e.Sub))
		for i := range b {
			b[i] = byte(r.roll(256))
			if e.Type == api.TBool {
				b[i] %= 2
			}
		}
		if code := d.Write(at(e.Index, e.Sub), b); code != 0 {
			t.Fatalf("Write(%v): %x", e, code)
		}
	}
}

// What is sent as time goes is in the consumer's dictionary at once.
func TestPairAtOnce(t *testing.T) { // P14.6
	for _, kind := range []uint8{254, 255} {
		for _, l := range mixed() {
			x := paired(t, several()...)
			x.set(t, 3, on(kind), l...)
			x.p.Start(0)
			x.c.Start()
			r := dice(len(l))
			for now := range int64(50) {
				throw(t, &r, x.from)
				sent := x.p.Tick(now)
				for _, f := range sent {
					if said := shown(x.c.Hear(f, now, now%2 == 0)); said != "3 OK" {
						t.Fatalf("Hear(%v): %s", f, said)
					}
				}
				if len(l) > 0 && len(sent) != 1 {
					t.Fatalf("the producer sent %v", sent)
				}
				if a, b := packed(t, x.from, l), packed(t, x.to, l); !bytes.Equal(a, b) {
					t.Fatalf("% x was sent, % x is there", a, b)
				}
				beats(t, x.c, "")
			}
		}
	}
}

// What is sent at a beat is in the consumer's dictionary behind the next one, and not ahead of it.
func TestPairAtBeats(t *testing.T) { // P14.6
	for _, kind := range []uint8{0, 1, 2, 7, 240} {
		for _, l := range mixed() {
			x := paired(t, several()...)
			x.set(t, 6, on(kind), l...)
			x.p.Start(0)
			x.c.Start()
			r := dice(int(kind) + len(l))
			want, there := packed(t, x.to, l), 0
			for now := range int64(500) {
				changes := x.to.Changes()
				throw(t, &r, x.from)
				sent := x.p.Sync(uint8(now), now)
				for _, f := range sent {
					if r := x.c.Hear(f, now, true); len(r) != 0 {
						t.Fatalf("Hear(%v): %v", f, r)
					}
				}
				x.c.Tick(now)
				if b := packed(t, x.to, l); !bytes.Equal(b, want) || x.to.Changes() != changes {
					t.Fatalf("ahead of the beat % x is there, and % x was", b, want)
				}
				if len(sent) > 0 {
					want = packed(t, x.from, l)
					there++
				}
				throw(t, &r, x.from) // what is sent is told of then, not of now
				beats(t, x.c, map[bool]string{true: "6 OK"}[len(sent) > 0])
				if b := packed(t, x.to, l); !bytes.Equal(b, want) {
					t.Fatalf("% x was sent, % x is there", want, b)
				}
			}
			if least := 480 / max(1, int(kind)); there < least && len(l) > 0 { // of the Kind 0 a thrown value may be the one ahead of it
				t.Errorf("of the Kind %d only %d frames were sent", kind, there)
			}
		}
	}
}

// Between beats objects of the Kinds 0 to 240 change nothing, whatever comes; at a beat all that they hold is there at once.
func TestPairOfAllKinds(t *testing.T) { // P14.6, P14.3
	wrote := 0
	for seed := range 100 {
		r := dice(9000 + seed)
		x := paired(t, entries()...)
		for i := range 8 {
			m := produce.Comm{On: true, ID: uint16(0x200 + i), Kind: pick(&r, uint8(0), 1, 2, 3)}
			x.set(t, i, m, to(uint8(i+1)))
		}
		x.p.Start(0)
		x.c.Start()
		for now := range int64(40) {
			was := told(x.to)
			expected := x.to.Copy()
			var want []consume.Result
			for range r.roll(10) {
				put(t, x.from, uint8(1+r.roll(8)), byte(r.roll(10)))
			}
			for _, f := range x.p.Sync(1, now) {
				i := int(f.ID - 0x200)
				open := r.roll(4) > 0
				heard := x.c.Hear(f, now, open)
				if open {
					want = append(want, consume.Result{Number: i})
					put(t, expected, uint8(i+1), f.Data[0])
				}
				if (shown(heard) == fmt.Sprint(i, " AbState")) == open || open && len(heard) > 0 {
					t.Errorf("Hear(%v, %t): %v", f, open, heard)
				}
			}
			if told(x.to) != was {
				t.Fatalf("between beats the dictionary was\n%s\nand is\n%s", was, told(x.to))
			}
			beats(t, x.c, shown(want))
			if told(x.to) != told(expected) {
				t.Fatalf("behind the beat the dictionary is\n%s\nwant\n%s", told(x.to), told(expected))
			}
			wrote += len(want)
		}
	}
	if wrote < 1000 {
		t.Errorf("only %d frames were written", wrote)
	}
}
