package bus_test

import (
	"cmp"
	"slices"
	"testing"

	"campanile/api"
	"campanile/bus"
	"campanile/frame"
)

// dice tells numbers that look thrown and are the same at each run.
type dice uint64

func (d *dice) roll(n uint64) uint64 {
	*d = *d*6364136223846793005 + 1442695040888963407
	return uint64(*d>>33) % n
}

// frame tells a right frame out of few: many have one identifier, many are the same.
func (d *dice) frame() api.Frame {
	f := api.Frame{ID: uint16([]int{0, 0x80, 0x181, 0x182, 0x7FF}[d.roll(5)]), Len: int(d.roll(3)), Remote: d.roll(3) == 0}
	if f.Len > 0 && !f.Remote {
		f.Data[0] = byte(d.roll(2))
	}
	return f
}

// plain is a bus by the chapter's words: what waits stands as it was sent, and is sorted when it is asked for.
type plain struct {
	sent  []bus.Sent
	count int64
}

func (p *plain) send(node int, f api.Frame) api.Errno {
	if node < 0 {
		return api.ErrArg
	}
	if !frame.Right(f) {
		return api.ErrFrame
	}
	if len(p.sent) == 512 {
		return api.ErrBus
	}
	p.sent = append(p.sent, bus.Sent{Node: node, Frame: f, Number: p.count})
	p.count++
	return api.OK
}

func (p *plain) waits() []bus.Sent {
	all := slices.Clone(p.sent)
	slices.SortStableFunc(all, func(a, b bus.Sent) int {
		kind := func(s bus.Sent) int {
			if s.Frame.Remote {
				return 1
			}
			return 0
		}
		return cmp.Or(cmp.Compare(a.Frame.ID, b.Frame.ID), cmp.Compare(kind(a), kind(b)))
	})
	return all
}

func (p *plain) next() (bus.Sent, bool) {
	if len(p.sent) == 0 {
		return bus.Sent{}, false
	}
	first := p.waits()[0]
	p.sent = slices.DeleteFunc(p.sent, func(s bus.Sent) bool { return s == first })
	return first, true
}

func (p *plain) gone(node int) int {
	before := len(p.sent)
	p.sent = slices.DeleteFunc(p.sent, func(s bus.Sent) bool { return s.Node == node })
	return before - len(p.sent)
}

// row does thrown calls, on a bus and on one by the chapter's words, and holds their answers against each other; of each kind of call there are as many as its share says.
type row struct {
	d               dice
	b               *bus.Bus
	p               plain
	sends, nexts    uint64
	gones, rejected uint64
}

func (r *row) step(t *testing.T) {
	t.Helper()
	n := r.d.roll(r.sends + r.nexts + r.gones + r.rejected)
	switch {
	case n < r.sends:
		r.send(t, int(r.d.roll(6)), r.d.frame())
	case n < r.sends+r.nexts:
		got, ok := r.b.Next()
		if want, wantOK := r.p.next(); got != want || ok != wantOK {
			t.Fatalf("Next: %v, %t, want %v, %t", got, ok, want, wantOK)
		}
	case n < r.sends+r.nexts+r.gones:
		node := int(r.d.roll(8)) - 1
		if got, want := r.b.Gone(node), r.p.gone(node); got != want {
			t.Fatalf("Gone(%d): %d, want %d", node, got, want)
		}
	default:
		wrong := wrongFrames()
		r.send(t, int(r.d.roll(3))-1, wrong[r.d.roll(uint64(len(wrong)))])
	}
}

func (r *row) send(t *testing.T, node int, f api.Frame) {
	t.Helper()
	if got, want := r.b.Send(node, f), r.p.send(node, f); got != want {
		t.Fatalf("Send(%d, %v): %d, want %d", node, f, got, want)
	}
}

func TestThrownRows(t *testing.T) { // P4.2 to P4.5
	shares := []row{
		{sends: 5, nexts: 3, gones: 1, rejected: 1},
		{sends: 60, nexts: 10, rejected: 2},
		{sends: 2, nexts: 5, gones: 1},
		{sends: 30, nexts: 20, gones: 1, rejected: 5},
	}
	for seed := range 40 {
		r := shares[seed%len(shares)]
		r.d, r.b = dice(seed), bus.New()
		for i := range 900 {
			r.step(t)
			if i%9 == 0 {
				waits(t, r.b, r.p.count, r.p.waits()...)
			}
			if i%50 == 0 { // go on with a copy: it must be the same in all
				r.b = r.b.Copy()
			}
		}
		waits(t, r.b, r.p.count, r.p.waits()...)
		if t.Failed() {
			t.Fatalf("seed %d", seed)
		}
	}
}

// Every bus does the same at the same calls.
func TestSameCallsSameAnswers(t *testing.T) { // P4.3, P4.4
	for seed := range 5 {
		a := row{d: dice(seed), b: bus.New(), sends: 5, nexts: 2, gones: 1}
		b := a
		b.b = bus.New()
		for range 200 {
			a.step(t)
		}
		for range 200 {
			b.step(t)
		}
		waits(t, b.b, a.b.Count(), a.b.Waits()...)
	}
}
