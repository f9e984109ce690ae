package journal_test

import (
	"bytes"
	"slices"
	"testing"

	"campanile/api"
	"campanile/flash"
)

// lay makes a sector hold bytes.
func lay(t *testing.T, f *flash.Flash, sector int, b []byte) {
	t.Helper()
	is(t, "Erase", f.Erase(sector), api.OK)
	for w := range 256 {
		is(t, "Write", f.Write(sector, w, [4]byte(b[4*w:4*w+4])), api.OK)
	}
}

// sectorsOf tells all sectors of a flash.
func sectorsOf(t *testing.T, f *flash.Flash) [][]byte {
	t.Helper()
	var all [][]byte
	for n := range f.Sectors() {
		b, errno := f.Read(n)
		is(t, "Read", errno, api.OK)
		all = append(all, b)
	}
	return all
}

// takesAll opens whatever stands in sectors: what is found there is kept, and what is stored and marked is found again, wherever the power goes.
func takesAll(t *testing.T, f *flash.Flash, first, count int, d *dice) {
	t.Helper()
	check := fence(t, f, first, count)
	s := &subject{f, first, count, opened(t, f, first, count)}
	p := newPlain(count, held(t, s.j))
	finds(t, "opened", f, first, count, p.there)
	for g := range uint8(16) { // each one that is found is marked ahead of its storing
		if _, there := p.there[g]; there {
			c := call{"restore", g, nil}
			is(t, c.kind, s.do(c), p.do(c))
			finds(t, c.kind, f, first, count, p.stays())
		}
		c := call{"store", g, d.bytes(d.roll(50))}
		is(t, c.kind, s.do(c), p.do(c))
		holds(t, c.kind, s.j, p.there)
		finds(t, c.kind, f, first, count, p.stays())
	}
	for _, c := range d.row(12, min(roomOf(count), 4096)) {
		is(t, c.kind, s.do(c), p.do(c))
		holds(t, c.kind, s.j, p.there)
		finds(t, c.kind, f, first, count, p.stays())
	}
	check()
}

// firstStore does one call of what is found in other sectors, and cuts it.
func firstStore(t *testing.T, f *flash.Flash, first, count int, d *dice) {
	t.Helper()
	c := call{"store", uint8(d.roll(16)), d.bytes(d.roll(30))}
	for after := 0; ; after += 1 + after/3 {
		s := &subject{f.Copy(), first, count, nil}
		s.j = opened(t, s.f, first, count)
		if !cutAt(t, s, newPlain(count, held(t, s.j)), c, after) {
			return
		}
	}
}

// takes does both.
func takes(t *testing.T, what string, f *flash.Flash, first, count int, d *dice) {
	t.Helper()
	firstStore(t, f, first, count, d)
	takesAll(t, f, first, count, d)
	if t.Failed() {
		t.Fatal(what)
	}
}

func TestThrownSectors(t *testing.T) { // P6.5
	for seed := range 60 {
		d, f := dice(seed), made(t, 5)
		for n := range 5 {
			b := d.bytes(1024)
			if d.roll(4) == 0 {
				b = bytes.Repeat([]byte{[]byte{0, 1, 2, 3, 0xAA, 255}[d.roll(6)]}, 1024)
			}
			if d.roll(3) == 0 { // only some words
				copy(b[d.roll(256)*4:], bytes.Repeat([]byte{255}, 1024))
			}
			lay(t, f, n, b)
		}
		takes(t, "thrown sectors", f, 1, 2+d.roll(3), &d)
	}
}

// used tells a flash whose journal was used for some calls.
func used(t *testing.T, d *dice, sectors, first, count, calls int) *flash.Flash {
	t.Helper()
	s, _ := replay(t, d.row(calls, 300), sectors, first, count)
	return s.f
}

// Words of a journal are others than they were.
func TestSpoiltWords(t *testing.T) { // P6.5
	for seed := range 80 {
		d := dice(seed)
		count := 2 + d.roll(4)
		f := used(t, &d, 6, 0, count, 5+d.roll(40))
		all := sectorsOf(t, f)
		for range 1 + d.roll(6) {
			b := all[d.roll(count)]
			at := d.roll(1024)
			if d.roll(2) == 0 { // near what begins a sector
				at = d.roll(64)
			}
			b[at] = d.bytes(1)[0]
		}
		for n, b := range all {
			lay(t, f, n, b)
		}
		takes(t, "spoilt words", f, 0, count, &d)
	}
}

// Every byte of a short journal is another one, one by one.
func TestEachByteSpoilt(t *testing.T) { // P6.5
	d := dice(8)
	f := made(t, 2)
	j := opened(t, f, 0, 2)
	is(t, "Store", j.Store(0, []byte("abcde")), api.OK)
	is(t, "Store", j.Store(1, nil), api.OK)
	is(t, "Restore", j.Restore(0), api.OK)
	for n, b := range sectorsOf(t, f) {
		end := len(b)
		for end > 0 && b[end-1] == 255 {
			end--
		}
		for at := range min(end+8, 1024) {
			for _, x := range []byte{1, 128, 255} {
				c := f.Copy()
				spoilt := slices.Clone(b)
				spoilt[at] ^= x
				lay(t, c, n, spoilt)
				takes(t, "a byte spoilt", c, 0, 2, &d)
			}
		}
	}
}

// Sectors of a journal's different times stand beside each other: both halves may be any number of fillings from each other.
func TestSectorsOfOtherTimes(t *testing.T) { // P6.5
	d, f := dice(11), made(t, 2)
	j := opened(t, f, 0, 2)
	var times [][][]byte
	for i := range 1300 {
		is(t, "Store", j.Store(uint8(i%2), filled(440, byte(i))), api.OK)
		if i%2 == 1 {
			times = append(times, sectorsOf(t, f))
		}
	}
	for range 150 {
		one, other := times[d.roll(len(times))], times[d.roll(len(times))]
		lay(t, f, 0, one[d.roll(2)])
		lay(t, f, 1, other[d.roll(2)])
		takes(t, "sectors of other times", f, 0, 2, &d)
	}
	for n := range 300 { // the same sector as it was so many fillings later
		one, other := times[20], times[20+n]
		lay(t, f, 0, one[n/2%2])
		lay(t, f, 1, other[n/2%2])
		takes(t, "a sector of another time", f, 0, 2, &d)
	}
}

// Sectors that another journal was opened in, from another one on or with more or fewer of them.
func TestJournalOfOtherSectors(t *testing.T) { // P6.5
	for seed := range 6 {
		for first := range 3 {
			for count := 2; first+count <= 6; count++ {
				d := dice(seed)
				f := used(t, &d, 6, first, count, 30)
				for again := range 5 {
					for more := 2; again+more <= 6; more++ {
						takes(t, "another journal's sectors", f.Copy(), again, more, &d)
					}
				}
			}
		}
	}
}

// Others write to the sectors while a journal is open: its calls go on all the same.
func TestOthersWrite(t *testing.T) { // P6.2: a call has no other errors than those that are named
	for seed := range 60 {
		d, f := dice(seed), made(t, 2)
		s := &subject{f, 0, 2, opened(t, f, 0, 2)}
		p := newPlain(2, holding{})
		for i, c := range d.row(40, 300) {
			if i%5 == 4 {
				lay(t, f, d.roll(2), d.bytes(1024))
			}
			if c.kind == "open" {
				continue
			}
			is(t, c.kind, s.do(c), p.do(c))
			holds(t, c.kind, s.j, p.there)
		}
		if t.Failed() {
			t.Fatalf("seed %d", seed)
		}
	}
}
