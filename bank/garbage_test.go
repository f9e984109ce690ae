package bank_test

import (
	"bytes"
	"testing"

	"campanile/api"
	"campanile/crc"
	"campanile/flash"
	"campanile/journal"
)

// write makes a sector hold bytes.
func write(t *testing.T, f *flash.Flash, sector int, b []byte) {
	t.Helper()
	is(t, "Erase", f.Erase(sector), api.OK)
	for w := range 256 {
		is(t, "Write", f.Write(sector, w, [4]byte(b[4*w:4*w+4])), api.OK)
	}
}

// sectorsOf tells all sectors of a flash.
func sectorsOf(t *testing.T, f *flash.Flash) [][]byte {
	t.Helper()
	var all [][]byte
	for n := range f.Sectors() {
		b, errno := f.Read(n)
		is(t, "Read", errno, api.OK)
		all = append(all, b)
	}
	return all
}

// takes opens whatever stands in sectors: it keeps what it finds there, and the calls do what the chapter says, wherever the power goes.
func takes(t *testing.T, what string, f *flash.Flash, first, count int, d *dice) {
	t.Helper()
	check := fence(t, f, first, count)
	s := &subject{f, first, count, opened(t, f, first, count)}
	p := plain{room: roomOf(count), seen: shown(t, s.p)}
	finds(t, "opened", f, first, count, p.seen)
	b := d.bytes(1 + d.roll(30))
	for _, c := range []call{goesBack(), begins(b)} {
		for after := 0; ; after += 1 + after/3 {
			other := &subject{f.Copy(), first, count, nil}
			other.p = opened(t, other.f, first, count)
			if !cutAt(t, other, p, c, after) {
				break
			}
		}
	}
	for _, c := range append(append(lays(b), goesBack(), opens()), d.row(10, p.room)...) {
		is(t, c.kind, s.do(c), p.do(c))
		shows(t, c.kind, s.p, p.seen)
		finds(t, c.kind, f, first, count, p.seen)
	}
	check()
	if t.Failed() {
		t.Fatal(what)
	}
}

func TestThrownSectors(t *testing.T) { // P7.5
	for seed := range 60 {
		d, f := dice(seed), made(t, 8)
		for n := range 8 {
			b := d.bytes(1024)
			if d.roll(4) == 0 {
				b = bytes.Repeat([]byte{[]byte{0, 1, 2, 3, 0xAA, 255}[d.roll(6)]}, 1024)
			}
			if d.roll(3) == 0 { // only some words
				copy(b[d.roll(256)*4:], bytes.Repeat([]byte{255}, 1024))
			}
			write(t, f, n, b)
		}
		takes(t, "thrown sectors", f, 1, 4+d.roll(4), &d)
	}
}

// Bytes of a pair's sectors are others than they were.
func TestSpoiltBytes(t *testing.T) { // P7.5
	for seed := range 80 {
		d := dice(seed)
		count := 4 + d.roll(4)
		s, _ := replay(t, d.row(5+d.roll(30), 200), 8, 0, count)
		all := sectorsOf(t, s.f)
		for range 1 + d.roll(6) {
			b := all[d.roll(count)]
			at := d.roll(1024)
			if d.roll(2) == 0 { // near what begins a sector
				at = d.roll(64)
			}
			b[at] = d.bytes(1)[0]
		}
		for n, b := range all {
			write(t, s.f, n, b)
		}
		takes(t, "spoilt bytes", s.f, 0, count, &d)
	}
}

// A program of which a bit is another one neither runs nor is gone back to.
func TestSpoiltPrograms(t *testing.T) { // P7.5
	d := dice(5)
	one, two := filled(40, 1), filled(37, 2)
	row := append(lays(one), lays(two)...)
	for bit := range 8 * 40 {
		for n, b := range [][]byte{one, two} {
			s, _ := replay(t, row, 4, 0, 4)
			if bit/8 >= len(b) {
				continue
			}
			spoilt, _ := s.f.Read(2 + n)
			if !bytes.HasPrefix(spoilt, b) {
				t.Fatalf("the sector %d does not begin with the program %d", 2+n, n)
			}
			spoilt[bit/8] ^= 1 << (bit % 8)
			write(t, s.f, 2+n, spoilt)
			got := found(t, s.f, 0, 4)
			for _, told := range []string{got.running, got.previous} {
				if told != "" && told != string(one) && told != string(two) {
					t.Fatalf("bit %d of the program %d: %q", bit, n, got.brief())
				}
			}
			if n == 0 && got != (showing{1, string(two), "", 2}) {
				t.Fatalf("bit %d of the previous one: %q", bit, got.brief())
			}
			if n == 1 && got.running == string(two) {
				t.Fatalf("bit %d of the running one: it runs", bit)
			}
			takes(t, "a bit spoilt", s.f, 0, 4, &d)
		}
	}
}

// Where the running program is spoilt, what is begun in its bank does not run ahead of its Commit, though it is the same.
func TestSpoiltProgramPutAgain(t *testing.T) { // P7.2, P7.5
	b := []byte("program")
	s, _ := replay(t, lays(b), 4, 0, 4)
	write(t, s.f, 2, make([]byte, 1024))
	p := opened(t, s.f, 0, 4)
	want := showing{0, "", "", p.Version()}
	shows(t, "spoilt", p, want)
	is(t, "Begin", p.Begin(len(b), crc.Sum(b)), api.OK)
	finds(t, "begun", s.f, 0, 4, want)
	is(t, "Put", p.Put(b), api.OK)
	finds(t, "put", s.f, 0, 4, want)
	is(t, "Put", p.Put(nil), api.OK)
	is(t, "Commit", p.Commit(), api.OK)
	finds(t, "committed", s.f, 0, 4, showing{0, "program", "", want.version + 1})
}

// Sectors that another pair was opened in, from another one on or with more or fewer of them.
func TestPairOfOtherSectors(t *testing.T) { // P7.5
	for seed := range 3 {
		for first := range 3 {
			for count := 4; first+count <= 8; count++ {
				d := dice(seed)
				s, _ := replay(t, d.row(20, 300), 8, first, count)
				for again := range 4 {
					for more := 4; again+more <= 8; more++ {
						takes(t, "another pair's sectors", s.f.Copy(), again, more, &d)
					}
				}
			}
		}
	}
}

// Sectors of a pair's different times stand beside each other.
func TestSectorsOfOtherTimes(t *testing.T) { // P7.5
	d, f := dice(9), made(t, 4)
	p := opened(t, f, 0, 4)
	var times [][][]byte
	for i := range 120 {
		lay(t, p, filled(1+i%40, byte(i)))
		times = append(times, sectorsOf(t, f))
	}
	for range 100 {
		for n := range 4 {
			write(t, f, n, times[d.roll(len(times))][n])
		}
		takes(t, "sectors of other times", f, 0, 4, &d)
	}
}

// A journal of somebody else's stands there, in as much room as there is: a pair works all the same.
func TestJournalOfOthers(t *testing.T) { // P7.2, P7.5
	for seed := range 12 {
		for _, size := range []int{0, 5, 12, 13, 14, 40, 48} {
			d, f := dice(seed), made(t, 4)
			j, _ := journal.Open(f, 0, 2)
			for g := range uint8(16) {
				if seed%3 != 2 || g%2 == 0 {
					is(t, "Store", j.Store(g, d.bytes(size)), api.OK)
				}
			}
			if seed%2 == 1 {
				j.Restore(0)
				j.Restore(3)
			}
			takes(t, "a journal of others", f, 0, 4, &d)
		}
	}
}

// A journal that just one group of others fills.
func TestGreatGroupOfOthers(t *testing.T) { // P7.2, P7.5
	for g := range uint8(16) {
		d, f := dice(g), made(t, 4)
		j, _ := journal.Open(f, 0, 2)
		is(t, "Store", j.Store(g, d.bytes(996)), api.OK)
		takes(t, "a great group of others", f, 0, 4, &d)
	}
}

// Others write to the banks while a program is begun: it does not run with other bytes than those of its check.
func TestOthersWrite(t *testing.T) { // P7.5
	for seed := range 200 {
		d, f := dice(seed), made(t, 4)
		p := opened(t, f, 0, 4)
		lay(t, p, []byte("one"))
		b := d.bytes(20 + d.roll(20))
		is(t, "Begin", p.Begin(len(b), crc.Sum(b)), api.OK)
		put := d.roll(len(b))
		is(t, "Put", p.Put(b[:put]), api.OK)
		write(t, f, 3, d.bytes(1024))
		if errno := p.Put(b[put:]); errno != api.OK && errno != api.ErrErase {
			t.Errorf("Put: %d", errno)
		}
		errno := p.Commit()
		if errno == api.OK {
			shows(t, "committed", p, showing{1, string(b), "one", 2})
		} else {
			shows(t, "behind an error", p, showing{0, "one", "", 1})
		}
		finds(t, "in the end", f, 0, 4, shown(t, p))
		goesOn(t, f, 0, 4)
		if t.Failed() {
			t.Fatalf("seed %d, Commit: %d", seed, errno)
		}
	}
}

// However a row goes: every program that ever ran is one that was begun, with its size and its check.
func TestEveryProgramThatRanHadItsCheck(t *testing.T) { // P7.5
	type promise struct {
		size  int
		check uint16
	}
	for seed := range 60 {
		d, f := dice(seed), made(t, 4)
		s := &subject{f, 0, 4, opened(t, f, 0, 4)}
		given := map[promise]struct{}{}
		for _, c := range d.row(80, 60) {
			if d.roll(6) == 0 {
				f.Cut(d.roll(12))
			}
			if c.kind == "begin" {
				given[promise{c.size, c.check}] = struct{}{}
			}
			if s.do(c) == api.ErrCut {
				f.On()
				is(t, "Open", s.do(opens()), api.OK)
			}
			if _, b, runs := s.p.Running(); runs {
				if _, begun := given[promise{len(b), crc.Sum(b)}]; !begun {
					t.Fatalf("seed %d: a program of %d bytes runs, with a check that none was begun with", seed, len(b))
				}
			}
		}
	}
}
