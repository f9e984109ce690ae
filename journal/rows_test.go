package journal_test

import (
	"bytes"
	"testing"

	"campanile/api"
	"campanile/flash"
	"campanile/journal"
)

// dice tells numbers that look thrown and are the same at each run.
type dice uint64

func (d *dice) roll(n int) int {
	*d = *d*6364136223846793005 + 1442695040888963407
	return int(uint64(*d>>33) % uint64(n))
}

func (d *dice) bytes(n int) []byte {
	b := make([]byte, n)
	for i := range b {
		b[i] = []byte{255, 0, byte(d.roll(256)), byte(d.roll(256))}[d.roll(4)]
	}
	return b
}

// call is one call: it stores (bytes), restores, or opens.
type call struct {
	kind  string
	group uint8
	bytes []byte
}

// call tells a thrown one; sizes up to most, some of which are one past a limit.
func (d *dice) call(most int) call {
	c := call{kind: []string{"store", "store", "store", "store", "store", "restore", "restore", "open"}[d.roll(8)], group: uint8(d.roll(17))}
	if d.roll(3) > 0 { // most calls are of few groups
		c.group = uint8(d.roll(3))
	}
	if c.kind == "store" {
		size := []int{d.roll(12), d.roll(60), d.roll(60), d.roll(most + 1), most / 3, most, most + 1, 4097}[d.roll(8)]
		c.bytes = d.bytes(size)
	}
	return c
}

func (d *dice) row(calls, most int) []call {
	var row []call
	for range calls {
		row = append(row, d.call(most))
	}
	return row
}

// subject is a journal in sectors of a flash; what is opened anew takes its place.
type subject struct {
	f            *flash.Flash
	first, count int
	j            *journal.Journal
}

func (s *subject) do(c call) api.Errno {
	switch c.kind {
	case "store":
		return s.j.Store(c.group, c.bytes)
	case "restore":
		return s.j.Restore(c.group)
	}
	j, errno := journal.Open(s.f, s.first, s.count)
	if errno == api.OK {
		s.j = j
	}
	return errno
}

// plain is a journal by the chapter's words, in a flash whose power does not go.
type plain struct {
	count  int
	there  holding
	marked map[uint8]struct{}
}

func newPlain(count int, there holding) plain {
	return plain{count: count, there: there, marked: map[uint8]struct{}{}}
}

func (p plain) copied() plain {
	c := newPlain(p.count, holding{})
	for n, b := range p.there {
		c.there[n] = b
	}
	for n := range p.marked {
		c.marked[n] = struct{}{}
	}
	return c
}

// stays tells what the next opening finds.
func (p plain) stays() holding {
	h := holding{}
	for n, b := range p.there {
		if _, marked := p.marked[n]; !marked {
			h[n] = b
		}
	}
	return h
}

func (p *plain) do(c call) api.Errno {
	switch {
	case c.kind == "open":
		*p = newPlain(p.count, p.stays())
	case c.group > 15:
		return api.ErrGroup
	case c.kind == "restore":
		if _, there := p.there[c.group]; !there {
			return api.ErrNone
		}
		p.marked[c.group] = struct{}{}
	case len(c.bytes) > 4096:
		return api.ErrLimit
	default:
		after := p.copied()
		after.there[c.group] = string(c.bytes)
		delete(after.marked, c.group)
		sum := 0
		for _, b := range after.stays() {
			sum += 12 + len(b)
			for sum%4 != 0 {
				sum++
			}
		}
		if sum > p.count/2*1024-16 {
			return api.ErrFull
		}
		*p = after
	}
	return api.OK
}

// fence writes something to every sector that is not the journal's, and tells a check that it stands.
func fence(t *testing.T, f *flash.Flash, first, count int) func() {
	t.Helper()
	before := map[int][]byte{}
	for n := range f.Sectors() {
		if n >= first && n < first+count {
			continue
		}
		for w := range 256 {
			f.Write(n, w, [4]byte{byte(n), byte(w), 255, 0})
		}
		before[n], _ = f.Read(n)
	}
	return func() {
		t.Helper()
		c := f.Copy()
		c.On()
		for n, want := range before {
			if got, errno := c.Read(n); errno != api.OK || !bytes.Equal(got, want) {
				t.Fatalf("sector %d is not the journal's, and has changed", n)
			}
		}
	}
}

// shapes are sectors of a flash, first, count, with the number of bytes that just fit.
func shapes() [][3]int {
	return [][3]int{{4, 0, 2}, {4, 1, 2}, {4, 2, 2}, {5, 1, 3}, {6, 1, 4}, {9, 2, 5}, {12, 1, 10}}
}

func TestThrownRows(t *testing.T) { // P6.1 to P6.4
	for seed := range 40 {
		for _, s := range shapes() {
			d, f := dice(seed), made(t, s[0])
			check := fence(t, f, s[1], s[2])
			subj := &subject{f, s[1], s[2], opened(t, f, s[1], s[2])}
			p := newPlain(s[2], holding{})
			for i, c := range d.row(80, min(roomOf(s[2]), 4096)) {
				handed := bytes.Clone(c.bytes)
				got, want := subj.do(c), p.do(c)
				if got != want {
					t.Fatalf("seed %d, %v, call %d, %s of %d, %d bytes: %d, want %d", seed, s, i, c.kind, c.group, len(c.bytes), got, want)
				}
				if !bytes.Equal(handed, c.bytes) {
					t.Fatalf("seed %d, %v, call %d: what was handed in has changed", seed, s, i)
				}
				holds(t, c.kind, subj.j, p.there)
				finds(t, c.kind, f, s[1], s[2], p.stays())
				if t.Failed() {
					t.Fatalf("seed %d, %v, call %d, %s of %d", seed, s, i, c.kind, c.group)
				}
			}
			check()
		}
	}
}

// A journal goes on for ever, however often it must make room.
func TestLongRow(t *testing.T) { // P6.2
	f := made(t, 2)
	j, want := opened(t, f, 0, 2), holding{}
	for i := range 3000 {
		g, b := uint8(i%3), filled(200+i%100, byte(i))
		is(t, "Store", j.Store(g, b), api.OK)
		want[g] = string(b)
		if i%10 == 0 {
			holds(t, "stored", j, want)
			finds(t, "stored", f, 0, 2, want)
		}
		if i%50 == 0 {
			j = opened(t, f, 0, 2)
		}
		if t.Failed() {
			t.Fatalf("store %d", i)
		}
	}
}

// replay tells a journal behind the calls of a row, and the plain one.
func replay(t *testing.T, row []call, sectors, first, count int) (*subject, plain) {
	t.Helper()
	f := made(t, sectors)
	s, p := &subject{f, first, count, opened(t, f, first, count)}, newPlain(count, holding{})
	for _, c := range row {
		if got, want := s.do(c), p.do(c); got != want {
			t.Fatalf("%s of %d: %d, want %d", c.kind, c.group, got, want)
		}
	}
	return s, p
}

// cutAt does a call whose power goes behind so many steps, and tells whether it did. Whatever stands then is found as of ahead of the call, or as of behind it.
func cutAt(t *testing.T, s *subject, p plain, c call, after int) bool {
	t.Helper()
	behind := p.copied()
	want := behind.do(c)
	s.f.Cut(after)
	got := s.do(c)
	if got == want {
		s.f.On()
		holds(t, "done", s.j, behind.there)
		finds(t, "done", s.f, s.first, s.count, behind.stays())
		return false
	}
	if got != api.ErrCut || !s.f.Off() {
		t.Fatalf("%s of %d, cut behind %d steps: %d, want ErrCut or %d", c.kind, c.group, after, got, want)
	}
	holds(t, "cut, and no power", s.j, p.there)
	s.f.On()
	steps := s.f.Steps()
	is(t, "Store behind ErrCut", s.j.Store(0, nil), api.ErrCut)
	is(t, "Restore behind ErrCut", s.j.Restore(0), api.ErrCut)
	is(t, "Restore of none behind ErrCut", s.j.Restore(14), api.ErrCut)
	if s.f.Steps() != steps {
		t.Error("a journal behind ErrCut has written")
	}
	holds(t, "cut", s.j, p.there)
	if is := found(t, s.f, s.first, s.count); !is.same(p.stays()) && !is.same(behind.stays()) {
		t.Errorf("cut: an opening finds %v, want %v or %v (or other bytes)", is.sizes(), p.stays().sizes(), behind.stays().sizes())
	}
	return true
}

// fullRow ends in calls that must make room first, marked groups among what stands.
func fullRow() []call {
	d := dice(99)
	row := []call{
		{"store", 0, d.bytes(100)}, {"store", 1, d.bytes(203)}, {"store", 2, nil}, {"restore", 1, nil},
		{"store", 3, d.bytes(300)}, {"store", 0, d.bytes(160)}, {"restore", 2, nil},
		{"store", 4, d.bytes(250)}, {"store", 1, d.bytes(5)}, {"store", 4, d.bytes(330)},
		{"restore", 3, nil}, {"store", 5, d.bytes(290)}, {"open", 0, nil},
		{"store", 0, d.bytes(301)}, {"store", 4, d.bytes(2)},
	}
	for i := range 16 { // filled to the last byte: each mark and each store makes room
		row = append(row, call{"restore", uint8(i), nil})
	}
	row = append(row, call{"open", 0, nil}, call{"store", 6, d.bytes(966)}, call{"store", 7, d.bytes(28)}, call{"store", 7, d.bytes(27)},
		call{"restore", 6, nil}, call{"store", 6, d.bytes(968)}, call{"restore", 6, nil}, call{"restore", 7, nil}, call{"store", 8, d.bytes(996)})
	return row
}

func TestCutAtEveryStep(t *testing.T) { // P6.1 to P6.4
	rows := [][]call{fullRow()}
	for seed := range 3 {
		d := dice(seed)
		rows = append(rows, d.row(25, 996))
	}
	for r, row := range rows {
		for i, c := range row {
			for after := 0; ; after++ {
				s, p := replay(t, row[:i], 4, 1, 2)
				if !cutAt(t, s, p, c, after) {
					break
				}
				if t.Failed() {
					t.Fatalf("row %d, call %d, %s of %d, cut behind %d steps", r, i, c.kind, c.group, after)
				}
			}
		}
	}
}

// Also where a half has several sectors, and one of the flash's is left over.
func TestCutOfGreaterHalves(t *testing.T) { // P6.2
	d := dice(5)
	row := []call{
		{"store", 0, d.bytes(1500)}, {"store", 1, d.bytes(400)}, {"store", 0, d.bytes(1400)}, {"restore", 1, nil},
		{"store", 2, d.bytes(500)}, {"open", 0, nil}, {"store", 2, d.bytes(520)}, {"store", 1, nil}, {"store", 1, d.bytes(60)},
	}
	for i, c := range row {
		for after := 0; ; after++ {
			s, p := replay(t, row[:i], 7, 1, 5)
			check := fence(t, s.f, 1, 5)
			if !cutAt(t, s, p, c, after) {
				break
			}
			check()
			if t.Failed() {
				t.Fatalf("call %d, %s of %d, cut behind %d steps", i, c.kind, c.group, after)
			}
		}
	}
}

// Whichever filling it is, of so many that their numbers are used up and begin anew.
func TestCutAtEachFilling(t *testing.T) { // P6.2
	f := made(t, 2)
	j, want := opened(t, f, 0, 2), holding{}
	for i := range 700 {
		c := call{"store", uint8(i % 2), filled(440, byte(i))}
		for _, after := range []int{0, 1, 2, 5, 100, 113, 116, 119, 225, 230, 233, 234, 235} {
			s := &subject{f.Copy(), 0, 2, nil}
			s.j = opened(t, s.f, 0, 2)
			if !cutAt(t, s, newPlain(2, held(t, s.j)), c, after) {
				break
			}
		}
		is(t, "Store", j.Store(c.group, c.bytes), api.OK)
		want[c.group] = string(c.bytes)
		finds(t, "stored", f, 0, 2, want)
		if t.Failed() {
			t.Fatalf("store %d", i)
		}
	}
}

// Words of which one can't tell by their check that they were not written: FF FE EF DE has the same as an erased word.
func TestCutAheadOfWordsLikeErased(t *testing.T) { // P6.2
	last := []byte{0xFF, 0xFE, 0xEF, 0xDE}
	for n := range 6 {
		for _, head := range []string{"", "abcd", "ab"} {
			b := append([]byte(head), bytes.Repeat(last, n)...)
			row := []call{{"store", 1, []byte("old")}, {"store", 1, b}, {"store", 2, b}, {"store", 1, bytes.Repeat(last, 6-n)}}
			for i, c := range row {
				for after := 0; ; after++ {
					s, p := replay(t, row[:i], 2, 0, 2)
					if !cutAt(t, s, p, c, after) {
						break
					}
				}
			}
		}
	}
}

// The power goes, comes again, and goes again amid the first call of what was opened then; and then all goes on.
func TestCutTwice(t *testing.T) { // P6.1 to P6.3
	d, row := dice(3), fullRow()
	next := []call{{"store", 0, d.bytes(40)}, {"store", 1, d.bytes(90)}, {"restore", 0, nil}, {"restore", 3, nil}, {"store", 9, nil}, {"open", 0, nil}}
	for i, c := range row {
		for after := 0; ; after += 1 + after/4 {
			s, p := replay(t, row[:i], 2, 0, 2)
			if !cutAt(t, s, p, c, after) {
				break
			}
			for _, again := range append(next, c) {
				for more := 0; ; more += 1 + more/6 {
					f := s.f.Copy()
					j := opened(t, f, 0, 2)
					second := &subject{f, 0, 2, j}
					went := cutAt(t, second, newPlain(2, held(t, j)), again, more)
					goesOn(t, f)
					if t.Failed() {
						t.Fatalf("call %d, %s of %d, cut behind %d steps, then %s of %d behind %d", i, c.kind, c.group, after, again.kind, again.group, more)
					}
					if !went {
						break
					}
				}
			}
		}
	}
}

// goesOn holds a journal, opened behind whatever went, against the plain one for some calls.
func goesOn(t *testing.T, f *flash.Flash) {
	t.Helper()
	s := &subject{f, 0, 2, opened(t, f, 0, 2)}
	p := newPlain(2, held(t, s.j))
	for _, c := range []call{{"store", 11, []byte("on it goes")}, {"restore", 11, nil}, {"open", 0, nil}, {"store", 11, []byte("on")}} {
		is(t, c.kind, s.do(c), p.do(c))
	}
	holds(t, "goes on", s.j, p.there)
	finds(t, "goes on", f, 0, 2, p.stays())
}
