package bank_test

import (
	"bytes"
	"testing"

	"campanile/api"
	"campanile/bank"
	"campanile/crc"
	"campanile/flash"
)

// dice tells numbers that look thrown and are the same at each run.
type dice uint64

func (d *dice) roll(n int) int {
	*d = *d*6364136223846793005 + 1442695040888963407
	return int(uint64(*d>>33) % uint64(n))
}

func (d *dice) bytes(n int) []byte {
	b := make([]byte, n)
	for i := range b {
		b[i] = []byte{255, 0, byte(d.roll(256)), byte(d.roll(256))}[d.roll(4)]
	}
	return b
}

// call is one call: it begins (size, check), puts (bytes), commits, goes back, or opens.
type call struct {
	kind  string
	size  int
	check uint16
	bytes []byte
}

func begins(b []byte) call { return call{kind: "begin", size: len(b), check: crc.Sum(b)} }

func puts(b []byte) call { return call{kind: "put", bytes: b} }

func commits() call { return call{kind: "commit"} }

func goesBack() call { return call{kind: "back"} }

func opens() call { return call{kind: "open"} }

// lays tells the calls that lay a program, in one piece.
func lays(b []byte) []call { return []call{begins(b), puts(b), commits()} }

// laying tells the calls that lay a thrown program of at most so many bytes, in pieces; in some of them something is wrong.
func (d *dice) laying(most int) []call {
	b := d.bytes(1 + []int{d.roll(12), d.roll(60), d.roll(most), most - 1}[d.roll(4)]%most)
	row := []call{begins(b)}
	wrong := d.roll(8)
	if wrong == 0 {
		row[0].check ^= 1 << d.roll(16)
	}
	for rest := b; len(rest) > 0; {
		n := min(1+[]int{d.roll(9), d.roll(100), len(rest)}[d.roll(3)], len(rest))
		if wrong != 1 || d.roll(2) == 0 { // a piece may be missing
			row = append(row, puts(rest[:n]))
		}
		if d.roll(20) == 0 {
			row = append(row, d.other(most))
		}
		rest = rest[n:]
	}
	return append(row, commits())
}

// other tells a call that may come at any time, refused or not.
func (d *dice) other(most int) call {
	return []call{
		opens(), goesBack(), commits(), puts(nil), puts(d.bytes(d.roll(6))), puts(d.bytes(most + 1)),
		{kind: "begin", size: []int{0, -1, most + 1, 1, d.roll(most)}[d.roll(5)]},
	}[d.roll(7)]
}

func (d *dice) row(calls, most int) []call {
	var row []call
	for len(row) < calls {
		switch d.roll(4) {
		case 0:
			row = append(row, goesBack())
		case 1:
			row = append(row, d.other(most))
		default:
			row = append(row, d.laying(most)...)
		}
	}
	return row[:calls]
}

// subject is a pair in sectors of a flash; what is opened anew takes its place.
type subject struct {
	f            *flash.Flash
	first, count int
	p            *bank.Pair
}

func (s *subject) do(c call) api.Errno {
	switch c.kind {
	case "begin":
		return s.p.Begin(c.size, c.check)
	case "put":
		return s.p.Put(c.bytes)
	case "commit":
		return s.p.Commit()
	case "back":
		return s.p.Back()
	}
	p, errno := bank.Open(s.f, s.first, s.count)
	if errno == api.OK {
		s.p = p
	}
	return errno
}

// plain is a pair by the chapter's words, in a flash whose power does not go.
type plain struct {
	room  int
	seen  showing
	begun bool
	size  int
	check uint16
	put   string
}

func (p *plain) do(c call) api.Errno {
	switch c.kind {
	case "begin":
		if c.size < 1 || c.size > p.room {
			return api.ErrImage
		}
		p.seen.previous = ""
		p.begun, p.size, p.check, p.put = true, c.size, c.check, ""
	case "put":
		if !p.begun {
			return api.ErrState
		}
		if len(p.put)+len(c.bytes) > p.size {
			return api.ErrImage
		}
		p.put += string(c.bytes)
	case "commit":
		if !p.begun {
			return api.ErrState
		}
		p.begun = false
		if len(p.put) != p.size || crc.Sum([]byte(p.put)) != p.check {
			return api.ErrImage
		}
		other := 0
		if p.seen.running != "" {
			other = 1 - p.seen.bank
		}
		p.seen = showing{other, p.put, p.seen.running, p.seen.version + 1}
	case "back":
		if p.seen.previous == "" {
			return api.ErrBank
		}
		p.seen = showing{1 - p.seen.bank, p.seen.previous, p.seen.running, p.seen.version + 1}
	case "open":
		p.begun = false
	}
	return api.OK
}

// fence writes something to every sector that is not the pair's, and tells a check that it stands.
func fence(t *testing.T, f *flash.Flash, first, count int) func() {
	t.Helper()
	before := map[int][]byte{}
	for n := range f.Sectors() {
		if n >= first && n < first+count {
			continue
		}
		for w := range 256 {
			f.Write(n, w, [4]byte{byte(n), byte(w), 255, 0})
		}
		before[n], _ = f.Read(n)
	}
	return func() {
		t.Helper()
		c := f.Copy()
		c.On()
		for n, want := range before {
			if got, errno := c.Read(n); errno != api.OK || !bytes.Equal(got, want) {
				t.Fatalf("sector %d is not the pair's, and has changed", n)
			}
		}
	}
}

// roomOf tells a room by the chapter's words.
func roomOf(count int) int { return min((count-2)/2*1024, 8192) }

// shapes are sectors of a flash, first, count.
func shapes() [][3]int {
	return [][3]int{{4, 0, 4}, {6, 1, 4}, {6, 2, 4}, {7, 1, 5}, {8, 1, 6}, {24, 2, 21}}
}

func TestThrownRows(t *testing.T) { // P7.1 to P7.5
	for seed := range 40 {
		for _, s := range shapes() {
			d, f := dice(seed), made(t, s[0])
			check := fence(t, f, s[1], s[2])
			subj := &subject{f, s[1], s[2], opened(t, f, s[1], s[2])}
			p := plain{room: roomOf(s[2])}
			for i, c := range d.row(60, p.room) {
				handed := bytes.Clone(c.bytes)
				got, want := subj.do(c), p.do(c)
				if got != want {
					t.Fatalf("seed %d, %v, call %d, %s: %d, want %d", seed, s, i, c.kind, got, want)
				}
				if !bytes.Equal(handed, c.bytes) {
					t.Fatalf("seed %d, %v, call %d: what was handed in has changed", seed, s, i)
				}
				shows(t, c.kind, subj.p, p.seen)
				finds(t, c.kind, f, s[1], s[2], p.seen)
				if t.Failed() {
					t.Fatalf("seed %d, %v, call %d, %s", seed, s, i, c.kind)
				}
			}
			check()
		}
	}
}

// A pair goes on for ever, however often what runs is kept anew.
func TestLongRow(t *testing.T) { // P7.2
	p, f := fresh(t, 4)
	want := showing{}
	for i := range 1500 {
		b := filled(1+i%9, byte(i))
		lay(t, p, b)
		if i > 0 {
			want.bank = 1 - want.bank
		}
		want = showing{want.bank, string(b), want.running, want.version + 1}
		if i%3 == 1 {
			is(t, "Back", p.Back(), api.OK)
			want = showing{1 - want.bank, want.previous, want.running, want.version + 1}
		}
		shows(t, "laid", p, want)
		finds(t, "laid", f, 0, 4, want)
		if i%50 == 0 {
			p = opened(t, f, 0, 4)
		}
		if t.Failed() {
			t.Fatalf("program %d", i)
		}
	}
}

// replay tells a pair behind the calls of a row, and the plain one.
func replay(t *testing.T, row []call, sectors, first, count int) (*subject, plain) {
	t.Helper()
	f := made(t, sectors)
	s, p := &subject{f, first, count, opened(t, f, first, count)}, plain{room: roomOf(count)}
	for _, c := range row {
		if got, want := s.do(c), p.do(c); got != want {
			t.Fatalf("%s: %d, want %d", c.kind, got, want)
		}
	}
	return s, p
}

// cutAt does a call whose power goes behind so many steps, and tells whether it did. Whatever stands then is found as of ahead of the call, or as of behind it: a Begin whose power goes may have given up the previous one, but that is as of behind it, too.
func cutAt(t *testing.T, s *subject, p plain, c call, after int) bool {
	t.Helper()
	behind := p
	want := behind.do(c)
	s.f.Cut(after)
	got := s.do(c)
	if got == want {
		s.f.On()
		shows(t, "done", s.p, behind.seen)
		finds(t, "done", s.f, s.first, s.count, behind.seen)
		return false
	}
	if got != api.ErrCut || !s.f.Off() {
		t.Fatalf("%s, cut behind %d steps: %d, want ErrCut or %d", c.kind, after, got, want)
	}
	shows(t, "cut, and no power", s.p, p.seen)
	s.f.On()
	steps := s.f.Steps()
	for name, call := range calls() {
		is(t, name+" behind ErrCut", call(s.p), api.ErrCut)
	}
	if s.f.Steps() != steps {
		t.Error("a pair behind ErrCut has written")
	}
	shows(t, "cut", s.p, p.seen)
	if is := found(t, s.f, s.first, s.count); is != p.seen && is != behind.seen {
		t.Errorf("cut: an opening finds %q, want %q or %q (or other bytes)", is.brief(), p.seen.brief(), behind.seen.brief())
	}
	return true
}

// goesOn holds a pair, opened behind whatever went, against the plain one for some calls.
func goesOn(t *testing.T, f *flash.Flash, first, count int) {
	t.Helper()
	s := &subject{f, first, count, opened(t, f, first, count)}
	p := plain{room: roomOf(count), seen: shown(t, s.p)}
	row := append(lays([]byte("on it goes")), opens(), goesBack())
	row = append(append(row, lays(filled(p.room, 1))...), goesBack(), opens())
	for _, c := range append(row, lays([]byte("on"))...) {
		is(t, c.kind, s.do(c), p.do(c))
		shows(t, "goes on", s.p, p.seen)
		finds(t, "goes on", f, first, count, p.seen)
	}
}

// mixedRow has calls of all kinds in all states: nothing, a running one, a previous one, one begun, with words and without.
func mixedRow() []call {
	d := dice(77)
	b := d.bytes(23)
	row := []call{opens(), begins(b), puts(b[:9]), commits(), goesBack()}
	row = append(row, lays(b)...)
	row = append(row, opens(), goesBack(), begins(b[:5]), puts(b[:2]), puts(b[2:5]), commits(), goesBack(), goesBack(), opens(), goesBack())
	row = append(row, begins(b[:11]), puts(b[:11]), begins(b[:8]), puts(b[:3]), puts(b[3:8]), commits(), opens(), begins(b[3:20]), puts(b[3:15]), opens(), goesBack())
	row = append(row, lays(bytes.Repeat([]byte{255}, 9))...)
	row = append(row, lays(make([]byte, 6))...)
	row = append(row, begins(b), goesBack(), puts(nil), commits())
	return append(row, lays(b[1:])...)
}

func TestCutAtEveryStep(t *testing.T) { // P7.1 to P7.4
	rows := [][]call{mixedRow()}
	for seed := range 4 {
		d := dice(seed)
		rows = append(rows, d.row(40, 40))
	}
	for r, row := range rows {
		for i, c := range row {
			for after := 0; ; after++ {
				s, p := replay(t, row[:i], 6, 1, 4)
				check := fence(t, s.f, 1, 4)
				if !cutAt(t, s, p, c, after) {
					break
				}
				check()
				goesOn(t, s.f, 1, 4)
				if t.Failed() {
					t.Fatalf("row %d, call %d, %s, cut behind %d steps", r, i, c.kind, after)
				}
			}
		}
	}
}

// Also where a bank has several sectors, and its programs fill them.
func TestCutOfGreaterBanks(t *testing.T) { // P7.2, P7.4
	row := lays(filled(2048, 1))
	row = append(row, lays(filled(2047, 2))...)
	row = append(row, lays(filled(1025, 3))...)
	row = append(row, goesBack())
	row = append(row, lays(filled(1030, 4))...)
	for i, c := range row {
		for after := 0; ; {
			s, p := replay(t, row[:i], 9, 1, 7)
			check := fence(t, s.f, 1, 7)
			if !cutAt(t, s, p, c, after) {
				break
			}
			check()
			goesOn(t, s.f, 1, 7)
			if t.Failed() {
				t.Fatalf("call %d, %s, cut behind %d steps", i, c.kind, after)
			}
			after++
			for after > 20 && (after+2)%64 > 4 { // near the beginning, and about each fourth of a sector
				after++
			}
		}
	}
}

// So often that what runs is kept in the other half of its sectors, and the first one again, at each of its steps.
func TestCutAtEachKeeping(t *testing.T) { // P7.2
	row := append(lays([]byte("one")), lays([]byte("two"))...)
	s, p := replay(t, row, 4, 0, 4)
	for i := range 90 {
		for _, c := range []call{goesBack(), begins([]byte("three"))} {
			for after := 0; ; after++ {
				other := &subject{f: s.f.Copy(), first: 0, count: 4}
				other.p = opened(t, other.f, 0, 4)
				if !cutAt(t, other, p, c, after) {
					break
				}
			}
		}
		is(t, "Back", s.do(goesBack()), p.do(goesBack()))
		if t.Failed() {
			t.Fatalf("back %d", i)
		}
	}
}

// The power goes, comes again, and goes again amid the first calls of what was opened then; and then all goes on.
func TestCutTwice(t *testing.T) { // P7.1 to P7.3
	row := mixedRow()
	b := []byte("second")
	for i, c := range row {
		for after := 0; ; after++ {
			s, p := replay(t, row[:i], 4, 0, 4)
			if !cutAt(t, s, p, c, after) {
				break
			}
			next := append([]call{opens(), goesBack()}, lays(b)...)
			for k, again := range next {
				for more := 0; ; more += 1 + more/8 {
					f := s.f.Copy()
					second := &subject{f, 0, 4, opened(t, f, 0, 4)}
					q := plain{room: 1024, seen: shown(t, second.p)}
					for _, ahead := range next[:k] {
						is(t, ahead.kind, second.do(ahead), q.do(ahead))
					}
					went := cutAt(t, second, q, again, more)
					goesOn(t, f, 0, 4)
					if t.Failed() {
						t.Fatalf("call %d, %s, cut behind %d steps, then %s behind %d", i, c.kind, after, again.kind, more)
					}
					if !went {
						break
					}
				}
			}
		}
	}
}

// Words of which one can't tell by their check that they were not written: FF FE EF DE has the same as an erased word.
func TestCutAheadOfWordsLikeErased(t *testing.T) { // P7.2, P7.5
	last := []byte{0xFF, 0xFE, 0xEF, 0xDE}
	for n := 1; n < 6; n++ {
		for _, head := range []string{"", "abcd", "ab"} {
			b := append([]byte(head), bytes.Repeat(last, n)...)
			row := append(lays(b), lays(append([]byte("other"), b...))...)
			row = append(row, lays(b)...)
			for i, c := range row {
				for after := 0; ; after++ {
					s, p := replay(t, row[:i], 4, 0, 4)
					if !cutAt(t, s, p, c, after) {
						break
					}
				}
			}
		}
	}
}
