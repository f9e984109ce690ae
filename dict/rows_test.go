package dict_test

import (
	"bytes"
	"slices"
	"testing"

	"campanile/api"
	"campanile/dict"
	"campanile/types"
)

// dice tells numbers that look thrown and are the same at each run.
type dice uint64

func (d *dice) roll(n int) int {
	*d = *d*6364136223846793005 + 1442695040888963407
	return int(uint64(*d>>33) % uint64(n))
}

func (d *dice) bytes(n int) []byte {
	b := make([]byte, n)
	for i := range b {
		b[i] = byte(d.roll(6) * 51)
	}
	return b
}

// place tells one out of few, so that it is often there.
func (d *dice) place() api.Place {
	return at([]uint16{0, 0xFF, 0x100, 0x2000, 0xFFFF}[d.roll(5)], []uint8{0, 1, 2, 255}[d.roll(4)])
}

// value tells bytes that are mostly a value of the type.
func (d *dice) value(kind uint8) []byte {
	size, sized := types.Size(kind)
	if !sized {
		size = d.roll(12)
	}
	if d.roll(8) == 0 {
		size = d.roll(10)
	}
	return d.bytes(size)
}

func (d *dice) entry() api.Entry {
	kinds := []uint8{api.TBool, api.TInt8, api.TUint8, api.TUint16, api.TReal32, api.TTime, api.TText, api.TOctets, api.TUint64}
	kind := kinds[d.roll(len(kinds))]
	p := d.place()
	e := api.Entry{Index: p.Index, Sub: p.Sub, Type: kind, Rights: uint8(d.roll(16)), Tag: uint8(d.roll(256)), Group: uint8(d.roll(3)), Name: string(d.bytes(d.roll(4)))}
	if d.roll(3) > 0 {
		e.Default = d.value(kind)
	}
	if d.roll(3) == 0 {
		e.Low = d.value(kind)
	}
	if d.roll(3) == 0 {
		e.High = d.value(kind)
	}
	if d.roll(60) == 0 {
		e.Rights = 16
	}
	return e
}

// plain is a dictionary by the chapter's words: a list that is gone through, in the order of entries.
type plain struct {
	list    []slot
	changes int64
}

type slot struct {
	e api.Entry
	b []byte
}

func (p *plain) new(l []api.Entry) api.Errno {
	for i, e := range l {
		first := e.Default
		if len(first) == 0 {
			first = types.Zero(e.Type)
		}
		bounds := (len(e.Low) == 0 || types.Check(e.Type, e.Low, nil, nil) == 0) && (len(e.High) == 0 || types.Check(e.Type, e.High, nil, nil) == 0)
		if !types.Right(e.Type) || e.Rights > 15 || e.Group > 16 || len(e.Name) > 100 || !bounds || types.Check(e.Type, first, e.Low, e.High) != 0 {
			return api.ErrEntry
		}
		if slices.ContainsFunc(l[:i], func(o api.Entry) bool { return place(o) == place(e) }) {
			return api.ErrTwice
		}
	}
	for _, e := range sorted(l) {
		p.list = append(p.list, slot{e: e})
		p.list[len(p.list)-1].first()
	}
	return api.OK
}

func (x *slot) first() {
	x.b = x.e.Default
	if len(x.b) == 0 {
		x.b = types.Zero(x.e.Type)
	}
}

func (p *plain) find(at api.Place) (*slot, api.Abort) {
	code := api.AbNoEntry
	for i := range p.list {
		if p.list[i].e.Index == at.Index && p.list[i].e.Sub == at.Sub {
			return &p.list[i], 0
		}
		if p.list[i].e.Index == at.Index {
			code = api.AbNoSub
		}
	}
	return &slot{}, code
}

func (p *plain) may(at api.Place, b []byte) (uint8, api.Abort) {
	x, code := p.find(at)
	if code != 0 {
		return 0, code
	}
	if x.e.Rights&api.RWrite == 0 {
		return 0, api.AbReadOnly
	}
	if code := types.Check(x.e.Type, b, x.e.Low, x.e.High); code != 0 {
		return 0, code
	}
	return x.e.Tag, 0
}

func (p *plain) write(at api.Place, b []byte) api.Abort {
	if _, code := p.may(at, b); code != 0 {
		return code
	}
	x, _ := p.find(at)
	x.b = b
	p.changes++
	return 0
}

func (p *plain) set(at api.Place, b []byte) api.Abort {
	x, code := p.find(at)
	if code != 0 {
		return code
	}
	if code := types.Check(x.e.Type, b, nil, nil); code != 0 {
		return code
	}
	x.b = b
	p.changes++
	return 0
}

// of tells those that are stored with a group.
func (p *plain) of(group uint8) []*slot {
	var l []*slot
	for i := range p.list {
		if p.list[i].e.Rights&api.RStore != 0 && p.list[i].e.Group == group {
			l = append(l, &p.list[i])
		}
	}
	return l
}

func (p *plain) reset(group uint8) int {
	l := p.of(group)
	for _, x := range l {
		x.first()
		p.changes++
	}
	return len(l)
}

func (p *plain) save(group uint8) []byte {
	var row []byte
	for _, x := range p.of(group) {
		row = append(row, rec(x.e.Index, x.e.Sub, x.b...)...)
	}
	return row
}

func (p *plain) load(group uint8, b []byte) (int, api.Errno) {
	var read []slot
	for last := -1; len(b) > 0; {
		if len(b) < 5 || len(b)-5 < int(b[3])+256*int(b[4]) {
			return 0, api.ErrBytes
		}
		x := slot{e: api.Entry{Index: uint16(b[0]) + 256*uint16(b[1]), Sub: b[2]}, b: b[5 : 5+int(b[3])+256*int(b[4])]}
		b = b[5+len(x.b):]
		number := int(x.e.Index)*256 + int(x.e.Sub)
		if number <= last {
			return 0, api.ErrBytes
		}
		last = number
		read = append(read, x)
	}
	taken := 0
	for _, x := range read {
		for _, mine := range p.of(group) {
			if place(mine.e) == place(x.e) && types.Check(mine.e.Type, x.b, mine.e.Low, mine.e.High) == 0 {
				mine.b = bytes.Clone(x.b)
				p.changes++
				taken++
			}
		}
	}
	return taken, api.OK
}

// row does thrown calls, on a dictionary and on one by the chapter's words, and holds their answers against each other.
type row struct {
	dice
	d    *dict.Dict
	p    plain
	kept [][]byte // rows that were saved
	done map[string]int
}

// try counts what a call's answer was, so that a row that only meets refusals is told.
func (r *row) try(t *testing.T, what string, ok, done bool) {
	t.Helper()
	if !ok {
		t.Errorf("%s answers otherwise", what)
	}
	if done {
		r.done[what]++
	}
}

func (r *row) step(t *testing.T) {
	t.Helper()
	at := r.place()
	x, code := r.p.find(at)
	b := r.value(x.e.Type)
	switch r.roll(9) {
	case 0:
		e, got := r.d.Find(at)
		r.try(t, "Find", got == code && same(e, x.e), got == 0)
	case 1:
		want, wanted := x.b, code
		if code == 0 && x.e.Rights&api.RRead == 0 {
			want, wanted = nil, api.AbWriteOnly
		}
		got, code := r.d.Read(at)
		r.try(t, "Read", code == wanted && bytes.Equal(got, want), code == 0)
	case 2:
		tag, code := r.d.May(at, b)
		want, wanted := r.p.may(at, b)
		r.try(t, "May", tag == want && code == wanted, code == 0)
	case 3, 4:
		want := r.p.write(at, b)
		r.try(t, "Write", r.d.Write(at, bytes.Clone(b)) == want, want == 0)
	case 5:
		want := r.p.set(at, b)
		r.try(t, "Set", r.d.Set(at, bytes.Clone(b)) == want, want == 0)
	case 6:
		got, ok := r.d.Number(at)
		want := uint64(0)
		for i := len(x.b) - 1; i >= 0 && len(x.b) <= 8; i-- {
			want = want<<8 + uint64(x.b[i])
		}
		r.try(t, "Number", got == want && ok == (len(x.b) >= 1 && len(x.b) <= 8), ok)
	default:
		r.group(t, uint8(r.roll(4)))
	}
}

// group does a call of a group.
func (r *row) group(t *testing.T, group uint8) {
	t.Helper()
	switch r.roll(5) {
	case 0:
		want := r.p.reset(group)
		r.try(t, "Reset", r.d.Reset(group) == want, want > 0)
	case 1, 2:
		got := r.d.Save(group)
		r.try(t, "Save", bytes.Equal(got, r.p.save(group)), len(got) > 0)
		r.kept = append(r.kept, got)
	default:
		var b []byte
		if len(r.kept) > 0 {
			b = bytes.Clone(r.kept[r.roll(len(r.kept))])
		}
		switch r.roll(4) {
		case 0:
			b = b[:r.roll(len(b)+1)]
		case 1:
			if len(b) > 0 {
				b[r.roll(len(b))] ^= byte(1 << r.roll(8))
			}
		}
		n, errno := r.d.Load(group, b)
		want, wanted := r.p.load(group, b)
		r.try(t, "Load", n == want && errno == wanted, n > 0)
		r.done["Load refused"] += map[bool]int{true: 1}[errno != api.OK]
	}
}

// all holds all that is to be seen against each other.
func (r *row) all(t *testing.T) {
	t.Helper()
	var want []api.Entry
	for _, x := range r.p.list {
		want = append(want, x.e)
		value(t, r.d, place(x.e), x.b...)
	}
	if got := r.d.Entries(); !slices.EqualFunc(got, want, same) {
		t.Errorf("Entries: %v, want %v", got, want)
	}
	if got := r.d.Changes(); got != r.p.changes {
		t.Errorf("Changes: %d, want %d", got, r.p.changes)
	}
	for group := range uint8(4) {
		if got := r.d.Save(group); !bytes.Equal(got, r.p.save(group)) {
			t.Errorf("Save(%d): % x", group, got)
		}
	}
}

// thrown tells a row over thrown entries.
func thrown(t *testing.T, seed int, errnos map[api.Errno]int, done map[string]int) row {
	t.Helper()
	r := row{dice: dice(seed), done: done}
	for {
		var l []api.Entry
		for range r.roll(12) {
			for range 4 { // most are such as may be
				e := r.entry()
				if _, errno := dict.New([]api.Entry{e}); errno == api.OK || r.roll(40) == 0 {
					l = append(l, e)
					break
				}
			}
		}
		r.p = plain{}
		d, errno := dict.New(l)
		if want := r.p.new(l); errno != want || (d == nil) != (want != api.OK) {
			t.Fatalf("seed %d: New(%v): %d, want %d", seed, l, errno, want)
		}
		errnos[errno]++
		if errno == api.OK {
			r.d = d
			return r
		}
	}
}

func TestThrownRows(t *testing.T) { // P8.1 to P8.9
	errnos, done := map[api.Errno]int{}, map[string]int{}
	for seed := range 400 {
		r := thrown(t, seed, errnos, done)
		r.all(t)
		for i := range 300 {
			r.step(t)
			if i%25 == 0 {
				r.all(t)
			}
			if i%40 == 0 { // go on with a copy; what is left behind is spoilt
				left := r.d
				r.d = r.d.Copy()
				for _, e := range left.Entries() {
					left.Set(place(e), types.Zero(e.Type))
				}
			}
		}
		r.all(t)
		if t.Failed() {
			t.Fatalf("seed %d", seed)
		}
	}
	for _, errno := range []api.Errno{api.OK, api.ErrEntry, api.ErrTwice} {
		if errnos[errno] < 20 {
			t.Errorf("New answered %d only %d times", errno, errnos[errno])
		}
	}
	for _, what := range []string{"Find", "Read", "May", "Write", "Set", "Number", "Reset", "Save", "Load", "Load refused"} {
		if done[what] < 300 {
			t.Errorf("%s was done only %d times", what, done[what])
		}
	}
}

// A value is always one of its type, and within its bounds, but for what Set has set.
func TestValuesStayWithin(t *testing.T) { // P8.9
	written := 0
	for seed := range 100 {
		r := thrown(t, 1000+seed, map[api.Errno]int{}, nil)
		for range 200 {
			p := r.place()
			e, _ := r.d.Find(p)
			if r.d.Write(p, r.value(e.Type)) == 0 {
				written++
			}
			group := uint8(r.roll(3))
			row := r.d.Save(group)
			for i := range row {
				if r.roll(6) == 0 && i%6 == 5 {
					row[i] ^= byte(r.roll(256))
				}
			}
			r.d.Load(group, row)
			for _, e := range r.d.Entries() {
				b, _ := r.d.Get(place(e))
				if code := types.Check(e.Type, b, e.Low, e.High); code != 0 {
					t.Fatalf("seed %d: %v has the value %v", seed, e, b)
				}
			}
		}
	}
	if written < 1000 {
		t.Errorf("only %d were written", written)
	}
}

// Every dictionary does the same at the same calls, however its entries were handed in.
func TestSameCallsSameAnswers(t *testing.T) { // P8.6, P8.7
	for seed := range 50 {
		r := thrown(t, 2000+seed, map[api.Errno]int{}, nil)
		l := r.d.Entries()
		slices.Reverse(l)
		other := made(t, l...)
		for range 100 {
			p, group := r.place(), uint8(r.roll(3))
			b := r.bytes(r.roll(5))
			r.d.Write(p, b)
			other.Write(p, b)
			if r.roll(5) == 0 {
				row := r.d.Save(group)
				r.d.Reset(group)
				r.d.Load(group, row)
				other.Reset(group)
				other.Load(group, row)
			}
		}
		if told(r.d) != told(other) {
			t.Fatalf("seed %d: %s\nthe other: %s", seed, told(r.d), told(other))
		}
	}
}
