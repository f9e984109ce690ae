package dict_test

import (
	"bytes"
	"slices"
	"testing"

	"campanile/api"
	"campanile/dict"
)

// rec tells a record's bytes, by the chapter's words.
func rec(index uint16, sub uint8, b ...byte) []byte {
	return append([]byte{byte(index % 256), byte(index / 256), sub, byte(len(b) % 256), byte(len(b) / 256)}, b...)
}

func join(l ...[]byte) []byte { return bytes.Join(l, nil) }

// grouped tells entries of the group 1 (four), of 2 (one), and such as are stored with neither.
func grouped() []api.Entry {
	return []api.Entry{
		{Index: 0x2001, Sub: 1, Type: api.TUint8, Rights: rws, Default: []byte{5}, Low: []byte{1}, High: []byte{9}, Group: 1},
		{Index: 0x2001, Sub: 0, Type: api.TUint16, Rights: rws, Default: []byte{1, 2}, Group: 1},
		{Index: 0x0100, Sub: 255, Type: api.TText, Rights: s, Group: 1},
		{Index: 0xFF00, Sub: 0, Type: api.TInt8, Rights: rws, Default: []byte{255}, High: []byte{0}, Group: 1},
		{Index: 0x2001, Sub: 2, Type: api.TUint8, Rights: rws, Default: []byte{6}, Group: 2},
		{Index: 0x2001, Sub: 3, Type: api.TUint8, Rights: rw, Default: []byte{7}, Group: 1},
		{Index: 0x2001, Sub: 4, Type: api.TUint8, Rights: rws, Default: []byte{8}},
		{Index: 0x2002, Sub: 0, Type: api.TUint8, Rights: rw | api.RMap, Default: []byte{9}, Group: 2},
	}
}

// firstRow is what Save(1) tells of these at first.
func firstRow() []byte {
	return join(rec(0x0100, 255), rec(0x2001, 0, 1, 2), rec(0x2001, 1, 5), rec(0xFF00, 0, 255))
}

// changed tells the dictionary of these with other values in all places.
func changed(t *testing.T) *dict.Dict {
	t.Helper()
	d := made(t, grouped()...)
	for p, b := range map[api.Place][]byte{
		at(0x2001, 1): {2}, at(0x2001, 0): {9, 8}, at(0x0100, 255): []byte("hello"), at(0xFF00, 0): {128},
		at(0x2001, 2): {60}, at(0x2001, 3): {70}, at(0x2001, 4): {80}, at(0x2002, 0): {90},
	} {
		if code := d.Set(p, b); code != 0 {
			t.Fatalf("Set(%x): %x", p, code)
		}
	}
	return d
}

func TestSave(t *testing.T) { // P8.6
	d := made(t, grouped()...)
	for group, want := range map[uint8][]byte{1: firstRow(), 2: rec(0x2001, 2, 6), 0: rec(0x2001, 4, 8), 3: nil, 16: nil, 17: nil, 255: nil} {
		if got := d.Save(group); !bytes.Equal(got, want) {
			t.Errorf("Save(%d): % x, want % x", group, got, want)
		}
	}
	want := join(rec(0x0100, 255, 'h', 'e', 'l', 'l', 'o'), rec(0x2001, 0, 9, 8), rec(0x2001, 1, 2), rec(0xFF00, 0, 128))
	if got := changed(t).Save(1); !bytes.Equal(got, want) {
		t.Errorf("Save(1): % x, want % x", got, want)
	}
}

func TestSaveOfLongValues(t *testing.T) { // P8.6: the length has two bytes
	d := made(t, api.Entry{Index: 0x1234, Sub: 0x56, Type: api.TDomain, Rights: s, Group: 16})
	for _, n := range []int{0, 1, 255, 256, 257, 511, 512, 4095, 4096} {
		b := bytes.Repeat([]byte{byte(n)}, n)
		if code := d.Set(at(0x1234, 0x56), b); code != 0 {
			t.Fatalf("Set of %d bytes: %x", n, code)
		}
		saved := d.Save(16)
		if want := join([]byte{0x34, 0x12, 0x56, byte(n), byte(n >> 8)}, b); !bytes.Equal(saved, want) {
			t.Errorf("Save of %d bytes: %d bytes, % x ..", n, len(saved), saved[:5])
		}
		d.Reset(16)
		if taken, errno := d.Load(16, saved); taken != 1 || errno != api.OK {
			t.Errorf("Load of %d bytes: %d, %d", n, taken, errno)
		}
		value(t, d, at(0x1234, 0x56), b...)
	}
}

// Whatever the order in which the entries are handed in.
func TestSaveInOrder(t *testing.T) { // P8.6
	l := grouped()
	var all func(n int)
	tried := 0
	all = func(n int) { // each order of the first 6, which are 720
		if n == 1 {
			tried++
			if got := made(t, l...).Save(1); !bytes.Equal(got, firstRow()) {
				t.Fatalf("Save(1): % x", got)
			}
			return
		}
		for i := range n {
			l[i], l[n-1] = l[n-1], l[i]
			all(n - 1)
			l[i], l[n-1] = l[n-1], l[i]
		}
	}
	all(6)
	if tried != 720 {
		t.Fatalf("%d orders", tried)
	}
}

func TestReset(t *testing.T) { // P8.6
	l := grouped()
	for group, want := range map[uint8]int{0: 1, 1: 4, 2: 1, 3: 0, 16: 0, 17: 0, 255: 0} {
		d := changed(t)
		was := d.Copy()
		before := d.Changes()
		if n := d.Reset(group); n != want || d.Changes() != before+int64(want) {
			t.Errorf("Reset(%d): %d, %d changes, want %d", group, n, d.Changes()-before, want)
		}
		for _, e := range l {
			if e.Rights&s != 0 && e.Group == group {
				value(t, d, place(e), e.Default...)
			} else {
				b, _ := was.Get(place(e))
				value(t, d, place(e), b...)
			}
		}
		if n := d.Reset(group); n != want {
			t.Errorf("Reset(%d) again: %d, want %d", group, n, want)
		}
	}
}

// An entry without a Default has its type's Zero again, and what Set has set out of the bounds goes, too.
func TestResetToZero(t *testing.T) { // P8.6
	d := made(t,
		api.Entry{Index: 1, Type: api.TReal64, Rights: rws, Group: 5},
		api.Entry{Index: 2, Type: api.TText, Rights: s, Group: 5},
		api.Entry{Index: 3, Type: api.TUint8, Rights: s, Group: 5, High: []byte{3}})
	d.Set(at(1, 0), []byte{1, 2, 3, 4, 5, 6, 7, 8})
	d.Set(at(2, 0), []byte("text"))
	d.Set(at(3, 0), []byte{200})
	if n := d.Reset(5); n != 3 {
		t.Errorf("Reset: %d", n)
	}
	value(t, d, at(1, 0), 0, 0, 0, 0, 0, 0, 0, 0)
	value(t, d, at(2, 0))
	value(t, d, at(3, 0), 0)
}

// load loads a row into a changed dictionary, and holds what it answers and what changed against what is wanted.
func load(t *testing.T, group uint8, row []byte, want int, errno api.Errno, set ...api.Place) {
	t.Helper()
	d, was := changed(t), changed(t)
	n, got := d.Load(group, row)
	if n != want || got != errno || d.Changes() != was.Changes()+int64(want) {
		t.Errorf("Load(%d, % x): %d, %d, %d changes, want %d, %d", group, row, n, got, d.Changes()-was.Changes(), want, errno)
	}
	for _, e := range grouped() {
		if !slices.Contains(set, place(e)) {
			b, _ := was.Get(place(e))
			value(t, d, place(e), b...)
		}
	}
}

func TestLoad(t *testing.T) { // P8.6
	text, word, low, high := at(0x0100, 255), at(0x2001, 0), at(0x2001, 1), at(0xFF00, 0)
	load(t, 1, firstRow(), 4, api.OK, text, word, low, high)
	load(t, 1, nil, 0, api.OK)
	load(t, 1, []byte{}, 0, api.OK)
	load(t, 1, rec(0x2001, 0, 7, 7), 1, api.OK, word)
	load(t, 1, rec(0x0100, 255), 1, api.OK, text)
	load(t, 2, firstRow(), 0, api.OK)
	load(t, 255, firstRow(), 0, api.OK)
	load(t, 0, rec(0x2001, 4, 1), 1, api.OK, at(0x2001, 4))
	load(t, 1, rec(0x2001, 1, 2), 1, api.OK) // the value that it has
	d := changed(t)
	d.Load(1, join(rec(0x0100, 255, 'n', 'o'), rec(0x2001, 1, 9)))
	value(t, d, text, 'n', 'o')
	value(t, d, low, 9)
	value(t, d, word, 9, 8)
}

// Records that are left out, each ahead of, between and behind such as are taken.
func TestLoadLeavesOut(t *testing.T) { // P8.6
	taken := [][]byte{rec(0x0100, 255, 'x'), rec(0x2001, 0, 3, 4), rec(0xFF00, 0, 200)}
	places := []api.Place{at(0x0100, 255), at(0x2001, 0), at(0xFF00, 0)}
	for what, left := range map[string][]byte{
		"no such index, ahead of all":   rec(0x0000, 0, 1),
		"no such index":                 rec(0x3000, 0, 1),
		"no such index, behind all":     rec(0xFFFF, 255, 1),
		"no such sub":                   rec(0x2001, 99, 1),
		"another group":                 rec(0x2001, 2, 1),
		"the group 0":                   rec(0x2001, 4, 1),
		"not stored":                    rec(0x2001, 3, 1),
		"below its least value":         rec(0x2001, 1, 0),
		"above its greatest value":      rec(0x2001, 1, 10),
		"too long":                      rec(0x2001, 1, 5, 5),
		"too short":                     rec(0x2001, 1),
		"longer than any value":         rec(0x2001, 1, make([]byte, 5000)...),
		"as long as a length may be":    rec(0x3000, 1, make([]byte, 65535)...),
		"no such place, without a byte": rec(0x3000, 1),
	} {
		rows := append(slices.Clone(taken), left)
		slices.SortFunc(rows, func(a, b []byte) int {
			return (int(a[0])|int(a[1])<<8)<<8 + int(a[2]) - (int(b[0])|int(b[1])<<8)<<8 - int(b[2])
		})
		load(t, 1, join(rows...), 3, api.OK, places...)
		load(t, 1, left, 0, api.OK)
		d := changed(t)
		d.Load(1, join(rows...))
		for i, p := range places {
			value(t, d, p, taken[i][5:]...)
		}
		if t.Failed() {
			t.Fatal(what)
		}
	}
}

func TestLoadCutShort(t *testing.T) { // P8.6, P8.8
	row := firstRow()
	var ends []int // where a record ends, so that what is ahead of it is a row, too
	for _, b := range [][]byte{nil, rec(0x0100, 255), rec(0x2001, 0, 1, 2), rec(0x2001, 1, 5), rec(0xFF00, 0, 255)} {
		end := len(b)
		if len(ends) > 0 {
			end += ends[len(ends)-1]
		}
		ends = append(ends, end)
	}
	places := []api.Place{at(0x0100, 255), at(0x2001, 0), at(0x2001, 1), at(0xFF00, 0)}
	for n := range len(row) + 1 {
		if i := slices.Index(ends, n); i >= 0 {
			load(t, 1, row[:n], i, api.OK, places[:i]...)
		} else {
			load(t, 1, row[:n], 0, api.ErrBytes)
		}
	}
	for n := 1; n < 5; n++ {
		load(t, 1, join(row, make([]byte, n)), 0, api.ErrBytes)
		load(t, 1, join(row, rec(0xFF01, 0, 1, 2, 3)[:3+n]), 0, api.ErrBytes)
	}
	load(t, 1, make([]byte, 4), 0, api.ErrBytes)
	load(t, 9, row[:len(row)-1], 0, api.ErrBytes) // whatever the group
	long := rec(0x3000, 0, make([]byte, 65535)...)
	load(t, 1, long[:len(long)-1], 0, api.ErrBytes)
}

func TestLoadNotRising(t *testing.T) { // P8.6, P8.8
	a, b, c, d := rec(0x0100, 255, 'x'), rec(0x2001, 0, 3, 4), rec(0x2001, 1, 4), rec(0xFF00, 0, 200)
	unknown, later := rec(0x3000, 7, 1), rec(0x3000, 6, 1)
	for i, row := range [][]byte{
		join(a, a), join(b, b), join(a, b, b, d), join(a, b, c, d, d), // twice
		join(a, rec(0x0100, 255, 'y')),
		join(b, a), join(c, b), join(d, a), join(a, c, b, d), join(a, b, d, c), join(a, d, c),
		join(unknown, unknown), join(a, b, unknown, later, d), join(unknown, c),
		join(rec(0x2001, 1, 99), b), // left out, but in its place
		join(rec(0x00FF, 0), rec(0x0001, 0)), join(rec(0x0100, 0), rec(0x00FF, 255)),
	} {
		load(t, 1, row, 0, api.ErrBytes)
		if t.Failed() {
			t.Fatal(i)
		}
	}
	load(t, 1, join(rec(0x00FF, 255), rec(0x0100, 0), rec(0x0100, 1)), 0, api.OK)
	load(t, 1, join(rec(0x0100, 254), a, rec(0x0101, 0)), 1, api.OK, at(0x0100, 255))
}

// What was saved and loaded leaves all values of the group as they were saved.
func TestSavedAndLoaded(t *testing.T) { // P8.9
	for _, group := range []uint8{0, 1, 2, 3} {
		from := changed(t)
		saved := from.Save(group)
		for _, to := range []*dict.Dict{changed(t), made(t, grouped()...), from} {
			was := to.Copy()
			to.Reset(group)
			n, errno := to.Load(group, saved)
			if want := was.Reset(group); n != want || errno != api.OK {
				t.Errorf("Load(%d): %d, %d, want %d", group, n, errno, want)
			}
			if got := to.Save(group); !bytes.Equal(got, saved) {
				t.Errorf("group %d: % x, want % x", group, got, saved)
			}
			for _, other := range []uint8{0, 1, 2, 3} {
				if other != group && !bytes.Equal(to.Save(other), was.Save(other)) {
					t.Errorf("group %d changed with %d", other, group)
				}
			}
		}
	}
}

// What Set has set out of the bounds is saved, and left out when it is loaded.
func TestSavedOutOfBounds(t *testing.T) { // P8.5, P8.6
	d := made(t, grouped()...)
	d.Set(at(0x2001, 1), []byte{10})
	saved := d.Save(1)
	if want := join(rec(0x0100, 255), rec(0x2001, 0, 1, 2), rec(0x2001, 1, 10), rec(0xFF00, 0, 255)); !bytes.Equal(saved, want) {
		t.Errorf("Save: % x", saved)
	}
	if n, errno := d.Load(1, saved); n != 3 || errno != api.OK {
		t.Errorf("Load: %d, %d", n, errno)
	}
	value(t, d, at(0x2001, 1), 10)
	d.Reset(1)
	d.Load(1, saved)
	value(t, d, at(0x2001, 1), 5)
}

func TestManyOfOneGroup(t *testing.T) { // P8.6
	l := many(1024)
	d := made(t, l...)
	for group, want := range []int{342, 341, 341, 0} {
		if n := d.Reset(uint8(group)); n != want {
			t.Errorf("Reset(%d): %d, want %d", group, n, want)
		}
		var row []byte
		for _, e := range sorted(l) {
			if int(e.Group) == group {
				row = append(row, rec(e.Index, e.Sub, e.Default...)...)
			}
		}
		if got := d.Save(uint8(group)); !bytes.Equal(got, row) {
			t.Errorf("Save(%d): %d bytes, want %d", group, len(got), len(row))
		}
		if n, errno := d.Load(uint8(group), row); n != want || errno != api.OK {
			t.Errorf("Load(%d): %d, %d, want %d", group, n, errno, want)
		}
	}
}
