package dict_test

import (
	"bytes"
	"fmt"
	"math"
	"slices"
	"strings"
	"testing"

	"campanile/api"
	"campanile/dict"
	"campanile/types"
)

const (
	r   = api.RRead
	w   = api.RWrite
	s   = api.RStore
	rw  = r | w
	rws = r | w | s
)

func at(index uint16, sub uint8) api.Place { return api.Place{Index: index, Sub: sub} }

// made tells a dictionary of entries that must be taken.
func made(t *testing.T, l ...api.Entry) *dict.Dict {
	t.Helper()
	d, errno := dict.New(l)
	if d == nil || errno != api.OK {
		t.Fatalf("New: %v, %d", d, errno)
	}
	return d
}

// example tells the chapter's entries.
func example() []api.Entry {
	return []api.Entry{
		{Index: 0x2000, Sub: 1, Type: api.TUint8, Rights: rws, Default: []byte{5}, Low: []byte{1}, High: []byte{9}, Group: 1, Tag: 3},
		{Index: 0x2000, Type: api.TUint8, Rights: r, Default: []byte{1}},
	}
}

// several tells entries of many types, rights and groups, in no order.
func several() []api.Entry {
	return []api.Entry{
		{Index: 0x3000, Sub: 2, Name: "speed", Type: api.TInt16, Rights: rws, Default: []byte{0, 1}, Low: []byte{0, 255}, High: []byte{0, 2}, Tag: 9, Group: 2},
		{Index: 0x2000, Sub: 255, Name: "note", Type: api.TText, Rights: rws, Default: []byte("abc"), Group: 1},
		{Index: 0x2000, Sub: 0, Name: "secret", Type: api.TUint32, Rights: w, Default: []byte{1, 2, 3, 4}, Tag: 1},
		{Index: 0xFFFF, Sub: 255, Name: "last", Type: api.TOctets, Rights: rws | api.RMap, Group: 1, Tag: 255},
		{Index: 0, Sub: 0, Name: "first", Type: api.TBool, Rights: rws, Default: []byte{1}, Group: 1},
		{Index: 0x3000, Sub: 1, Name: "grouped, not stored", Type: api.TUint8, Rights: rw, Default: []byte{7}, Group: 1},
		{Index: 0x00FF, Sub: 3, Name: "", Type: api.TUint64, Rights: 0, Default: []byte{1, 0, 0, 0, 0, 0, 0, 128}},
		{Index: 0x0100, Sub: 2, Name: "real", Type: api.TReal32, Rights: rws, Low: []byte{0, 0, 128, 191}, High: []byte{0, 0, 128, 63}, Group: 16},
		{Index: 0x0100, Sub: 1, Name: "stored by 0", Type: api.TTime, Rights: r | s, Default: []byte{1, 0, 0, 0, 2, 0}},
	}
}

func place(e api.Entry) api.Place { return at(e.Index, e.Sub) }

// same: do two entries tell the same? (No list and an empty one do.)
func same(a, b api.Entry) bool {
	lists := bytes.Equal(a.Default, b.Default) && bytes.Equal(a.Low, b.Low) && bytes.Equal(a.High, b.High)
	a.Default, a.Low, a.High, b.Default, b.Low, b.High = nil, nil, nil, nil, nil, nil
	return lists && fmt.Sprintf("%#v", a) == fmt.Sprintf("%#v", b)
}

// sorted tells entries in their order.
func sorted(l []api.Entry) []api.Entry {
	l = slices.Clone(l)
	slices.SortFunc(l, func(a, b api.Entry) int {
		return int(a.Index)<<8 + int(a.Sub) - int(b.Index)<<8 - int(b.Sub)
	})
	return l
}

// told tells all that a dictionary shows: each entry with its value, and how many changes there were.
func told(d *dict.Dict) string {
	var all strings.Builder
	for _, e := range d.Entries() {
		b, ok := d.Get(place(e))
		fmt.Fprintf(&all, "%v = %v %t\n", e, b, ok)
	}
	fmt.Fprintf(&all, "%d changes", d.Changes())
	return all.String()
}

// value holds a value against what is wanted.
func value(t *testing.T, d *dict.Dict, p api.Place, want ...byte) {
	t.Helper()
	if b, ok := d.Get(p); !ok || !bytes.Equal(b, want) {
		t.Errorf("Get(%x): %v, %t, want %v", p, b, ok, want)
	}
}

func TestExamples(t *testing.T) {
	d := made(t, example()...)
	if b, code := d.Read(at(0x2000, 1)); !bytes.Equal(b, []byte{5}) || code != 0 {
		t.Errorf("Read(2000 1): %v, %x", b, code)
	}
	for p, want := range map[api.Place]api.Abort{at(0x2000, 2): api.AbNoSub, at(0x2001, 0): api.AbNoEntry} {
		if b, code := d.Read(p); b != nil || code != want {
			t.Errorf("Read(%x): %v, %x, want %x", p, b, code, want)
		}
	}
	if tag, code := d.May(at(0x2000, 1), []byte{7}); tag != 3 || code != 0 {
		t.Errorf("May(2000 1, 7): %d, %x", tag, code)
	}
	for _, x := range []struct {
		p    api.Place
		b    []byte
		want api.Abort
	}{
		{at(0x2000, 1), []byte{10}, api.AbHigh},
		{at(0x2000, 1), []byte{0}, api.AbLow},
		{at(0x2000, 0), []byte{1}, api.AbReadOnly},
		{at(0x2000, 1), []byte{7, 7}, api.AbLong},
	} {
		if code := d.Write(x.p, x.b); code != x.want {
			t.Errorf("Write(%x, %v): %x, want %x", x.p, x.b, code, x.want)
		}
	}
	value(t, d, at(0x2000, 1), 5)
	if code := d.Write(at(0x2000, 1), []byte{7}); code != 0 {
		t.Errorf("Write(2000 1, 7): %x", code)
	}
	if b := d.Save(1); !bytes.Equal(b, []byte{0, 0x20, 1, 1, 0, 7}) {
		t.Errorf("Save(1): % x", b)
	}
	if n := d.Reset(1); n != 1 {
		t.Errorf("Reset(1): %d", n)
	}
	value(t, d, at(0x2000, 1), 5)
}

func TestNewOfNothing(t *testing.T) { // P8.1
	for _, l := range [][]api.Entry{nil, {}} {
		d, errno := dict.New(l)
		if d == nil || errno != api.OK {
			t.Fatalf("New: %v, %d", d, errno)
		}
		empty(t, d)
	}
	empty(t, &dict.Dict{}) // made by hand
}

// empty holds that a dictionary has nothing.
func empty(t *testing.T, d *dict.Dict) {
	t.Helper()
	p := at(0, 0)
	if _, code := d.Find(p); code != api.AbNoEntry {
		t.Errorf("Find: %x", code)
	}
	if code := d.Write(p, []byte{1}); code != api.AbNoEntry {
		t.Errorf("Write: %x", code)
	}
	if code := d.Set(p, []byte{1}); code != api.AbNoEntry {
		t.Errorf("Set: %x", code)
	}
	if n, errno := d.Load(0, []byte{0, 0, 0, 1, 0, 1}); n != 0 || errno != api.OK {
		t.Errorf("Load: %d, %d", n, errno)
	}
	if d.Reset(0) != 0 || len(d.Save(0)) != 0 || len(d.Entries()) != 0 || d.Changes() != 0 {
		t.Errorf("it is not empty: %s", told(d))
	}
	if c := d.Copy(); c == nil || told(c) != told(d) {
		t.Errorf("Copy: %v", c)
	}
}

// many tells so many entries with places of their own.
func many(n int) []api.Entry {
	l := make([]api.Entry, n)
	for i := range l {
		l[i] = api.Entry{Index: uint16(i * 257 / 4), Sub: uint8(i % 4), Type: api.TUint16, Rights: rws, Default: []byte{byte(i), byte(i >> 8)}, Group: uint8(i % 3)}
	}
	return l
}

func TestNewOfMany(t *testing.T) { // P8.1
	l := many(api.MaxDict)
	if len(l) != 1024 {
		t.Fatalf("MaxDict is %d", len(l))
	}
	d := made(t, l...)
	for _, e := range l {
		value(t, d, place(e), e.Default...)
	}
	if n := len(d.Entries()); n != 1024 {
		t.Errorf("%d entries", n)
	}
	if d, errno := dict.New(many(1025)); d != nil || errno != api.ErrLimit {
		t.Errorf("New of one more: %v, %d", d, errno)
	}
	for _, last := range []api.Entry{{}, l[0]} { // neither ErrEntry nor ErrTwice comes ahead of it
		for _, wrong := range [][]api.Entry{append(slices.Clone(l), last), append([]api.Entry{last}, l...)} {
			if d, errno := dict.New(wrong); d != nil || errno != api.ErrLimit {
				t.Errorf("New of one more: %v, %d", d, errno)
			}
		}
	}
}

// faults tells entries that may not be, each for one cause, and, beside each, one that just may.
func faults() map[string][2]api.Entry {
	text := func(n int) []byte { return bytes.Repeat([]byte{'x'}, n) }
	name := func(n int) string { return strings.Repeat("n", n) }
	nan := []byte{0, 0, 192, 127}
	u8 := func(low, high, first []byte) api.Entry {
		return api.Entry{Type: api.TUint8, Low: low, High: high, Default: first}
	}
	b := func(l ...byte) []byte { return l }
	return map[string][2]api.Entry{
		"no type":                      {{Type: 0}, {Type: api.TBool}},
		"a type that is none, 14":      {{Type: 14}, {Type: api.TDomain}},
		"a type that is none, 28":      {{Type: 28}, {Type: api.TUint64}},
		"a type that is none, 255":     {{Type: 255}, {Type: api.TUint24}},
		"rights of 16":                 {{Type: api.TUint8, Rights: 16}, {Type: api.TUint8, Rights: 15}},
		"rights of 17":                 {{Type: api.TUint8, Rights: 17}, {Type: api.TUint8, Rights: 1}},
		"rights of 255":                {{Type: api.TUint8, Rights: 255}, {Type: api.TUint8}},
		"group 17":                     {{Type: api.TUint8, Group: 17}, {Type: api.TUint8, Group: 16}},
		"group 255, stored":            {{Type: api.TUint8, Group: 255, Rights: 8}, {Type: api.TUint8, Rights: 8}},
		"a name of 101 bytes":          {{Type: api.TUint8, Name: name(101)}, {Type: api.TUint8, Name: name(100)}},
		"a name of 51 runes":           {{Type: api.TUint8, Name: strings.Repeat("ä", 51)}, {Type: api.TUint8, Name: strings.Repeat("ä", 50)}},
		"low too long":                 {u8(b(1, 0), nil, b(5)), u8(b(1), nil, b(5))},
		"low too short":                {{Type: api.TUint16, Low: b(1)}, {Type: api.TUint16, Low: b(0, 0)}},
		"low no value":                 {{Type: api.TBool, Low: b(2), Default: b(1)}, {Type: api.TBool, Low: b(1), Default: b(1)}},
		"high too long":                {u8(nil, b(9, 0), b(5)), u8(nil, b(9), b(5))},
		"high too short":               {{Type: api.TUint16, High: b(9)}, {Type: api.TUint16, High: b(9, 0)}},
		"high no value":                {{Type: api.TBool, High: b(2)}, {Type: api.TBool, High: b(1)}},
		"high of 86400000":             {{Type: api.TTime, High: b(0, 92, 38, 5, 0, 0)}, {Type: api.TTime, High: b(255, 91, 38, 5, 0, 0)}},
		"low of a text of 4097 bytes":  {{Type: api.TText, Low: text(4097)}, {Type: api.TText, Low: text(4096)}},
		"high of a text of 4097 bytes": {{Type: api.TText, High: text(4097)}, {Type: api.TText, High: text(4096)}},
		"first too long":               {u8(nil, nil, b(1, 2)), u8(nil, nil, b(1))},
		"first too short":              {{Type: api.TUint16, Default: b(1)}, {Type: api.TUint16, Default: b(1, 0)}},
		"first no value":               {{Type: api.TBool, Default: b(2)}, {Type: api.TBool, Default: b(1)}},
		"first of 4097 bytes":          {{Type: api.TOctets, Default: text(4097)}, {Type: api.TOctets, Default: text(4096)}},
		"first below low":              {u8(b(5), nil, b(4)), u8(b(5), nil, b(5))},
		"first above high":             {u8(nil, b(5), b(6)), u8(nil, b(5), b(5))},
		"low above high":               {u8(b(6), b(5), b(6)), u8(b(6), b(6), b(6))},
		"zero below low":               {u8(b(1), nil, nil), u8(b(0), nil, nil)},
		"zero below low, first empty":  {u8(b(1), b(9), []byte{}), u8([]byte{}, []byte{}, []byte{})},
		"zero above high":              {{Type: api.TInt8, High: b(255)}, {Type: api.TInt8, High: b(0)}},
		"a NaN at first, with a bound": {{Type: api.TReal32, Default: nan, Low: b(0, 0, 0, 0)}, {Type: api.TReal32, Default: nan, Low: nan, High: nan}},
	}
}

func TestNewRefuses(t *testing.T) { // P8.1: an entry that may not be
	for cause, x := range faults() {
		for i, want := range []api.Errno{api.ErrEntry, api.OK} {
			if d, errno := dict.New(x[i : i+1]); errno != want || (d == nil) != (want != api.OK) {
				t.Errorf("%s, %d: %v, %d, want %d", cause, i, d, errno, want)
			}
			l := append(several(), x[i])
			l[len(l)-1].Index = 0x1234
			if d, errno := dict.New(l); errno != want || (d == nil) != (want != api.OK) {
				t.Errorf("%s, %d, among others: %v, %d, want %d", cause, i, d, errno, want)
			}
		}
	}
}

// By words of its own what may be: each type with each byte as rights, and as a group.
func TestNewTakesJustTheseNumbers(t *testing.T) { // P8.1
	for n := range 256 {
		b := uint8(n)
		for _, x := range []struct {
			e   api.Entry
			may bool
		}{
			{api.Entry{Type: b}, types.Right(b)},
			{api.Entry{Type: api.TInt24, Rights: b}, n <= 15},
			{api.Entry{Type: api.TInt24, Group: b}, n <= 16},
			{api.Entry{Type: api.TInt24, Tag: b, Sub: b, Index: uint16(n) << 8}, true},
		} {
			if _, errno := dict.New([]api.Entry{x.e}); errno != map[bool]api.Errno{true: api.OK, false: api.ErrEntry}[x.may] {
				t.Errorf("New(%v): %d", x.e, errno)
			}
		}
	}
}

func TestNewOfOnePlaceTwice(t *testing.T) { // P8.1
	one := api.Entry{Index: 0x2000, Sub: 1, Type: api.TUint8, Rights: r}
	other, wrong := one, one
	other.Name, other.Type, other.Rights = "other", api.TText, w
	wrong.Rights = 16
	beside, above := one, one
	beside.Sub, above.Index = 2, 0x2001
	for i, x := range []struct {
		l    []api.Entry
		want api.Errno
	}{
		{[]api.Entry{one, one}, api.ErrTwice},
		{[]api.Entry{one, other}, api.ErrTwice},
		{[]api.Entry{one, beside, above, other}, api.ErrTwice},
		{[]api.Entry{one, beside, above}, api.OK},
		{[]api.Entry{one, wrong}, api.ErrEntry}, // of one entry this comes first
		{[]api.Entry{wrong, one}, api.ErrEntry},
		{[]api.Entry{one, one, wrong}, api.ErrTwice}, // of two entries the one ahead
		{[]api.Entry{one, wrong, one}, api.ErrEntry},
		{[]api.Entry{beside, {}, one, one}, api.ErrEntry},
		{[]api.Entry{beside, one, one, {}}, api.ErrTwice},
	} {
		if d, errno := dict.New(x.l); errno != x.want || (d == nil) != (x.want != api.OK) {
			t.Errorf("%d: %v, %d, want %d", i, d, errno, x.want)
		}
	}
}

func TestValuesAtFirst(t *testing.T) { // P8.1
	l := several()
	d := made(t, l...)
	for _, e := range l {
		want := e.Default
		if len(want) == 0 {
			want = types.Zero(e.Type)
		}
		value(t, d, place(e), want...)
	}
	value(t, d, at(0x0100, 2), 0, 0, 0, 0)
	value(t, d, at(0xFFFF, 255))
	value(t, made(t, api.Entry{Type: api.TUint24, Default: []byte{}, Low: []byte{}, High: []byte{}}), at(0, 0), 0, 0, 0) // an empty list means none
	if n := d.Changes(); n != 0 {
		t.Errorf("Changes: %d", n)
	}
}

func TestNoDictionary(t *testing.T) { // P8.1
	var d *dict.Dict
	for _, p := range []api.Place{{}, at(0x2000, 1), at(0xFFFF, 255)} {
		for _, b := range [][]byte{nil, {}, {1}, {0, 0, 0, 0, 0}} {
			if e, code := d.Find(p); !same(e, api.Entry{}) || code != api.AbGeneral {
				t.Errorf("Find: %v, %x", e, code)
			}
			if b, code := d.Read(p); b != nil || code != api.AbGeneral {
				t.Errorf("Read: %v, %x", b, code)
			}
			if tag, code := d.May(p, b); tag != 0 || code != api.AbGeneral {
				t.Errorf("May: %d, %x", tag, code)
			}
			if code := d.Write(p, b); code != api.AbGeneral {
				t.Errorf("Write: %x", code)
			}
			if b, ok := d.Get(p); b != nil || ok {
				t.Errorf("Get: %v, %t", b, ok)
			}
			if code := d.Set(p, b); code != api.AbGeneral {
				t.Errorf("Set: %x", code)
			}
			if n, ok := d.Number(p); n != 0 || ok {
				t.Errorf("Number: %d, %t", n, ok)
			}
			for _, group := range []uint8{0, 1, 16, 17, 255} {
				if n, errno := d.Load(group, b); n != 0 || errno != api.ErrNil {
					t.Errorf("Load: %d, %d", n, errno)
				}
				if n := d.Reset(group); n != 0 {
					t.Errorf("Reset: %d", n)
				}
				if b := d.Save(group); b != nil {
					t.Errorf("Save: %v", b)
				}
			}
		}
	}
	if d.Entries() != nil || d.Changes() != 0 || d.Copy() != nil {
		t.Errorf("%v, %d, %v", d.Entries(), d.Changes(), d.Copy())
	}
}

func TestFind(t *testing.T) { // P8.2
	l := several()
	d := made(t, l...)
	for _, e := range l {
		if got, code := d.Find(place(e)); !same(got, e) || code != 0 {
			t.Errorf("Find(%x): %v, %x, want %v", place(e), got, code, e)
		}
	}
	d.Set(at(0x3000, 1), []byte{99})
	if e, _ := d.Find(at(0x3000, 1)); !bytes.Equal(e.Default, []byte{7}) {
		t.Errorf("behind Set its Default is %v", e.Default)
	}
}

// Of every place around those that are there, the code.
func TestFindCodes(t *testing.T) { // P8.2
	subs := map[uint16][]uint8{}
	for _, e := range several() {
		subs[e.Index] = append(subs[e.Index], e.Sub)
	}
	d := made(t, several()...)
	for _, index := range []uint16{0, 1, 0xFE, 0xFF, 0x100, 0x101, 0x1FFF, 0x2000, 0x2001, 0x2FFF, 0x3000, 0x3001, 0x0030, 0xFF00, 0xFFFE, 0xFFFF} {
		for sub := range 256 {
			p := at(index, uint8(sub))
			want := api.AbNoEntry
			if l, there := subs[index]; there && slices.Contains(l, p.Sub) {
				want = 0
			} else if there {
				want = api.AbNoSub
			}
			refusals(t, d, p, want)
		}
	}
}

// refusals holds each call's answer at a place against the code that Find is to tell there.
func refusals(t *testing.T, d *dict.Dict, p api.Place, want api.Abort) {
	t.Helper()
	e, code := d.Find(p)
	if code != want || code != 0 && !same(e, api.Entry{}) {
		t.Errorf("Find(%x): %v, %x, want %x", p, e, code, want)
	}
	if want == 0 {
		return
	}
	before := told(d)
	if b, code := d.Read(p); b != nil || code != want {
		t.Errorf("Read(%x): %v, %x, want %x", p, b, code, want)
	}
	if tag, code := d.May(p, nil); tag != 0 || code != want {
		t.Errorf("May(%x): %d, %x, want %x", p, tag, code, want)
	}
	if code := d.Write(p, []byte{1}); code != want {
		t.Errorf("Write(%x): %x, want %x", p, code, want)
	}
	if code := d.Set(p, []byte{1}); code != want {
		t.Errorf("Set(%x): %x, want %x", p, code, want)
	}
	if b, ok := d.Get(p); b != nil || ok {
		t.Errorf("Get(%x): %v, %t", p, b, ok)
	}
	if n, ok := d.Number(p); n != 0 || ok {
		t.Errorf("Number(%x): %d, %t", p, n, ok)
	}
	if told(d) != before {
		t.Errorf("what is not at %x has changed something", p)
	}
}

func TestRights(t *testing.T) { // P8.3 to P8.5
	for rights := range uint8(16) {
		d := made(t, api.Entry{Index: 1, Type: api.TUint8, Rights: rights, Default: []byte{3}, High: []byte{9}, Tag: 200})
		p := at(1, 0)
		b, code := d.Read(p)
		if may := rights&1 != 0; may && (!bytes.Equal(b, []byte{3}) || code != 0) || !may && (b != nil || code != api.AbWriteOnly) {
			t.Errorf("rights %d: Read: %v, %x", rights, b, code)
		}
		for _, x := range []struct {
			b    []byte
			want api.Abort
		}{{[]byte{10}, api.AbHigh}, {nil, api.AbShort}, {[]byte{1, 2}, api.AbLong}, {[]byte{4}, 0}} {
			want, wantTag := x.want, uint8(0)
			if rights&2 == 0 { // whatever the bytes are
				want = api.AbReadOnly
			} else if want == 0 {
				wantTag = 200
			}
			before := told(d)
			if tag, code := d.May(p, x.b); tag != wantTag || code != want || told(d) != before {
				t.Errorf("rights %d: May(%v): %d, %x, want %d, %x", rights, x.b, tag, code, wantTag, want)
			}
			if code := d.Write(p, x.b); code != want || (told(d) == before) != (want != 0) {
				t.Errorf("rights %d: Write(%v): %x, want %x", rights, x.b, code, want)
			}
		}
		if code := d.Set(p, []byte{200}); code != 0 {
			t.Errorf("rights %d: Set: %x", rights, code)
		}
		value(t, d, p, 200)
		if n, ok := d.Number(p); n != 200 || !ok {
			t.Errorf("rights %d: Number: %d, %t", rights, n, ok)
		}
	}
}

// May tells what types.Check tells, with the bounds; Set without them.
func TestChecks(t *testing.T) { // P8.4, P8.5
	b := func(l ...byte) []byte { return l }
	nan := b(0, 0, 192, 127)
	for i, x := range []struct {
		e          api.Entry
		b          []byte
		write, set api.Abort
	}{
		{api.Entry{Type: api.TUint8, Low: b(1), High: b(9), Default: b(5)}, b(0), api.AbLow, 0},
		{api.Entry{Type: api.TUint8, Low: b(1), High: b(9), Default: b(5)}, b(1), 0, 0},
		{api.Entry{Type: api.TUint8, Low: b(1), High: b(9), Default: b(5)}, b(9), 0, 0},
		{api.Entry{Type: api.TUint8, Low: b(1), High: b(9), Default: b(5)}, b(10), api.AbHigh, 0},
		{api.Entry{Type: api.TUint8, Low: b(1), Default: b(5)}, b(255), 0, 0},
		{api.Entry{Type: api.TUint8, High: b(9), Default: b(5)}, b(0), 0, 0},
		{api.Entry{Type: api.TUint8, Low: b(1), High: b(9), Default: b(5)}, b(5, 5), api.AbLong, api.AbLong},
		{api.Entry{Type: api.TUint8, Low: b(1), High: b(9), Default: b(5)}, nil, api.AbShort, api.AbShort},
		{api.Entry{Type: api.TInt8, Low: b(200), High: b(5)}, b(200), 0, 0},
		{api.Entry{Type: api.TInt8, Low: b(200), High: b(5)}, b(199), api.AbLow, 0},
		{api.Entry{Type: api.TInt8, Low: b(200), High: b(5)}, b(6), api.AbHigh, 0},
		{api.Entry{Type: api.TBool}, b(2), api.AbValue, api.AbValue},
		{api.Entry{Type: api.TBool, High: b(0)}, b(1), api.AbHigh, 0},
		{api.Entry{Type: api.TTime}, b(0, 92, 38, 5, 0, 0), api.AbValue, api.AbValue},
		{api.Entry{Type: api.TTime}, b(255, 91, 38, 5, 0, 0), 0, 0},
		{api.Entry{Type: api.TReal32}, nan, 0, 0},
		{api.Entry{Type: api.TReal32, Low: b(0, 0, 0, 0)}, nan, api.AbValue, 0},
		{api.Entry{Type: api.TText, Low: b('b'), High: b('c')}, b('a'), 0, 0},
		{api.Entry{Type: api.TText, Default: b('a')}, nil, 0, 0},
		{api.Entry{Type: api.TDomain}, make([]byte, 4096), 0, 0},
		{api.Entry{Type: api.TDomain}, make([]byte, 4097), api.AbLong, api.AbLong},
	} {
		x.e.Rights, x.e.Tag = w, 7
		p := place(x.e)
		d, other := made(t, x.e), made(t, x.e)
		before, _ := d.Get(p)
		tag, code := d.May(p, x.b)
		if code != x.write || (tag == 7) != (code == 0) {
			t.Errorf("%d: May: %d, %x, want %x", i, tag, code, x.write)
		}
		if code := d.Write(p, x.b); code != x.write {
			t.Errorf("%d: Write: %x, want %x", i, code, x.write)
		}
		if code := other.Set(p, x.b); code != x.set {
			t.Errorf("%d: Set: %x, want %x", i, code, x.set)
		}
		behind(t, d, p, before, x.b, x.write)
		behind(t, other, p, before, x.b, x.set)
	}
}

// behind holds that a value is the one that was set once, or, behind a code, the one from before.
func behind(t *testing.T, d *dict.Dict, p api.Place, before, set []byte, code api.Abort) {
	t.Helper()
	want, changes := set, int64(1)
	if code != 0 {
		want, changes = before, 0
	}
	value(t, d, p, want...)
	if n := d.Changes(); n != changes {
		t.Errorf("Changes: %d, want %d", n, changes)
	}
}

func TestNumber(t *testing.T) { // P8.5
	l := []byte{1, 2, 3, 4, 5, 6, 7, 8, 9}
	numbers := []uint64{0, 0x01, 0x0201, 0x030201, 0x04030201, 0x0504030201, 0x060504030201, 0x07060504030201, 0x0807060504030201, 0}
	for _, kind := range []uint8{api.TText, api.TOctets, api.TDomain} {
		d := made(t, api.Entry{Type: kind})
		for n, want := range numbers {
			d.Set(at(0, 0), l[:n])
			if got, ok := d.Number(at(0, 0)); got != want || ok != (n >= 1 && n <= 8) {
				t.Errorf("of %d bytes: %x, %t, want %x", n, got, ok, want)
			}
		}
		d.Set(at(0, 0), make([]byte, 4096))
		if got, ok := d.Number(at(0, 0)); got != 0 || ok {
			t.Errorf("of 4096 bytes: %x, %t", got, ok)
		}
	}
	for _, x := range []struct {
		kind uint8
		b    []byte
		want uint64
	}{
		{api.TBool, []byte{1}, 1},
		{api.TInt8, []byte{255}, 255}, // without a sign
		{api.TInt64, bytes.Repeat([]byte{255}, 8), math.MaxUint64},
		{api.TUint64, []byte{0, 0, 0, 0, 0, 0, 0, 128}, 1 << 63},
		{api.TReal32, []byte{0, 0, 192, 63}, 0x3FC00000},
		{api.TTime, []byte{1, 0, 0, 0, 2, 0}, 1 + 2<<32},
		{api.TUint16, []byte{0, 0}, 0},
	} {
		d := made(t, api.Entry{Type: x.kind, Default: x.b})
		if got, ok := d.Number(at(0, 0)); got != x.want || !ok {
			t.Errorf("Number of %v: %x, %t, want %x", x.b, got, ok, x.want)
		}
	}
}

func TestEntries(t *testing.T) { // P8.7
	for _, l := range [][]api.Entry{example(), several(), many(1024)} {
		want := sorted(l)
		for range 20 {
			if got := made(t, l...).Entries(); !slices.EqualFunc(got, want, same) {
				t.Fatalf("Entries: %v, want %v", got, want)
			}
			l = append(l[len(l)/2:], l[:len(l)/2]...)
			slices.Reverse(l[:len(l)/3])
		}
	}
}

func TestChanges(t *testing.T) { // P8.7
	d := made(t, several()...)
	count := func(what string, want int64) {
		t.Helper()
		if n := d.Changes(); n != want {
			t.Errorf("behind %s: %d changes, want %d", what, n, want)
		}
	}
	count("New", 0)
	d.Write(at(0x3000, 1), []byte{8})
	count("Write", 1)
	d.Write(at(0x3000, 1), []byte{8})
	count("Write of the same", 2)
	d.Set(at(0x2000, 0), []byte{1, 2, 3, 4})
	count("Set of the same", 3)
	d.Write(at(0x3000, 1), nil)
	d.Set(at(0x3000, 1), nil)
	d.Set(at(0x3000, 9), nil)
	d.May(at(0x3000, 1), []byte{8})
	d.Find(at(0x3000, 1))
	d.Read(at(0x3000, 1))
	d.Get(at(0x3000, 1))
	d.Number(at(0x3000, 1))
	d.Entries()
	d.Copy()
	count("what sets nothing", 3)
	d.Reset(1) // nothing of it was written
	count("Reset of 3", 6)
	d.Reset(3)
	count("Reset of none", 6)
	saved := d.Save(1)
	count("Save", 6)
	d.Load(1, saved)
	count("Load of the same 3", 9)
	d.Load(1, append(saved, 1))
	d.Load(2, saved)
	d.Load(1, nil)
	count("Load of nothing", 9)
}
