package dict_test

import (
	"bytes"
	"testing"

	"campanile/api"
	"campanile/dict"
)

// aside hands a list out with bytes behind its length, and tells whether any of it has changed since.
func aside(b []byte) ([]byte, func() bool) {
	room := append(bytes.Clone(b), 0xa5, 0xa5, 0xa5, 0xa5)
	before := bytes.Clone(room)
	return room[:len(b)], func() bool { return !bytes.Equal(room, before) }
}

// spoil writes over a list, and over what lies behind its length.
func spoil(l ...[]byte) {
	for _, b := range l {
		for i := range b[:cap(b)] {
			b[:cap(b)][i] ^= 0xff
		}
	}
}

// What is handed to New is copied: what becomes of it is not seen.
func TestNewCopies(t *testing.T) { // P8.8
	l, want := several(), told(made(t, several()...))
	d := made(t, l...)
	for i := range l {
		spoil(l[i].Default, l[i].Low, l[i].High)
		l[i] = api.Entry{}
	}
	if got := told(d); got != want {
		t.Errorf("%s\nwant %s", got, want)
	}
	d.Reset(1)
	d.Reset(2)
	value(t, d, at(0x2000, 255), []byte("abc")...)
	value(t, d, at(0x3000, 2), 0, 1)
	if code := d.Write(at(0x3000, 2), []byte{1, 2}); code != api.AbHigh {
		t.Errorf("its bounds are others: %x", code)
	}
}

// One list may be all of an entry's: what is done to one of those that are answered is not done to the others.
func TestNewOfSharedLists(t *testing.T) { // P8.8
	b := []byte{5}
	e := api.Entry{Type: api.TUint8, Rights: rws, Default: b, Low: b, High: b}
	other := e
	other.Index = 1
	d := made(t, e, other)
	got := d.Entries()
	spoil(got[0].Default)
	if !bytes.Equal(got[0].Low, b) || !bytes.Equal(got[0].High, b) || !same(got[1], other) {
		t.Errorf("Entries: %v", got)
	}
	found, _ := d.Find(at(0, 0))
	spoil(found.Low)
	if !bytes.Equal(found.Default, b) || !bytes.Equal(found.High, b) {
		t.Errorf("Find: %v", found)
	}
}

// What is handed in is not changed, what lies behind its length included, and not kept.
func TestArgumentsAreLeft(t *testing.T) { // P8.8
	d := made(t, several()...)
	for _, x := range []struct {
		b    []byte
		call func(b []byte)
	}{
		{[]byte("one"), func(b []byte) { d.Write(at(0x2000, 255), b) }},
		{[]byte("two"), func(b []byte) { d.Set(at(0x2000, 255), b) }},
		{[]byte("three"), func(b []byte) { d.May(at(0x2000, 255), b) }},
		{join(rec(0, 0, 0), rec(0x2000, 255, 'f', 'o', 'u', 'r')), func(b []byte) { d.Load(1, b) }},
		{join(rec(0, 0, 0), rec(0x2000, 255, 'f', 'i', 'v', 'e')[:8]), func(b []byte) { d.Load(1, b) }},
		{nil, func(b []byte) { d.Set(at(0x2000, 255), b) }},
	} {
		b, changed := aside(x.b)
		x.call(b)
		if changed() {
			t.Errorf("%q was changed", x.b)
		}
		before := told(d)
		spoil(b)
		if told(d) != before {
			t.Errorf("%q was kept", x.b)
		}
	}
	l, names := several(), several()
	l = append(l, api.Entry{Name: "behind"})[:len(l)]
	var left []func() bool
	for i := range l {
		for _, b := range []*[]byte{&l[i].Default, &l[i].Low, &l[i].High} {
			var changed func() bool
			*b, changed = aside(*b)
			left = append(left, changed)
		}
	}
	dict.New(l)
	for i := range left {
		if left[i]() || !same(l[i/3], names[i/3]) {
			t.Fatalf("entry %d was changed: %v", i/3, l[i/3])
		}
	}
	if l[:len(l)+1][len(l)].Name != "behind" {
		t.Error("what lies behind the entries was changed")
	}
}

// What is answered is new memory: whoever writes over it changes nothing else.
func TestAnswersAreNew(t *testing.T) { // P8.8
	d := made(t, several()...)
	text, number := at(0x2000, 255), at(0x3000, 2)
	before := told(d)
	for range 2 {
		a, _ := d.Read(text)
		b, _ := d.Read(text)
		spoil(a)
		if string(b) != "abc" {
			t.Errorf("Read: %q", b)
		}
		a, _ = d.Get(text)
		b, _ = d.Get(text)
		spoil(a)
		if string(b) != "abc" {
			t.Errorf("Get: %q", b)
		}
		e, _ := d.Find(number)
		f, _ := d.Find(number)
		spoil(e.Default, e.Low, e.High)
		if !same(f, several()[0]) {
			t.Errorf("Find: %v", f)
		}
		l, m := d.Entries(), d.Entries()
		for i := range l {
			spoil(l[i].Default, l[i].Low, l[i].High)
			l[i] = api.Entry{}
			if !same(m[i], sorted(several())[i]) {
				t.Errorf("Entries: %v", m[i])
			}
		}
		row, again := d.Save(1), d.Save(1)
		spoil(row)
		if !bytes.Equal(again, d.Save(1)) || bytes.Equal(again, row) {
			t.Errorf("Save: % x", again)
		}
		if told(d) != before {
			t.Fatalf("%s\nwant %s", told(d), before)
		}
	}
}

// A value that was read stays as it was, whatever is written behind it.
func TestAnswersStay(t *testing.T) { // P8.8
	d := made(t, several()...)
	text := at(0x2000, 255)
	read, _ := d.Read(text)
	got, _ := d.Get(text)
	row := d.Save(1)
	was := bytes.Clone(row)
	for _, change := range []func(){
		func() { d.Write(text, []byte("xyz")) },
		func() { d.Set(text, []byte("x")) },
		func() { d.Load(1, rec(0x2000, 255, 'z', 'z', 'z')) },
		func() { d.Reset(1) },
	} {
		change()
		if string(read) != "abc" || string(got) != "abc" || !bytes.Equal(row, was) {
			t.Fatalf("%q, %q, % x", read, got, row)
		}
	}
}

// acts are calls that set values, each at least one.
func acts() map[string]func(d *dict.Dict) {
	return map[string]func(d *dict.Dict){
		"Write": func(d *dict.Dict) { d.Write(at(0x3000, 2), []byte{255, 255}) },
		"Set":   func(d *dict.Dict) { d.Set(at(0x2000, 0), []byte{4, 3, 2, 1}) },
		"Reset": func(d *dict.Dict) { d.Reset(1) },
		"Load":  func(d *dict.Dict) { d.Load(1, rec(0x2000, 255, 'n', 'e', 'w')) },
	}
}

func TestCopy(t *testing.T) { // P8.7
	start := func() *dict.Dict {
		d := made(t, several()...)
		d.Write(at(0x2000, 255), []byte("changed"))
		d.Set(at(0, 0), []byte{0})
		return d
	}
	for what, act := range acts() {
		want := start()
		act(want)
		d := start()
		before := told(d)
		c := d.Copy()
		if told(c) != before || c == d {
			t.Fatalf("the copy: %s\nwant %s", told(c), before)
		}
		act(d)
		if told(c) != before || told(d) != told(want) {
			t.Errorf("%s is seen in the copy: %s\nwant %s", what, told(c), before)
		}
		d = start()
		c = d.Copy()
		act(c)
		if told(d) != before || told(c) != told(want) {
			t.Errorf("%s of the copy is seen: %s\nwant %s", what, told(d), before)
		}
		act(d)
		if told(d) != told(c) {
			t.Errorf("%s: %s\nthe copy: %s", what, told(d), told(c))
		}
	}
}

// What is written is read; nothing else changes by it.
func TestNothingElseChanges(t *testing.T) { // P8.8, P8.9
	for what, act := range acts() {
		d := made(t, several()...)
		d.Write(at(0x2000, 255), []byte("changed"))
		d.Set(at(0, 0), []byte{0})
		was := d.Copy()
		act(d)
		for _, e := range several() {
			p := place(e)
			before, _ := was.Get(p)
			mine := map[string]bool{
				"Write": p == at(0x3000, 2), "Set": p == at(0x2000, 0), "Load": p == at(0x2000, 255),
				"Reset": e.Group == 1 && e.Rights&s != 0,
			}[what]
			if !mine {
				value(t, d, p, before...)
			}
			if got, _ := d.Find(p); !same(got, e) {
				t.Errorf("%s changed the entry %v", what, got)
			}
		}
	}
}
