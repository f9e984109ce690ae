package mapping_test

import (
	"bytes"
	"strings"
	"testing"

	"campanile/api"
	"campanile/dict"
	"campanile/mapping"
)

// dice tells numbers that look thrown and are the same at each run.
type dice uint64

func (d *dice) roll(n int) int {
	*d = *d*6364136223846793005 + 1442695040888963407
	return int(uint64(*d>>33) % uint64(n))
}

func (d *dice) bytes(n int) []byte {
	b := make([]byte, n)
	for i := range b {
		b[i] = byte(d.roll(256))
	}
	return b
}

// pick tells one of some.
func pick[T any](d *dice, l ...T) T { return l[d.roll(len(l))] }

// kinds tells all types, those often that are short.
func kinds() []uint8 {
	return bytesOf(api.TBool, api.TBool, api.TBool, api.TInt8, api.TUint8, api.TInt16, api.TUint16, api.TInt24, api.TUint24,
		api.TInt32, api.TUint32, api.TInt64, api.TUint64, api.TReal32, api.TReal64, api.TTime, api.TDiff, api.TText, api.TDomain, api.TOctets)
}

// entry tells a thrown one, most of whose rights are all.
func (d *dice) entry() api.Entry {
	e := api.Entry{Index: pick(d, uint16(0x6000), 0x6001, 0xFFFF, uint16(api.TUint8), uint16(api.TBool)), Sub: uint8(d.roll(4)), Type: pick(d, kinds()...), Rights: 15}
	if d.roll(3) == 0 {
		e.Rights = uint8(d.roll(16))
	}
	if size := sized()[e.Type]; size > 0 {
		e.Default = d.bytes(size)
		if d.roll(6) == 0 {
			e.Low = d.bytes(size)
		}
		if d.roll(6) == 0 {
			e.High = d.bytes(size)
		}
		if e.Type == api.TBool {
			e.Default[0] &= 1
		}
	}
	return e
}

// dict tells a thrown dictionary.
func (d *dice) dict() *dict.Dict {
	var l []api.Entry
	for range 10 {
		e := d.entry()
		if _, errno := dict.New(append(l, e)); errno == api.OK {
			l = append(l, e)
		}
	}
	made, _ := dict.New(l)
	return made
}

// mapOf tells a Map of an entry, mostly such as fits.
func (d *dice) mapOf(e api.Entry) mapping.Map {
	m := to(e.Index, e.Sub, 8*sized()[e.Type])
	if e.Type == api.TBool && d.roll(3) > 0 {
		m.Bits = 1
	}
	switch d.roll(80) {
	case 0:
		m.Bits = pick(d, -1, 0, 1, 7, 8, 9, 16, 32, 64, 65)
	case 1:
		m.Place.Sub++
	case 2:
		m.Place.Index++
	}
	return m
}

// maps tells a mapping of a dictionary's entries and gaps, of which most fit both.
func (d *dice) maps(of *dict.Dict) []mapping.Map {
	var l []mapping.Map
	entries := of.Entries()
	for range pick(d, 0, 1, 2, 3, 4, 5, 8, 12, 64, 65) {
		m := gap(pick(d, kinds()...), pick(d, 1, 8, 16, 24, 32, 48, 64))
		if d.roll(8) > 0 && len(entries) > 0 {
			m = d.mapOf(pick(d, entries...))
		}
		fits := mapping.Check(of, append(l, m), true) == 0 || mapping.Check(of, append(l, m), false) == 0
		if fits || d.roll(60) == 0 {
			l = append(l, m)
		}
	}
	return l
}

// plain is what the chapter says, by other means: bits are letters, 0 and 1, in a text.
type plain struct{ *dict.Dict }

// fitsType: are so many bits those of the type?
func fitsType(kind uint8, bits int) bool {
	size, fixed := sized()[kind]
	return fixed && (bits == 8*size || kind == api.TBool && bits == 1)
}

func isGap(m mapping.Map) bool {
	return m.Place.Index < 256 && m.Place.Sub == 0 && fitsType(uint8(m.Place.Index), m.Bits)
}

func (p plain) check(l []mapping.Map, out bool) api.Abort {
	if len(l) > 64 {
		return api.AbMapLen
	}
	for i, m := range l {
		e, code := p.Find(m.Place)
		right := api.RWrite
		if out {
			right = api.RRead
		}
		switch {
		case isGap(m) && out:
			return api.AbNoMap
		case isGap(m):
		case code != 0:
			return code
		case e.Rights&api.RMap == 0, e.Rights&right == 0, !fitsType(e.Type, m.Bits):
			return api.AbNoMap
		}
		all := 0
		for _, m := range l[:i+1] {
			all += m.Bits
		}
		if all > 64 {
			return api.AbMapLen
		}
	}
	return 0
}

// letters tells all bits of bytes, the lowest first.
func letters(b []byte) string {
	var s strings.Builder
	for _, x := range b {
		for _, v := range []byte{1, 2, 4, 8, 16, 32, 64, 128} {
			s.WriteByte("01"[min(x&v, 1)])
		}
	}
	return s.String()
}

// unlettered tells the bytes of bits.
func unlettered(s string) []byte {
	var b []byte
	for ; s != ""; s = s[8:] {
		s += strings.Repeat("0", (8-len(s)%8)%8)
		x := byte(0)
		for i := 7; i >= 0; i-- {
			x = 2*x + s[i] - '0'
		}
		b = append(b, x)
	}
	return b
}

func (p plain) pack(l []mapping.Map) ([]byte, api.Abort) {
	if code := p.check(l, true); code != 0 {
		return nil, code
	}
	all := ""
	for _, m := range l {
		b, _ := p.Get(m.Place)
		all += letters(b)[:m.Bits]
	}
	return unlettered(all), 0
}

func (p plain) unpack(l []mapping.Map, b []byte) ([]mapping.Value, api.Abort) {
	if code := p.check(l, false); code != 0 {
		return nil, code
	}
	all := letters(b)
	for _, m := range l {
		if len(all) < m.Bits {
			return nil, api.AbLength
		}
		all = all[m.Bits:]
	}
	all = letters(b)
	var values []mapping.Value
	for _, m := range l {
		v := mapping.Value{Place: m.Place, B: unlettered(all[:m.Bits])}
		all = all[m.Bits:]
		if isGap(m) {
			continue
		}
		if _, code := p.May(v.Place, v.B); code != 0 {
			return nil, code
		}
		values = append(values, v)
	}
	return values, 0
}

// frame tells bytes for a mapping: thrown ones, or ones that were packed, mostly enough.
func (d *dice) frame(of *dict.Dict, l []mapping.Map) []byte {
	b := d.bytes(max(0, min(8, mapping.Size(l))))
	if packed, code := mapping.Pack(of, l); code == 0 && d.roll(3) > 0 {
		b = packed
	}
	switch d.roll(8) {
	case 0:
		return b[:d.roll(len(b)+1)]
	case 1:
		return append(b, d.bytes(d.roll(9))...)
	}
	return b
}

// Thrown mappings of thrown dictionaries, and frames, are held against the chapter's words.
func TestThrownRows(t *testing.T) { // P12.2 to P12.7
	checked, unpacked, values := map[api.Abort]int{}, map[api.Abort]int{}, 0
	for seed := range 1500 {
		r := dice(seed)
		d := r.dict()
		for range 12 {
			l := r.maps(d)
			p := plain{d.Copy()}
			for _, out := range []bool{true, false} {
				want := p.check(l, out)
				checks(t, d, l, out, want)
				checked[want]++
			}
			b, code := mapping.Pack(d, l)
			if want, wanted := p.pack(l); code != wanted || !bytes.Equal(b, want) || code == 0 && len(b) != mapping.Size(l) {
				t.Errorf("Pack(%x): % x, %x, want % x, %x", l, b, code, want, wanted)
			}
			b = r.frame(d, l)
			want, code := p.unpack(l, b)
			if code == 0 {
				writes(t, d, l, b, want...)
			} else {
				refuses(t, d, l, b, code)
			}
			unpacked[code]++
			values += len(want)
		}
		if t.Failed() {
			t.Fatalf("seed %d", seed)
		}
	}
	for _, code := range []api.Abort{0, api.AbMapLen, api.AbNoMap, api.AbNoEntry, api.AbNoSub} {
		if checked[code] < 100 {
			t.Errorf("Check told %x only %d times", code, checked[code])
		}
	}
	for _, code := range []api.Abort{0, api.AbLength, api.AbValue, api.AbHigh, api.AbLow} {
		if unpacked[code] < 50 {
			t.Errorf("Unpack told %x only %d times", code, unpacked[code])
		}
	}
	if values < 10000 {
		t.Errorf("only %d values were written", values)
	}
}

// What is packed of one dictionary, and written to another one with other values, is there; what is not mapped stays.
func TestThrownPairs(t *testing.T) { // P12.7
	pairs := 0
	for seed := range 600 {
		r := dice(10000 + seed)
		from := r.dict()
		into := from.Copy()
		for _, e := range into.Entries() {
			into.Set(at(e.Index, e.Sub), r.bytes(sized()[e.Type]))
		}
		for range 10 {
			l := r.maps(from)
			b, code := mapping.Pack(from, l)
			was := into.Copy()
			if code != 0 || mapping.Check(into, l, false) != 0 {
				continue
			}
			if code := mapping.Write(into, l, b); code != 0 {
				t.Fatalf("seed %d: Write(%x, % x): %x", seed, l, b, code)
			}
			pairs++
			mapped := map[api.Place]int{}
			for _, m := range l {
				mapped[m.Place]++
			}
			for _, e := range into.Entries() {
				want, _ := was.Get(at(e.Index, e.Sub))
				if mapped[at(e.Index, e.Sub)] > 0 {
					want, _ = from.Get(at(e.Index, e.Sub))
				}
				value(t, into, at(e.Index, e.Sub), want...)
			}
			if again, code := mapping.Pack(into, l); code != 0 || !bytes.Equal(again, b) {
				t.Errorf("seed %d: Pack(%x): % x, %x, want % x", seed, l, again, code, b)
			}
		}
	}
	if pairs < 2000 {
		t.Errorf("only %d pairs", pairs)
	}
}
