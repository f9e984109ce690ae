package journal

import (
	"bytes"
	"testing"

	"campanile/api"
	"campanile/flash"
)

// laid tells a flash of 10 sectors, in whose first half records stand one behind the other.
func laid(t *testing.T, all ...record) *flash.Flash {
	t.Helper()
	f, _ := flash.New(10)
	r, at := region{f, 0, 5}, 0
	for _, one := range all {
		b := one.encoded()
		if errno := r.write(at, b); errno != api.OK {
			t.Fatalf("write: %d", errno)
		}
		at += len(b)
	}
	return f
}

// Records whose check is right, but which no call of a journal writes: nothing that they say may do harm.
func TestRecordsByHand(t *testing.T) { // P6.5
	begin, group := record{begins, 0, []byte{1}}, record{stores, 3, []byte("three")}
	rows := map[string]struct {
		records []record
		groups  string // those that are found
	}{
		"right ones":                   {[]record{begin, group, {stores, 4, nil}, {marks, 4, nil}}, "\x03"},
		"none that begins":             {[]record{group}, ""},
		"one of no bytes ahead":        {[]record{{stores, 3, nil}, begin}, ""},
		"one of a byte ahead":          {[]record{{stores, 3, []byte{1}}, begin}, ""},
		"a beginning behind":           {[]record{group, begin, group}, ""},
		"a beginning without a number": {[]record{{begins, 0, nil}, group}, ""},
		"a beginning of two numbers":   {[]record{{begins, 0, []byte{1, 2}}, group}, ""},
		"two beginnings":               {[]record{begin, {begins, 15, []byte{9}}, group}, "\x03"},
		"a beginning amid":             {[]record{begin, group, {begins, 3, nil}}, "\x03"},
		"the group 15":                 {[]record{begin, {stores, 15, nil}}, "\x0f"},
		"the group 16":                 {[]record{begin, group, {stores, 16, nil}}, "\x03"},
		"the group 255":                {[]record{begin, group, {stores, 255, nil}}, "\x03"},
		"a mark of the group 16":       {[]record{begin, group, {marks, 16, nil}}, "\x03"},
		"a mark with bytes":            {[]record{begin, group, {marks, 3, []byte{1}}}, ""},
		"4096 bytes":                   {[]record{begin, {stores, 2, make([]byte, 4096)}, group}, "\x02\x03"},
		"4097 bytes":                   {[]record{begin, group, {stores, 2, make([]byte, 4097)}}, "\x03"},
		"no such kind":                 {[]record{begin, group, {0, 3, nil}, {4, 3, nil}, {255, 3, nil}}, "\x03"},
	}
	for name, row := range rows {
		f := laid(t, row.records...)
		j, errno := Open(f, 0, 10)
		if errno != api.OK || string(j.Groups()) != row.groups {
			t.Errorf("%s: %v, %d", name, j.Groups(), errno)
			continue
		}
		for i := range 40 {
			if errno := j.Store(7, bytes.Repeat([]byte{byte(i)}, 10*i)); errno != api.OK {
				t.Errorf("%s: Store: %d", name, errno)
			}
			again, errno := Open(f, 0, 10)
			if errno != api.OK {
				t.Fatalf("%s: Open again: %d", name, errno)
			}
			for n := range uint8(16) {
				a, there := j.Load(n)
				b, found := again.Load(n)
				if there != found || !bytes.Equal(a, b) {
					t.Errorf("%s: group %d: %v, %t, then %v, %t", name, n, a, there, b, found)
				}
			}
		}
	}
}

// A record of which a bit is another one does not count.
func TestSpoiltRecord(t *testing.T) { // P6.5
	b := record{stores, 5, []byte("some bytes")}.encoded()
	if _, ok := decoded(b); !ok {
		t.Fatal("a whole record does not count")
	}
	for bit := range len(b) * 8 {
		spoilt := bytes.Clone(b)
		spoilt[bit/8] ^= 1 << (bit % 8)
		if r, ok := decoded(spoilt); ok {
			t.Errorf("bit %d: %v counts", bit, r)
		}
	}
	for n := range len(b) {
		if r, ok := decoded(b[:n]); ok {
			t.Errorf("%d bytes of it: %v counts", n, r)
		}
	}
}

// What is told of records ends when it is left, and can be gone over again.
func TestRecordsLeftEarly(t *testing.T) { // the section 'Ways'
	var b []byte
	for n := range uint8(5) {
		b = append(b, record{stores, n, make([]byte, n)}.encoded()...)
	}
	all := records(b)
	for want := range 6 {
		n := 0
		for r := range all {
			if n == want {
				break
			}
			if int(r.group) != n || len(r.bytes) != n {
				t.Errorf("record %d: %v", n, r)
			}
			n++
		}
		if n != min(want, 5) {
			t.Errorf("%d records, want %d", n, min(want, 5))
		}
	}
}

// A record with n bytes takes just the room that the chapter gives a group with n bytes, and what begins a half 16.
func TestRoomOfRecords(t *testing.T) { // the section 'Words'
	for n := range 4097 {
		want := 12 + n
		for want%4 != 0 {
			want++
		}
		if got := len(record{stores, 1, make([]byte, n)}.encoded()); got != want || room(n) != want {
			t.Fatalf("%d bytes: %d, room %d, want %d", n, got, room(n), want)
		}
	}
	if room(1) != 16 {
		t.Errorf("room(1): %d", room(1))
	}
}
