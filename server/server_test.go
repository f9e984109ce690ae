package server_test

import (
	"math"
	"strings"
	"testing"

	"campanile/api"
	"campanile/dict"
	"campanile/frame"
	"campanile/server"
)

const (
	rw   = api.RRead | api.RWrite
	wait = 10
)

func at(index uint16, sub uint8) api.Place { return api.Place{Index: index, Sub: sub} }

var one, text = at(0x2000, 1), at(0x2002, 0)

// several tells entries of each size, and of each kind of rights.
func several() []api.Entry {
	return []api.Entry{
		{Index: 0x2000, Type: api.TUint8, Rights: api.RRead, Default: []byte{1}},
		{Index: 0x2000, Sub: 1, Type: api.TUint8, Rights: rw | api.RStore, Default: []byte{5}, Low: []byte{1}, High: []byte{9}, Group: 1, Tag: 3},
		{Index: 0x2002, Type: api.TText, Rights: rw, Default: []byte("a text of twenty one")},
		{Index: 0x2003, Sub: 1, Type: api.TUint8, Rights: api.RWrite},
		{Index: 0x2003, Sub: 2, Type: api.TUint16, Rights: rw},
		{Index: 0x2003, Sub: 3, Type: api.TUint24, Rights: rw},
		{Index: 0x2003, Sub: 4, Type: api.TUint32, Rights: rw, Tag: 4},
		{Index: 0x2003, Sub: 6, Type: api.TTime, Rights: rw},
		{Index: 0x2003, Sub: 8, Type: api.TUint64, Rights: rw},
		{Index: 0x2003, Sub: 9, Type: api.TBool, Rights: rw},
		{Index: 0x2004, Type: api.TDomain, Rights: rw, Tag: 7},
		{Index: 0x2004, Sub: 1, Type: api.TOctets, Rights: api.RRead, Default: []byte{1, 2, 3, 4, 5, 6, 7, 8}},
		{Index: 0x2004, Sub: 2, Type: api.TText, Rights: api.RWrite},
		{Index: 0x2004, Sub: 3, Type: api.TText},
	}
}

// hook remembers what it was asked, and answers a code.
type hook struct {
	code  api.Abort
	asked []asked
	then  func(b []byte) // what it does besides
}

type asked struct {
	tag   uint8
	place api.Place
	bytes string
}

func (h *hook) Asked(tag uint8, p api.Place, b []byte) api.Abort {
	h.asked = append(h.asked, asked{tag, p, string(b)})
	if h.then != nil {
		h.then(b)
	}
	return h.code
}

// over makes a server of the address 5 over entries.
func over(t *testing.T, h server.Hook, l ...api.Entry) (*server.Server, *dict.Dict) {
	t.Helper()
	d, errno := dict.New(l)
	if errno != api.OK {
		t.Fatalf("dict.New: %d", errno)
	}
	s, errno := server.New(5, d, h, wait)
	if errno != api.OK || s == nil {
		t.Fatalf("New: %v, %d", s, errno)
	}
	return s, d
}

func made(t *testing.T) (*server.Server, *dict.Dict) {
	t.Helper()
	return over(t, nil, several()...)
}

// asking tells a client's frame to the address 5 of eight bytes in hex, with blanks as one likes.
func asking(t *testing.T, digits string) api.Frame {
	t.Helper()
	f, errno := frame.Read("605#" + strings.ReplaceAll(digits, " ", ""))
	if errno != api.OK || f.Len != 8 {
		t.Fatalf("%s are no eight bytes", digits)
	}
	return f
}

// texts tells frames as a text: those of a server of the address 5 by their bytes alone.
func texts(l []api.Frame) string {
	var all []string
	for _, f := range l {
		s, errno := frame.Write(f)
		if errno != api.OK {
			s = "no right frame"
		}
		all = append(all, strings.TrimPrefix(s, "585#"))
	}
	return strings.Join(all, ", ")
}

// talk lets a server hear lines at the time 0, each with what it is to say: heard > said, said.
func talk(t *testing.T, s *server.Server, lines ...string) {
	t.Helper()
	for _, line := range lines {
		heard, said, _ := strings.Cut(line, ">")
		want := strings.ReplaceAll(strings.ReplaceAll(said, " ", ""), ",", ", ")
		if got := texts(s.Hear(asking(t, heard), 0)); got != want {
			t.Errorf("%s\n said %s\n want %s", heard, got, want)
		}
	}
}

// has holds a value against what is wanted.
func has(t *testing.T, d *dict.Dict, p api.Place, want string) {
	t.Helper()
	if b, there := d.Get(p); string(b) != want || !there {
		t.Errorf("%x has % x, want % x", p, b, want)
	}
}

// idle: nothing is under way.
func idle(t *testing.T, s *server.Server) {
	t.Helper()
	if p, on := s.Busy(); on || p != (api.Place{}) {
		t.Errorf("Busy: %x, %t, want nothing", p, on)
	}
}

// busy: a transfer of a place is under way.
func busy(t *testing.T, s *server.Server, want api.Place) {
	t.Helper()
	if p, on := s.Busy(); !on || p != want {
		t.Errorf("Busy: %x, %t, want %x", p, on, want)
	}
}

func TestExamples(t *testing.T) { // P10.2, the chapter's examples
	d, errno := dict.New([]api.Entry{several()[1], several()[0]})
	if errno != api.OK {
		t.Fatal(errno)
	}
	s, errno := server.New(5, d, nil, 1000)
	if errno != api.OK {
		t.Fatal(errno)
	}
	for _, x := range [][2]string{
		{"605#2F00200107000000", "585#6000200100000000"},
		{"605#4000200100000000", "585#4F00200107000000"},
		{"605#2F0020010A000000", "585#8000200131000906"},
		{"605#4001200000000000", "585#8001200000000206"},
		{"605#6000000000000000", "585#8000000001000405"},
	} {
		f, _ := frame.Read(x[0])
		want, _ := frame.Read(x[1])
		if said := s.Hear(f, 0); len(said) != 1 || said[0] != want {
			t.Errorf("%s: %v, want %s", x[0], said, x[1])
		}
	}
	has(t, d, one, "\x07")
}

func TestNew(t *testing.T) { // P10.1
	d, _ := dict.New(several())
	for _, x := range []struct {
		address uint8
		d       *dict.Dict
		wait    int64
		errno   api.Errno
	}{
		{5, nil, wait, api.ErrNil},
		{0, nil, 0, api.ErrNil},
		{0, d, wait, api.ErrArg},
		{1, d, wait, api.OK},
		{api.MaxNode, d, wait, api.OK},
		{api.MaxNode + 1, d, wait, api.ErrArg},
		{255, d, wait, api.ErrArg},
		{5, d, math.MinInt64, api.ErrArg},
		{5, d, -1, api.ErrArg},
		{5, d, 0, api.ErrArg},
		{5, d, 1, api.OK},
		{5, d, api.MaxTime, api.OK},
		{5, d, api.MaxTime + 1, api.ErrArg},
		{5, d, math.MaxInt64, api.ErrArg},
	} {
		for _, h := range []server.Hook{nil, &hook{}} {
			s, errno := server.New(x.address, x.d, h, x.wait)
			if errno != x.errno || (s != nil) != (errno == api.OK) {
				t.Errorf("New(%d, %p, %v, %d): %p, %d, want %d", x.address, x.d, h, x.wait, s, errno, x.errno)
			}
			if s != nil {
				idle(t, s)
			}
		}
	}
}

// Each address has its own two IDs.
func TestAddresses(t *testing.T) { // P10.1, P10.2
	d, _ := dict.New(several())
	for address := 1; address <= api.MaxNode; address++ {
		s, _ := server.New(uint8(address), d, nil, wait)
		for id := 0; id <= 0x7FF; id++ {
			f, _ := frame.Make(uint16(id), 0x40, 0, 0x20, 1, 0, 0, 0, 0)
			want, _ := frame.Make(0x580+uint16(address), 0x4F, 0, 0x20, 1, 5, 0, 0, 0)
			said := s.Hear(f, 0)
			if id != 0x600+address && len(said) != 0 {
				t.Errorf("%d heard %03X", address, id)
			}
			if id == 0x600+address && (len(said) != 1 || said[0] != want) {
				t.Errorf("%d said %v", address, said)
			}
		}
	}
}

func TestNilServer(t *testing.T) { // P10.1
	var s *server.Server
	for _, now := range []int64{math.MinInt64, -1, 0, api.MaxTime, math.MaxInt64} {
		for _, f := range []api.Frame{{}, {ID: 0x600, Len: 8}, asking(t, "40 0020 01 00000000")} {
			if said := s.Hear(f, now); len(said) != 0 {
				t.Errorf("Hear: %v", said)
			}
		}
		if said := s.Tick(now); len(said) != 0 {
			t.Errorf("Tick: %v", said)
		}
	}
	s.Reset()
	idle(t, s)
}

// A server that was not made by New has no dictionary; its calls end all the same.
func TestServerMadeByHand(t *testing.T) { // P10.1
	s := &server.Server{}
	for first := range 256 {
		s.Hear(api.Frame{ID: 0x600, Len: 8, Data: [8]byte{byte(first), 0, 0x20, 1}}, 0)
		s.Tick(1)
	}
	s.Reset()
	idle(t, s)
}

// notMeant tells frames, each for one cause, that a server of the address 5 does not hear; each would change what is under way, if it did.
func notMeant(t *testing.T) []api.Frame {
	right := asking(t, "40 0020 01 00000000")
	with := func(change func(f *api.Frame)) api.Frame {
		f := right
		change(&f)
		return f
	}
	l := []api.Frame{
		with(func(f *api.Frame) { f.ID = 0x604 }),
		with(func(f *api.Frame) { f.ID = 0x606 }),
		with(func(f *api.Frame) { f.ID = 0x600 }),
		with(func(f *api.Frame) { f.ID = 0x585 }),
		with(func(f *api.Frame) { f.ID = 5 }),
		with(func(f *api.Frame) { f.ID = 0xE05 }),
		with(func(f *api.Frame) { f.ID = 0x605 | 0x8000 }),
		with(func(f *api.Frame) { f.Len = 9 }),
		with(func(f *api.Frame) { f.Len = -1 }),
		with(func(f *api.Frame) { f.Len = math.MaxInt }),
		with(func(f *api.Frame) { f.Remote = true }),
		with(func(f *api.Frame) { f.Remote, f.Data = true, [8]byte{} }),
		with(func(f *api.Frame) { f.Len = 7; f.Data[7] = 1 }),
		{},
		{ID: 0x605},
		{ID: 0x605, Len: 1, Data: [8]byte{0x80}},
	}
	for n := range 8 {
		l = append(l, with(func(f *api.Frame) { f.Len = n }))
		for i := n; i < 8; i++ {
			l[len(l)-1].Data[i] = 0
		}
	}
	return l
}

func TestFramesThatAreNotMeant(t *testing.T) { // P10.2
	for _, x := range states() {
		for _, f := range notMeant(t) {
			s, d := x.reached(t)
			before := d.Changes()
			if said := s.Hear(f, wait-1); len(said) != 0 {
				t.Errorf("%s: to %v it says %s", x.name, f, texts(said))
			}
			if d.Changes() != before {
				t.Errorf("%s: %v wrote", x.name, f)
			}
			x.still(t, s)
			s, _ = x.reached(t)
			s.Hear(f, wait-1)
			s.Tick(wait)
			idle(t, s) // the last time is that of what was heard, not of such a frame
		}
	}
}

func TestBytesThatAreNoCommand(t *testing.T) { // P10.2
	for _, heard := range []string{
		"24 0020 01 01000000", "2C 0020 01 00000000", "2F 0020 01 01010000", "20 0020 01 01000000", // Write
		"02 01020304050607", "03 01020304050607", "0E 00000000000000", "0F 00000000000001", // Part
		"40 0020 01 00000001", "41 0020 01 00000000", "60 0000 00 00000001", "61 0000 00 00000000", "E0 0000 00 00000000", // Read, More
		"C8 0020 01 00000000", "C0 0020 01 01000000", "C1 0000 01 00000000", "E1 0000 00 00000000", // Put, PutEnd
		"A0 0020 01 00000000", "A0 0020 01 80000000", "A4 0020 01 01000001", "A3 0100 00 00000000", // Get, GetStart
		"A2 0000 00 00000000", "A2 8001 00 00000000", "A2 0180 00 00000000", "A2 0101 01 00000000", "A1 0000 00 00000001", // Ack, GetEnd
		"FF FFFF FF FFFFFFFF", "81 0020 01 00000000",
	} {
		for _, x := range states() {
			if x.waits == segments {
				continue // there all bytes but 80 are a segment
			}
			x.stopsBy(t, heard)
		}
	}
}
