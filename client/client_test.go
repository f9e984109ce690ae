package client_test

import (
	"fmt"
	"math"
	"slices"
	"strings"
	"testing"

	"campanile/api"
	"campanile/client"
	"campanile/frame"
)

const wait = 10

func at(index uint16, sub uint8) api.Place { return api.Place{Index: index, Sub: sub} }

var one, text = at(0x2000, 1), at(0x2002, 0)

// some tells n bytes, none of which is 0.
func some(n int) []byte {
	b := make([]byte, n)
	for i := range b {
		b[i] = byte(1 + i%251)
	}
	return b
}

// made makes a client of the address 5.
func made(t *testing.T) *client.Client {
	t.Helper()
	c, errno := client.New(5, wait)
	if errno != api.OK || c == nil {
		t.Fatalf("New: %v, %d", c, errno)
	}
	return c
}

// answering tells a frame of the server of the address 5 of eight bytes in hex, with blanks as one likes.
func answering(t *testing.T, digits string) api.Frame {
	t.Helper()
	f, errno := frame.Read("585#" + strings.ReplaceAll(digits, " ", ""))
	if errno != api.OK || f.Len != 8 {
		t.Fatalf("%s are no eight bytes", digits)
	}
	return f
}

// texts tells frames as a text: those of a client of the address 5 by their bytes alone.
func texts(l []api.Frame) string {
	var all []string
	for _, f := range l {
		s, errno := frame.Write(f)
		if errno != api.OK {
			s = "no right frame"
		}
		all = append(all, strings.TrimPrefix(s, "605#"))
	}
	return strings.Join(all, ", ")
}

// inOne tells digits as texts does.
func inOne(digits string) string {
	return strings.ReplaceAll(strings.ReplaceAll(digits, " ", ""), ",", ", ")
}

// talk lets a client hear lines at the time 0, each with what it is to ask: heard > asked, asked.
func talk(t *testing.T, c *client.Client, lines ...string) {
	t.Helper()
	for _, line := range lines {
		heard, asked, _ := strings.Cut(line, ">")
		if got, want := texts(c.Hear(answering(t, heard), 0)), inOne(asked); got != want {
			t.Errorf("%s\n asked %s\n want  %s", heard, got, want)
		}
	}
}

// writes begins a write of the text at the time 0, and holds what is asked against digits.
func writes(t *testing.T, c *client.Client, b []byte, mode uint8, want string) {
	t.Helper()
	l, errno := c.Write(text, b, mode, 0)
	if got := texts(l); errno != api.OK || got != inOne(want) {
		t.Errorf("Write of %d bytes, mode %d: %s, %d, want %s", len(b), mode, got, errno, want)
	}
}

// reads begins a read of the text at the time 0, and holds what is asked against digits.
func reads(t *testing.T, c *client.Client, mode uint8, want string) {
	t.Helper()
	l, errno := c.Read(text, mode, 0)
	if got := texts(l); errno != api.OK || got != inOne(want) {
		t.Errorf("Read, mode %d: %s, %d, want %s", mode, got, errno, want)
	}
}

// sameResult: are they alike?
func sameResult(a, b client.Result) bool {
	return a.Place == b.Place && a.Write == b.Write && string(a.Data) == string(b.Data) && a.Code == b.Code
}

// ended: a transfer has ended so, and the result is told once.
func ended(t *testing.T, c *client.Client, want client.Result) {
	t.Helper()
	if c.Busy() {
		t.Error("still busy")
	}
	if r, done := c.Done(); !done || !sameResult(r, want) {
		t.Errorf("Done: %v, %t, want %v", r, done, want)
	}
	idle(t, c)
}

// wrote, got and failed: the text was written, read, neither.
func wrote(t *testing.T, c *client.Client) {
	t.Helper()
	ended(t, c, client.Result{Place: text, Write: true})
}

func got(t *testing.T, c *client.Client, want string) {
	t.Helper()
	ended(t, c, client.Result{Place: text, Data: []byte(want)})
}

func failed(t *testing.T, c *client.Client, isWrite bool, code api.Abort) {
	t.Helper()
	ended(t, c, client.Result{Place: text, Write: isWrite, Code: code})
}

// idle: nothing is under way, and there is no result.
func idle(t *testing.T, c *client.Client) {
	t.Helper()
	if c.Busy() {
		t.Error("busy")
	}
	noResult(t, c)
}

func busy(t *testing.T, c *client.Client) {
	t.Helper()
	if !c.Busy() {
		t.Error("not busy")
	}
	noResult(t, c)
}

func noResult(t *testing.T, c *client.Client) {
	t.Helper()
	if r, done := c.Done(); done || !sameResult(r, client.Result{}) {
		t.Errorf("Done: %v, %t, want nothing", r, done)
	}
}

func TestExamples(t *testing.T) { // the chapter's examples
	c := made(t)
	hear := func(heard, want string) {
		t.Helper()
		f, _ := frame.Read(heard)
		if asked := texts(c.Hear(f, 0)); asked != want {
			t.Errorf("%s: %s, want %s", heard, asked, want)
		}
	}
	first := func(l []api.Frame, errno api.Errno, want string) {
		t.Helper()
		if f, _ := frame.Read(want); errno != api.OK || !slices.Equal(l, []api.Frame{f}) {
			t.Errorf("%v, %d, want %s", l, errno, want)
		}
	}
	l, errno := c.Write(one, []byte{7}, client.Auto, 0)
	first(l, errno, "605#2F00200107000000")
	hear("585#6000200100000000", "")
	ended(t, c, client.Result{Place: one, Write: true})

	l, errno = c.Read(text, client.Auto, 0)
	first(l, errno, "605#4002200000000000")
	hear("585#4102200009000000", "6000000000000000")
	hear("585#0061626364656667", "7000000000000000")
	hear("585#1B68690000000000", "")
	got(t, c, "abcdefghi")

	l, errno = c.Write(one, []byte{7}, client.Auto, 0)
	first(l, errno, "605#2F00200107000000")
	if l := c.Tick(9); len(l) != 0 {
		t.Errorf("Tick(9): %v", l)
	}
	first(c.Tick(10), api.OK, "605#8000200100000405")
	ended(t, c, client.Result{Place: one, Write: true, Code: 0x05040000})
}

func TestNew(t *testing.T) { // P11.1
	for _, x := range []struct {
		address uint8
		wait    int64
		errno   api.Errno
	}{
		{0, wait, api.ErrArg},
		{1, wait, api.OK},
		{api.MaxNode, wait, api.OK},
		{api.MaxNode + 1, wait, api.ErrArg},
		{255, wait, api.ErrArg},
		{5, math.MinInt64, api.ErrArg},
		{5, -1, api.ErrArg},
		{5, 0, api.ErrArg},
		{5, 1, api.OK},
		{5, api.MaxTime, api.OK},
		{5, api.MaxTime + 1, api.ErrArg},
		{5, math.MaxInt64, api.ErrArg},
		{0, 0, api.ErrArg},
	} {
		c, errno := client.New(x.address, x.wait)
		if errno != x.errno || (c != nil) != (errno == api.OK) {
			t.Errorf("New(%d, %d): %p, %d, want %d", x.address, x.wait, c, errno, x.errno)
		}
		if c != nil {
			idle(t, c)
		}
	}
}

// Each address has its own two IDs.
func TestAddresses(t *testing.T) { // P11.1, P11.2, P11.3
	for address := 1; address <= api.MaxNode; address++ {
		c, _ := client.New(uint8(address), wait)
		l, _ := c.Read(text, client.Auto, 0)
		if want, _ := frame.Make(0x600+uint16(address), 0x40, 2, 0x20, 0, 0, 0, 0, 0); !slices.Equal(l, []api.Frame{want}) {
			t.Errorf("%d asked %v", address, l)
		}
		for id := 0; id <= 0x7FF; id++ {
			f, _ := frame.Make(uint16(id), 0x41, 2, 0x20, 0, 9, 0, 0, 0)
			if asked := c.Hear(f, 0); id != 0x580+address && (len(asked) != 0 || !c.Busy()) {
				t.Errorf("%d heard %03X", address, id)
			} else if want, _ := frame.Make(0x600+uint16(address), 0x60, 0, 0, 0, 0, 0, 0, 0); id == 0x580+address && !slices.Equal(asked, []api.Frame{want}) {
				t.Errorf("%d asked %v", address, asked)
			}
		}
		if want, _ := frame.Make(0x600+uint16(address), 0x80, 2, 0x20, 0, 0, 0, 4, 5); !slices.Equal(c.Tick(wait), []api.Frame{want}) {
			t.Errorf("%d does not stop", address)
		}
	}
}

func TestNilClient(t *testing.T) { // P11.1
	var c *client.Client
	for _, now := range []int64{math.MinInt64, -1, 0, api.MaxTime, math.MaxInt64} {
		for _, mode := range []uint8{0, 1, 2, 3, 255} {
			for _, n := range []int{0, 1, api.MaxValue + 1} {
				if l, errno := c.Write(text, some(n), mode, now); len(l) != 0 || errno != api.ErrNil {
					t.Errorf("Write: %v, %d", l, errno)
				}
			}
			if l, errno := c.Read(text, mode, now); len(l) != 0 || errno != api.ErrNil {
				t.Errorf("Read: %v, %d", l, errno)
			}
		}
		for _, f := range []api.Frame{{}, {ID: 0x580, Len: 8}, answering(t, "60 0220 00 00000000")} {
			if l := c.Hear(f, now); len(l) != 0 {
				t.Errorf("Hear: %v", l)
			}
		}
		if l := c.Tick(now); len(l) != 0 {
			t.Errorf("Tick: %v", l)
		}
	}
	for _, code := range []api.Abort{0, api.AbGeneral} {
		if l := c.Stop(code); len(l) != 0 {
			t.Errorf("Stop: %v", l)
		}
	}
	idle(t, c)
}

// A client that was not made by New has no address; its calls end all the same.
func TestClientMadeByHand(t *testing.T) { // the rules that hold everywhere
	for first := range 256 {
		for mode := range uint8(3) {
			c := &client.Client{}
			idle(t, c)
			for range 2 {
				c.Read(text, mode, 0)
				c.Hear(api.Frame{ID: 0x580, Len: 8, Data: [8]byte{byte(first), 2, 0x20}}, 0)
				c.Tick(0)
				c.Write(text, some(9), mode, 0)
				c.Hear(api.Frame{ID: 0x580, Len: 8, Data: [8]byte{byte(first), 2, 0x20, 0, 1}}, 0)
				c.Stop(0)
				c.Done()
			}
			idle(t, c)
		}
	}
}

// first tells what a transfer of the text asks first, by the chapter's words.
func first(isWrite bool, b []byte, mode uint8) string {
	switch n := len(b); {
	case !isWrite && mode == client.Blocks:
		return "A4 0220 00 7F000000"
	case !isWrite:
		return "40 0220 00 00000000"
	case mode == client.Blocks:
		return fmt.Sprintf("C6 0220 00 %02X%02X0000", byte(n), n>>8)
	case mode == client.Auto && n >= 1 && n <= 4:
		return fmt.Sprintf("%02X 0220 00 %X", 0x23+4*(4-n), append(slices.Clone(b), make([]byte, 4-n)...))
	default:
		return fmt.Sprintf("21 0220 00 %02X%02X0000", byte(n), n>>8)
	}
}

func TestBeginnings(t *testing.T) { // P11.2
	for _, n := range []int{0, 1, 2, 3, 4, 5, 6, 7, 8, 255, 256, api.MaxValue - 1, api.MaxValue} {
		for mode := range uint8(3) {
			c := made(t)
			b := some(n)
			writes(t, c, b, mode, first(true, b, mode))
			busy(t, c)
		}
	}
	for mode := range uint8(3) {
		c := made(t)
		reads(t, c, mode, first(false, nil, mode))
		busy(t, c)
	}
}

// Nil and empty lists mean the same.
func TestNoBytes(t *testing.T) { // P11.2
	for mode := range uint8(3) {
		a, b := made(t), made(t)
		writes(t, a, nil, mode, first(true, nil, mode))
		writes(t, b, []byte{}, mode, first(true, nil, mode))
	}
}

// What a transfer asks is of its place.
func TestPlaces(t *testing.T) { // P11.2
	for _, p := range []api.Place{{}, at(0, 1), at(1, 0), at(0x1234, 0x56), at(0xFFFF, 0xFF)} {
		place := fmt.Sprintf("%02X%02X%02X", byte(p.Index), p.Index>>8, p.Sub)
		for _, x := range []struct {
			isWrite bool
			n       int
			mode    uint8
			want    string
		}{
			{true, 1, client.Auto, "2F" + place + "01000000"},
			{true, 5, client.Auto, "21" + place + "05000000"},
			{true, 1, client.Segments, "21" + place + "01000000"},
			{true, 1, client.Blocks, "C6" + place + "01000000"},
			{false, 0, client.Auto, "40" + place + "00000000"},
			{false, 0, client.Segments, "40" + place + "00000000"},
			{false, 0, client.Blocks, "A4" + place + "7F000000"},
		} {
			c := made(t)
			l, errno := c.Read(p, x.mode, 0)
			if x.isWrite {
				c = made(t)
				l, errno = c.Write(p, some(x.n), x.mode, 0)
			}
			if texts(l) != x.want || errno != api.OK {
				t.Errorf("%x: %s, %d, want %s", p, texts(l), errno, x.want)
			}
			if l := c.Stop(api.AbState); texts(l) != "80"+place+"22000008" {
				t.Errorf("%x: %s", p, texts(l))
			}
			ended(t, c, client.Result{Place: p, Write: x.isWrite, Code: api.AbState})
		}
	}
}

// wrongCalls are those that answer an error, whatever is under way.
func wrongCalls(t *testing.T, c *client.Client, want api.Errno) {
	t.Helper()
	for _, x := range []struct {
		n    int
		mode uint8
	}{{0, 3}, {1, 3}, {1, 255}, {api.MaxValue, 3}, {api.MaxValue + 1, 0}, {api.MaxValue + 1, 1}, {api.MaxValue + 1, 2}, {api.MaxValue + 1, 3}, {100000, 0}} {
		if l, errno := c.Write(one, make([]byte, x.n), x.mode, 3); len(l) != 0 || errno != want {
			t.Errorf("Write of %d bytes, mode %d: %v, %d", x.n, x.mode, l, errno)
		}
	}
	for _, mode := range []uint8{3, 4, 128, 255} {
		if l, errno := c.Read(one, mode, 3); len(l) != 0 || errno != want {
			t.Errorf("Read, mode %d: %v, %d", mode, l, errno)
		}
	}
}

// An error leaves what is under way, and a result that was not taken, as they are. (ErrArg comes ahead of ErrBusy.)
func TestErrors(t *testing.T) { // P11.2
	c := made(t)
	wrongCalls(t, c, api.ErrArg)
	idle(t, c)
	reads(t, c, client.Auto, first(false, nil, 0))
	talk(t, c, "4F 0220 00 61000000 >")
	wrongCalls(t, c, api.ErrArg)
	got(t, c, "a")
	for _, x := range states() {
		if x.waits == nothing {
			continue
		}
		c := x.reached(t)
		wrongCalls(t, c, api.ErrArg)
		for mode := range uint8(3) {
			for _, n := range []int{0, 1, 5, api.MaxValue} {
				if l, errno := c.Write(one, some(n), mode, 5); len(l) != 0 || errno != api.ErrBusy {
					t.Errorf("%s: Write: %v, %d", x.name, l, errno)
				}
			}
			if l, errno := c.Read(one, mode, 5); len(l) != 0 || errno != api.ErrBusy {
				t.Errorf("%s: Read: %v, %d", x.name, l, errno)
			}
		}
		busy(t, c)
		x.still(t, c)
		c = x.reached(t)
		c.Read(one, client.Auto, wait-1)
		c.Write(one, nil, client.Auto, wait-1)
		c.Tick(wait)
		failed(t, c, x.isWrite, api.AbTimeout) // its last time is its own
	}
}

// A result that was not taken is no more when the next transfer begins.
func TestResultThatWasNotTaken(t *testing.T) { // P11.2, P11.5
	for mode := range uint8(3) {
		for _, isWrite := range []bool{false, true} {
			c := made(t)
			reads(t, c, client.Auto, first(false, nil, 0))
			talk(t, c, "4F 0220 00 61000000 >")
			if c.Busy() {
				t.Error("busy")
			}
			if isWrite {
				writes(t, c, some(5), mode, first(true, some(5), mode))
			} else {
				reads(t, c, mode, first(false, nil, mode))
			}
			busy(t, c)
			c.Stop(api.AbState)
			failed(t, c, isWrite, api.AbState)
		}
	}
}

// notMeant tells frames, each for one cause, that a client of the address 5 does not hear; each would change what is under way, if it did.
func notMeant(t *testing.T) []api.Frame {
	right := answering(t, "80 0220 00 00000008")
	with := func(change func(f *api.Frame)) api.Frame {
		f := right
		change(&f)
		return f
	}
	l := []api.Frame{
		with(func(f *api.Frame) { f.ID = 0x584 }),
		with(func(f *api.Frame) { f.ID = 0x586 }),
		with(func(f *api.Frame) { f.ID = 0x580 }),
		with(func(f *api.Frame) { f.ID = 0x605 }),
		with(func(f *api.Frame) { f.ID = 5 }),
		with(func(f *api.Frame) { f.ID = 0xD85 }),
		with(func(f *api.Frame) { f.ID = 0x585 | 0x8000 }),
		with(func(f *api.Frame) { f.Len = 9 }),
		with(func(f *api.Frame) { f.Len = -1 }),
		with(func(f *api.Frame) { f.Len = math.MaxInt }),
		with(func(f *api.Frame) { f.Remote = true }),
		with(func(f *api.Frame) { f.Remote, f.Data = true, [8]byte{} }),
		with(func(f *api.Frame) { f.Len = 7 }), // it is not right: a byte behind its length is not 0
		{},
		{ID: 0x585},
		{ID: 0x585, Len: 1, Data: [8]byte{0x80}},
	}
	for n := range 8 {
		l = append(l, with(func(f *api.Frame) {
			f.Len = n
			clear(f.Data[n:])
		}))
	}
	return l
}

func TestFramesThatAreNotMeant(t *testing.T) { // P11.3
	for _, x := range states() {
		for _, f := range notMeant(t) {
			c := x.reached(t)
			if asked := c.Hear(f, wait-1); len(asked) != 0 {
				t.Errorf("%s: to %v it asks %s", x.name, f, texts(asked))
			}
			x.still(t, c)
			if x.waits == nothing {
				continue
			}
			c = x.reached(t)
			c.Hear(f, wait-1)
			c.Tick(wait) // the last time is that of what was heard, not of such a frame
			failed(t, c, x.isWrite, api.AbTimeout)
		}
	}
}

// With nothing under way nothing is asked, whatever comes; a result stays.
func TestNothingUnderWay(t *testing.T) { // P11.3, P11.4
	fresh, behind := made(t), made(t)
	reads(t, behind, client.Auto, first(false, nil, 0))
	talk(t, behind, "4B 0220 00 61620000 >")
	for _, c := range []*client.Client{fresh, behind} {
		for first := range 256 {
			for _, rest := range []string{"00000000000000", "02200000000000", "02200009000000", "027F0000000000", "61626364656667"} {
				talk(t, c, fmt.Sprintf("%02X", first)+rest+" >")
			}
		}
		for _, l := range [][]api.Frame{c.Tick(api.MaxTime), c.Stop(0), c.Stop(api.AbGeneral)} {
			if len(l) != 0 {
				t.Errorf("%s", texts(l))
			}
		}
	}
	idle(t, fresh)
	got(t, behind, "ab")
}

func TestBytesThatAreNoAnswer(t *testing.T) { // P11.3
	for _, heard := range []string{
		"60 0220 00 00000001", "61 0220 00 00000000", "62 0220 00 00000000", "70 0220 00 00000000", // Write
		"20 00000000000001", "21 00000000000000", "31 00000000000000", "22 0220 00 00000000", "23 0220 00 00000000", // Part
		"44 0220 00 01000000", "4C 0220 00 00000000", "4F 0220 00 01010000", "40 0220 00 01000000", "50 0220 00 00000000", // Read
		"02 01020304050607", "03 01020304050607", "0E 00000000000000", "0F 00000000000001", "1F 00000000000001", // More
		"A0 0220 00 00000000", "A0 0220 00 80000000", "A4 0220 00 01010000", "A8 0220 00 01000000", "A3 0000 00 00000000", // Put
		"A2 0000 00 00000000", "A2 8001 00 00000000", "A2 0180 00 00000000", "A2 0101 01 00000000", "A6 0101 00 00000000", // Ack
		"A1 0000 00 00000001", "A5 0000 00 00000000", // PutEnd
		"C0 0220 00 01000000", "C4 0220 00 00000001", "C8 0220 00 00000000", "C3 0220 00 00000000", // Get
		"C1 0000 01 00000000", "D5 0000 00 00000001", "E1 0000 00 00000000", // GetEnd
		"FF FFFF FF FFFFFFFF", "81 0220 00 00000000", "90 0220 00 00000000",
	} {
		for _, x := range states() {
			if x.waits == nothing || x.waits == segments {
				continue // there nothing is heard, or all bytes but 80 are a segment
			}
			x.stopsBy(t, heard)
		}
	}
}
