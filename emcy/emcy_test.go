package emcy_test

import (
	"math"
	"slices"
	"testing"

	"campanile/api"
	"campanile/emcy"
	"campanile/frame"
)

// noTimes tells numbers of ticks that are no times.
func noTimes() []int64 {
	return []int64{math.MinInt64, -1, api.MaxTime + 1, 2 * api.MaxTime, math.MaxInt64}
}

// none are five bytes that say nothing.
var none [5]byte

// read tells the frame of a text.
func read(t *testing.T, s string) api.Frame {
	t.Helper()
	f, errno := frame.Read(s)
	if errno != api.OK {
		t.Fatalf("no frame: %s", s)
	}
	return f
}

// errorsOf tells a node's errors, which must be taken; none stands.
func errorsOf(t *testing.T, address uint8, inhibit int64) *emcy.Errors {
	t.Helper()
	x, errno := emcy.New(address, inhibit)
	if errno != api.OK || x == nil {
		t.Fatalf("New(%d, %d): %v, %d", address, inhibit, x, errno)
	}
	return x
}

// raises holds what Raise answers.
func raises(t *testing.T, x *emcy.Errors, code uint16, bit uint8, info [5]byte, want api.Errno) {
	t.Helper()
	if errno := x.Raise(code, bit, info); errno != want {
		t.Errorf("Raise(%x, %d, %v): %d, want %d", code, bit, info, errno, want)
	}
}

func clears(t *testing.T, x *emcy.Errors, code uint16, want api.Errno) {
	t.Helper()
	if errno := x.Clear(code); errno != want {
		t.Errorf("Clear(%x): %d, want %d", code, errno, want)
	}
}

func registers(t *testing.T, x *emcy.Errors, want uint8) {
	t.Helper()
	if r := x.Register(); r != want {
		t.Errorf("Register: %08b, want %08b", r, want)
	}
}

func stands(t *testing.T, x *emcy.Errors, code uint16, want bool) {
	t.Helper()
	if is := x.Stands(code); is != want {
		t.Errorf("Stands(%x): %t, want %t", code, is, want)
	}
}

func histories(t *testing.T, x *emcy.Errors, want ...uint32) {
	t.Helper()
	if h := x.History(); !slices.Equal(h, want) {
		t.Errorf("History: %08X, want %08X", h, want)
	}
}

// ticks holds what Tick tells, as a frame's text; an empty one: nothing.
func ticks(t *testing.T, x *emcy.Errors, now int64, want string) {
	t.Helper()
	f, ok := x.Tick(now)
	if want == "" {
		if ok || f != (api.Frame{}) {
			t.Errorf("Tick(%d): %v, %t, want nothing", now, f, ok)
		}
		return
	}
	if !ok || f != read(t, want) {
		t.Errorf("Tick(%d): %v, %t, want %s", now, f, ok, want)
	}
}

func due(t *testing.T, x *emcy.Errors, want int64) {
	t.Helper()
	if n, ok := x.Due(); n != want || !ok {
		t.Errorf("Due: %d, %t, want %d", n, ok, want)
	}
}

func neverDue(t *testing.T, x *emcy.Errors) {
	t.Helper()
	if n, ok := x.Due(); n != 0 || ok {
		t.Errorf("Due: %d, %t, want nothing", n, ok)
	}
}

// drained tells all frames that wait, as texts, by ticks that are far enough from each other.
func drained(t *testing.T, x *emcy.Errors) []string {
	t.Helper()
	var l []string
	for range 100 {
		now, ok := x.Due()
		if !ok {
			return l
		}
		f, ok := x.Tick(now)
		if !ok {
			t.Fatalf("Tick(%d): nothing, though it is due", now)
		}
		s, errno := frame.Write(f)
		if errno != api.OK {
			t.Fatalf("Tick(%d) tells no right frame: %v", now, f)
		}
		l = append(l, s)
	}
	t.Fatalf("frames wait without end: %q", l)
	return nil
}

// tells holds which frames wait, all of them, as texts.
func tells(t *testing.T, x *emcy.Errors, want ...string) {
	t.Helper()
	if l := drained(t, x); !slices.Equal(l, want) {
		t.Errorf("frames wait: %q, want %q", l, want)
	}
}

// quiet lets errors be told, so that no frame waits.
func quiet(t *testing.T, x *emcy.Errors) { drained(t, x) }

// alike holds that two are the same in all that they show, and will tell: it lets their frames go.
func alike(t *testing.T, a, b *emcy.Errors) {
	t.Helper()
	registers(t, a, b.Register())
	histories(t, a, b.History()...)
	for code := range 65536 {
		stands(t, a, uint16(code), b.Stands(uint16(code)))
	}
	if n, ok := b.Due(); ok {
		due(t, a, n)
	} else {
		neverDue(t, a)
	}
	tells(t, a, drained(t, b)...)
}

func TestNew(t *testing.T) { // P16.1
	for address := range 256 {
		for _, inhibit := range []int64{0, 1, 10, api.MaxTime - 1, api.MaxTime} {
			x, errno := emcy.New(uint8(address), inhibit)
			switch may := address >= 1 && address <= 127; {
			case may && (errno != api.OK || x == nil):
				t.Errorf("New(%d, %d): %v, %d", address, inhibit, x, errno)
			case !may && (errno != api.ErrArg || x != nil):
				t.Errorf("New(%d, %d): %v, %d, want ErrArg", address, inhibit, x, errno)
			}
		}
		for _, inhibit := range noTimes() {
			if x, errno := emcy.New(uint8(address), inhibit); errno != api.ErrArg || x != nil {
				t.Errorf("New(%d, %d): %v, %d, want ErrArg", address, inhibit, x, errno)
			}
		}
	}
}

// Of a new one no error stands, none was, and no frame waits.
func TestNewHasNoError(t *testing.T) { // P16.1
	x := errorsOf(t, 5, 10)
	registers(t, x, 0)
	histories(t, x)
	for code := range 65536 {
		stands(t, x, uint16(code), false)
	}
	neverDue(t, x)
	for _, now := range append(noTimes(), 0, 1, api.MaxTime) {
		ticks(t, x, now, "")
	}
}

func TestNil(t *testing.T) { // P16.1
	var x *emcy.Errors
	for range 2 {
		for _, code := range []uint16{0, 1, 0x1000, 65535} {
			for _, bit := range []uint8{0, 7, 8, 255} {
				raises(t, x, code, bit, [5]byte{1, 2, 3, 4, 5}, api.ErrNil)
			}
			clears(t, x, code, api.ErrNil)
			stands(t, x, code, false)
		}
		registers(t, x, 0)
		histories(t, x)
		neverDue(t, x)
		for _, now := range append(noTimes(), 0, 10, api.MaxTime) {
			ticks(t, x, now, "")
		}
		x.Forget()
		x.Reset()
	}
}

// Errors that are made by hand panic at nothing.
func TestByHand(t *testing.T) { // P16.1
	var x emcy.Errors
	for range 20 {
		for _, code := range []uint16{0, 1, 65535} {
			x.Raise(code, 7, none)
			x.Raise(code, 8, none)
			x.Stands(code)
			x.Clear(code)
		}
		x.Register()
		x.History()
		for _, now := range append(noTimes(), 0, 10, api.MaxTime) {
			x.Due()
			x.Tick(now)
		}
		x.Forget()
		x.Reset()
	}
}

// Errors of two nodes have nothing in common.
func TestApart(t *testing.T) { // P16.1
	a, b := errorsOf(t, 5, 10), errorsOf(t, 6, 0)
	raises(t, a, 0x1000, 1, none, api.OK)
	registers(t, b, 0)
	histories(t, b)
	stands(t, b, 0x1000, false)
	neverDue(t, b)
	raises(t, b, 0x1000, 2, none, api.OK)
	b.Forget()
	b.Reset()
	registers(t, a, 3)
	histories(t, a, 0x1000)
	stands(t, a, 0x1000, true)
	tells(t, a, "085#0010030000000000")
}

// The examples of the chapter.
func TestExamples(t *testing.T) { // P16.2, P16.3, P16.4
	x := errorsOf(t, 5, 10)
	raises(t, x, 0x1000, 0, [5]byte{1, 2, 3, 4, 5}, api.OK)
	raises(t, x, 0x4201, 3, none, api.OK)
	registers(t, x, 9)
	histories(t, x, 0x00004201, 0x02011000)
	ticks(t, x, 3, "085#0010010102030405")
	ticks(t, x, 12, "")
	ticks(t, x, 13, "085#0142090000000000")
	clears(t, x, 0x1000, api.OK)
	clears(t, x, 0x1000, api.ErrNone)
	registers(t, x, 9)
	due(t, x, 23)
	ticks(t, x, 23, "085#0000090000000000")
}
