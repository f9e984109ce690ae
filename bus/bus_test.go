package bus_test

import (
	"math"
	"slices"
	"testing"

	"campanile/api"
	"campanile/bus"
	"campanile/frame"
)

// read tells the frame of a text.
func read(t *testing.T, text string) api.Frame {
	t.Helper()
	f, errno := frame.Read(text)
	if errno != api.OK {
		t.Fatalf("%s is no frame", text)
	}
	return f
}

// send sends frames of one node, which must all be taken.
func send(t *testing.T, b *bus.Bus, node int, texts ...string) {
	t.Helper()
	for _, text := range texts {
		if errno := b.Send(node, read(t, text)); errno != api.OK {
			t.Fatalf("Send(%d, %s): %d", node, text, errno)
		}
	}
}

// waits holds what waits, and how many were sent in all, against what is wanted.
func waits(t *testing.T, b *bus.Bus, count int64, want ...bus.Sent) {
	t.Helper()
	if got := b.Waits(); !slices.Equal(got, want) {
		t.Errorf("Waits: %v, want %v", got, want)
	}
	if got := b.Count(); got != count {
		t.Errorf("Count: %d, want %d", got, count)
	}
}

// next takes all that wait, which must be what is wanted, and then nothing.
func next(t *testing.T, b *bus.Bus, want ...bus.Sent) {
	t.Helper()
	for i, w := range want {
		if got, ok := b.Next(); got != w || !ok {
			t.Errorf("Next, time %d: %v, %t, want %v", i, got, ok, w)
		}
	}
	if got, ok := b.Next(); ok || got != (bus.Sent{}) {
		t.Errorf("Next of nothing: %v, %t", got, ok)
	}
}

// wrongFrames tells frames that are not right, each for one cause.
func wrongFrames() []api.Frame {
	return []api.Frame{
		{ID: 0x800},
		{ID: 0xFFFF, Len: 1},
		{Len: -1},
		{Len: math.MinInt},
		{Len: 9},
		{Len: math.MaxInt},
		{Len: 1, Data: [8]byte{1, 2}},
		{Data: [8]byte{7: 1}},
		{Remote: true, Data: [8]byte{1}, Len: 8},
		{Remote: true, Len: 9},
		{Remote: true, Len: -1},
	}
}

func TestNew(t *testing.T) { // P4.1
	b := bus.New()
	if b == nil {
		t.Fatal("New: nil")
	}
	waits(t, b, 0)
	next(t, b)
	for _, node := range []int{math.MinInt, -1, 0, 1, math.MaxInt} {
		if n := b.Gone(node); n != 0 {
			t.Errorf("Gone(%d) of an empty bus: %d", node, n)
		}
	}
	waits(t, b, 0)
	other := bus.New()
	send(t, b, 1, "181#01")
	waits(t, other, 0)
}

func TestNilBus(t *testing.T) { // P4.1
	var b *bus.Bus
	for _, node := range []int{math.MinInt, -1, 0, 1, math.MaxInt} {
		for _, f := range append(wrongFrames(), api.Frame{}, read(t, "7FF#R8")) {
			if errno := b.Send(node, f); errno != api.ErrNil {
				t.Errorf("Send(%d, %v): %d, want ErrNil", node, f, errno)
			}
		}
		if n := b.Gone(node); n != 0 {
			t.Errorf("Gone(%d): %d", node, n)
		}
	}
	next(t, b)
	waits(t, b, 0)
	if c := b.Copy(); c != nil {
		t.Errorf("Copy: %v", c)
	}
}

func TestSendRefuses(t *testing.T) { // P4.2
	b := bus.New()
	send(t, b, 2, "181#01", "080#")
	refuse := func(node int, f api.Frame, want api.Errno) {
		t.Helper()
		if errno := b.Send(node, f); errno != want {
			t.Errorf("Send(%d, %v): %d, want %d", node, f, errno, want)
		}
		waits(t, b, 2, bus.Sent{Node: 2, Frame: read(t, "080#"), Number: 1}, bus.Sent{Node: 2, Frame: read(t, "181#01")})
	}
	for _, node := range []int{-1, -2, math.MinInt} {
		refuse(node, read(t, "000#"), api.ErrArg)
		for _, f := range wrongFrames() {
			refuse(node, f, api.ErrArg)
		}
	}
	for _, f := range wrongFrames() {
		for _, node := range []int{0, 1, 2, 127, 128, math.MaxInt} {
			refuse(node, f, api.ErrFrame)
		}
	}
	send(t, b, 2, "000#")
	next(t, b,
		bus.Sent{Node: 2, Frame: read(t, "000#"), Number: 2},
		bus.Sent{Node: 2, Frame: read(t, "080#"), Number: 1},
		bus.Sent{Node: 2, Frame: read(t, "181#01")})
}

func TestSendTakesEachNodeAndFrame(t *testing.T) { // P4.2
	b := bus.New()
	var want []bus.Sent
	for _, text := range []string{"000#", "000#R0", "000#R8", "181#0102030405060708", "7FF#FF", "7FF#R3"} {
		for _, node := range []int{math.MaxInt, 128, 127, 1, 0} {
			want = append(want, bus.Sent{Node: node, Frame: read(t, text), Number: int64(len(want))})
			send(t, b, node, text)
		}
	}
	waits(t, b, int64(len(want)), want...)
	next(t, b, want...)
}

// full tells a bus on which MaxBus frames wait: every other one is node 1's, the rest is node 2's.
func full(t *testing.T) *bus.Bus {
	t.Helper()
	b := bus.New()
	for i := range api.MaxBus {
		f, _ := frame.Make(uint16(2*(i*37%api.MaxBus)), byte(i))
		if errno := b.Send(1+i%2, f); errno != api.OK {
			t.Fatalf("Send of the %d. frame: %d", i, errno)
		}
	}
	return b
}

func TestFullBus(t *testing.T) { // P4.2
	b := full(t)
	before := b.Waits()
	if len(before) != 512 || b.Count() != 512 {
		t.Fatalf("%d wait, %d were sent", len(before), b.Count())
	}
	for _, f := range append(wrongFrames(), read(t, "000#"), read(t, "7FF#R0")) {
		if errno := b.Send(-1, f); errno != api.ErrArg {
			t.Errorf("Send(-1, %v) to a full bus: %d", f, errno)
		}
	}
	for _, f := range wrongFrames() {
		if errno := b.Send(1, f); errno != api.ErrFrame {
			t.Errorf("Send(1, %v) to a full bus: %d", f, errno)
		}
	}
	for _, text := range []string{"000#", "181#01", "7FF#R0"} {
		for _, node := range []int{0, 1, 2, 3} {
			if errno := b.Send(node, read(t, text)); errno != api.ErrBus {
				t.Errorf("Send(%d, %s) to a full bus: %d", node, text, errno)
			}
		}
	}
	waits(t, b, 512, before...)
	next(t, b, before...)
}

func TestFullBusHasRoomAgain(t *testing.T) { // P4.2, P4.3
	b := full(t)
	before := b.Waits()
	if got, ok := b.Next(); !ok || got != before[0] {
		t.Fatalf("Next: %v, %t", got, ok)
	}
	send(t, b, 3, "7FF#")
	if errno := b.Send(3, read(t, "7FF#")); errno != api.ErrBus {
		t.Errorf("Send behind one Next and one Send: %d", errno)
	}
	last := bus.Sent{Node: 3, Frame: read(t, "7FF#"), Number: 512}
	waits(t, b, 513, append(before[1:], last)...)

	b = full(t)
	if n := b.Gone(2); n != 256 {
		t.Fatalf("Gone(2): %d", n)
	}
	for range 256 {
		send(t, b, 2, "7FF#R0")
	}
	if errno := b.Send(2, read(t, "7FF#R0")); errno != api.ErrBus || b.Count() != 768 || len(b.Waits()) != 512 {
		t.Errorf("Send behind 256 that went: %d; %d were sent, %d wait", errno, b.Count(), len(b.Waits()))
	}
}

func TestGone(t *testing.T) { // P4.3
	b := bus.New()
	send(t, b, 1, "181#01")
	send(t, b, 2, "080#")
	send(t, b, 0, "000#R2", "7FF#")
	send(t, b, 1, "100#R8", "181#01")
	left := []bus.Sent{
		{Node: 0, Frame: read(t, "000#R2"), Number: 2},
		{Node: 2, Frame: read(t, "080#"), Number: 1},
		{Node: 0, Frame: read(t, "7FF#"), Number: 3},
	}
	for _, node := range []int{3, 127, -1, math.MinInt, math.MaxInt} {
		if n := b.Gone(node); n != 0 || len(b.Waits()) != 6 {
			t.Errorf("Gone(%d), which sent nothing: %d, %d wait", node, n, len(b.Waits()))
		}
	}
	if n := b.Gone(1); n != 3 {
		t.Errorf("Gone(1): %d", n)
	}
	waits(t, b, 6, left...)
	if n := b.Gone(1); n != 0 {
		t.Errorf("Gone(1) again: %d", n)
	}
	waits(t, b, 6, left...)
	send(t, b, 1, "080#")
	next(t, b, left[0], left[1], bus.Sent{Node: 1, Frame: read(t, "080#"), Number: 6}, left[2])
}

func TestGoneOfWhoSentAll(t *testing.T) { // P4.3
	b := bus.New()
	send(t, b, 4, "181#01", "080#", "181#01", "181#R1")
	if n := b.Gone(4); n != 4 {
		t.Errorf("Gone(4): %d", n)
	}
	waits(t, b, 4)
	next(t, b)
	send(t, b, 4, "7FF#")
	next(t, b, bus.Sent{Node: 4, Frame: read(t, "7FF#"), Number: 4})
}

func TestGoneCountsOnlyWhatWaits(t *testing.T) { // P4.3
	b := bus.New()
	send(t, b, 4, "181#01", "080#", "100#")
	b.Next()
	if n := b.Gone(4); n != 2 {
		t.Errorf("Gone(4) behind a Next: %d", n)
	}
	waits(t, b, 3)
}

// Whoever goes, and wherever its frames stand in the heap, the others keep their order.
func TestGoneKeepsTheOrder(t *testing.T) { // P4.3
	d := dice(7)
	for size := range 24 {
		for range 40 {
			b := bus.New()
			for range size {
				if errno := b.Send(int(d.roll(4)), d.frame()); errno != api.OK {
					t.Fatalf("Send: %d", errno)
				}
			}
			gone := int(d.roll(4))
			all := b.Waits()
			left := slices.DeleteFunc(slices.Clone(all), func(s bus.Sent) bool { return s.Node == gone })
			if n := b.Gone(gone); n != len(all)-len(left) {
				t.Fatalf("Gone(%d) of %v: %d", gone, all, n)
			}
			waits(t, b, int64(size), left...)
			next(t, b, left...)
		}
	}
}

func TestWaitsIsTheCallers(t *testing.T) { // P4.4
	b := bus.New()
	send(t, b, 1, "181#01", "080#", "181#02", "181#R0", "7FF#")
	want := b.Waits()
	list := b.Waits()
	clear(list)
	list = append(list[:0], bus.Sent{Node: 9, Number: 99})
	list = list[:cap(list)]
	for i := range list {
		list[i] = bus.Sent{Node: 9, Number: 99}
	}
	waits(t, b, 5, want...)

	kept := b.Waits()
	b.Next()
	b.Gone(1)
	send(t, b, 2, "000#", "001#", "002#", "003#", "004#", "005#")
	if !slices.Equal(kept, want) {
		t.Errorf("a list that was told, later: %v, want %v", kept, want)
	}
}

func TestWaitsTakesNothing(t *testing.T) { // P4.4
	b := full(t)
	first := b.Waits()
	waits(t, b, 512, first...)
	next(t, b, first...)
	waits(t, b, 512)
}

func TestCopyIsTheSame(t *testing.T) { // P4.4
	for _, b := range []*bus.Bus{bus.New(), full(t), {}} {
		for range 2 {
			want := b.Waits()
			c := b.Copy()
			if c == b || c == nil {
				t.Fatal("Copy: none of its own")
			}
			waits(t, c, b.Count(), want...)
			waits(t, c.Copy(), b.Count(), want...)
			next(t, c, want...)
			waits(t, b, b.Count(), want...)
			b.Next()
		}
	}
}

// Of two buses that are the same, what is done to the one (the copy, or what was copied) is not seen in the other.
func TestCopySharesNothing(t *testing.T) { // P4.4
	acts := []func(b *bus.Bus){
		func(b *bus.Bus) { b.Next() },
		func(b *bus.Bus) { b.Gone(1) },
		func(b *bus.Bus) { b.Gone(2) },
		func(b *bus.Bus) { b.Send(3, api.Frame{}) },
		func(b *bus.Bus) { b.Next(); b.Send(3, api.Frame{ID: 0x7FF}) },
		func(b *bus.Bus) { b.Gone(1); b.Send(3, api.Frame{}); b.Send(3, api.Frame{}) },
		func(b *bus.Bus) {
			for range 600 {
				b.Next()
			}
			b.Send(4, api.Frame{})
		},
	}
	for i, act := range acts {
		for _, copyActs := range []bool{false, true} {
			b := bus.New()
			send(t, b, 1, "181#01", "080#")
			send(t, b, 2, "181#02", "181#R0", "7FF#")
			b.Next() // leaves room behind the list
			one, other := b, b.Copy()
			if copyActs {
				one, other = other, one
			}
			want := other.Waits()
			act(one)
			waits(t, other, 5, want...)
			changed, count := one.Waits(), one.Count()
			send(t, other, 5, "000#")
			waits(t, one, count, changed...)
			next(t, other, append([]bus.Sent{{Node: 5, Number: 5}}, want...)...)
			waits(t, one, count, changed...)
			if t.Failed() {
				t.Fatalf("act %d, on the copy: %t", i, copyActs)
			}
		}
	}
}

func TestSameFramesGoOnceEach(t *testing.T) { // P4.5
	b := bus.New()
	var want []bus.Sent
	for i := range 40 {
		send(t, b, i%3, "181#01")
		want = append(want, bus.Sent{Node: i % 3, Frame: read(t, "181#01"), Number: int64(i)})
	}
	waits(t, b, 40, want...)
	next(t, b, want...)
	waits(t, b, 40)
}

// Frames of one identifier go by when they were sent, whatever they carry; those that ask go behind all others.
func TestOneIdentifier(t *testing.T) { // P4.5
	b := bus.New()
	send(t, b, 3, "181#R8", "181#FF", "181#R0", "181#", "181#R8", "181#0102", "181#01", "181#FF")
	var got []string
	for s, ok := b.Next(); ok; s, ok = b.Next() {
		text, _ := frame.Write(s.Frame)
		got = append(got, text)
	}
	want := []string{"181#FF", "181#", "181#0102", "181#01", "181#FF", "181#R8", "181#R0", "181#R8"}
	if !slices.Equal(got, want) {
		t.Errorf("%v, want %v", got, want)
	}
}

func TestLesserIdentifierOvertakes(t *testing.T) { // P4.5
	b := bus.New()
	for id := 0x7FF; id >= 0x7FF-300; id-- {
		if errno := b.Send(1, api.Frame{ID: uint16(id)}); errno != api.OK {
			t.Fatalf("Send: %d", errno)
		}
	}
	for range 100 {
		b.Next()
	}
	send(t, b, 2, "001#R1", "000#R0")
	for _, id := range []uint16{0, 1, 0x7FF - 200} {
		if s, ok := b.Next(); !ok || s.Frame.ID != id {
			t.Errorf("Next: %v, %t, want the identifier %X", s, ok, id)
		}
	}
}

func TestChapterExamples(t *testing.T) { // the section 'Examples'
	b := bus.New()
	send(t, b, 1, "181#01")
	send(t, b, 2, "080#")
	send(t, b, 1, "181#02")
	next(t, b,
		bus.Sent{Node: 2, Frame: read(t, "080#"), Number: 1},
		bus.Sent{Node: 1, Frame: read(t, "181#01"), Number: 0},
		bus.Sent{Node: 1, Frame: read(t, "181#02"), Number: 2})

	b = bus.New()
	send(t, b, 1, "181#R0")
	send(t, b, 3, "181#05")
	if s, ok := b.Next(); !ok || s != (bus.Sent{Node: 3, Frame: read(t, "181#05"), Number: 1}) {
		t.Errorf("Next: %v, %t", s, ok)
	}
	if n, count := b.Gone(1), b.Count(); n != 1 || count != 2 {
		t.Errorf("Gone(1), Count: %d, %d", n, count)
	}

	b = bus.New()
	if errno := b.Send(-1, read(t, "181#01")); errno != api.ErrArg {
		t.Errorf("Send(-1, 181#01): %d", errno)
	}
	if errno := b.Send(1, api.Frame{ID: 0x800}); errno != api.ErrFrame {
		t.Errorf("Send(1, ID 800): %d", errno)
	}
}
