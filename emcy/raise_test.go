package emcy_test

import (
	"fmt"
	"testing"

	"campanile/api"
	"campanile/emcy"
)

// standing tells errors of node 5, without inhibit, with n that stand (8000 and on, bit 4 each), of which none waits to be told.
func standing(t *testing.T, n int) *emcy.Errors {
	t.Helper()
	x := errorsOf(t, 5, 0)
	for i := range n {
		raises(t, x, uint16(0x8000+i), 4, none, api.OK)
	}
	quiet(t, x)
	return x
}

// crowded tells errors of node 5, without inhibit, of which 16 frames wait, and n (at most 15) stand: 8000 and on.
func crowded(t *testing.T, n int) *emcy.Errors {
	t.Helper()
	x := standing(t, n)
	for range api.MaxErrors / 2 {
		raises(t, x, 0x7000, 2, none, api.OK)
		clears(t, x, 0x7000, api.OK)
	}
	return x
}

// full tells errors of node 5 of which 16 stand and 16 frames wait.
func full(t *testing.T) *emcy.Errors {
	t.Helper()
	x := errorsOf(t, 5, 0)
	for i := range api.MaxErrors {
		raises(t, x, uint16(0x8000+i), 4, none, api.OK)
	}
	return x
}

// told tells errors of node 5 with an inhibit of 10, of which one was told at 7, and one waits.
func told(t *testing.T) *emcy.Errors {
	t.Helper()
	x := errorsOf(t, 5, 10)
	raises(t, x, 0x8000, 0, none, api.OK)
	raises(t, x, 0x8001, 0, none, api.OK)
	ticks(t, x, 7, "085#0080010000000000")
	return x
}

// Any code but 0 may be raised, each with any bit of the register and any bytes.
func TestRaise(t *testing.T) { // P16.2
	info := [5]byte{0xAB, 0, 0xFF, 0x12, 0x34}
	for _, code := range []uint16{1, 2, 0xFF, 0x100, 0x1000, 0x4201, 0x8000, 0xFF00, 65534, 65535} {
		for bit := range uint8(8) {
			x := errorsOf(t, 5, 0)
			raises(t, x, code, bit, info, api.OK)
			register := uint8(1) | 1<<bit
			registers(t, x, register)
			stands(t, x, code, true)
			stands(t, x, code-1, false)
			stands(t, x, code+1, false)
			histories(t, x, 0x00AB0000|uint32(code))
			due(t, x, 0)
			tells(t, x, fmt.Sprintf("085#%02X%02X%02XAB00FF1234", code%256, code/256, register))
		}
	}
}

// A frame has its node's ID.
func TestRaiseOfNodes(t *testing.T) { // P16.2
	for address := 1; address <= 127; address++ {
		x := errorsOf(t, uint8(address), 0)
		raises(t, x, 0x1234, 6, [5]byte{1, 2, 3, 4, 5}, api.OK)
		clears(t, x, 0x1234, api.OK)
		tells(t, x, fmt.Sprintf("%03X#3412410102030405", 0x80+address), fmt.Sprintf("%03X#0000000000000000", 0x80+address))
	}
}

func TestRaiseNoError(t *testing.T) { // P16.2
	for bit := range 256 {
		for _, code := range []uint16{0, 1, 65535} {
			want := api.OK
			if code == 0 || bit > 7 {
				want = api.ErrArg
			}
			x := errorsOf(t, 5, 10)
			raises(t, x, code, uint8(bit), [5]byte{1, 2, 3, 4, 5}, want)
			stands(t, x, code, want == api.OK)
			if want == api.ErrArg {
				registers(t, x, 0)
				histories(t, x)
				neverDue(t, x)
			}
		}
	}
}

// What stands is not raised again, with whatever bit and bytes; behind Clear it is.
func TestRaiseTwice(t *testing.T) { // P16.2
	x := errorsOf(t, 5, 0)
	raises(t, x, 0x1000, 1, [5]byte{1, 2, 3, 4, 5}, api.OK)
	raises(t, x, 0x1000, 1, [5]byte{1, 2, 3, 4, 5}, api.ErrTwice)
	raises(t, x, 0x1000, 6, none, api.ErrTwice)
	registers(t, x, 3)
	histories(t, x, 0x02011000)
	tells(t, x, "085#0010030102030405")
	raises(t, x, 0x1000, 6, none, api.ErrTwice) // told, it stands still
	clears(t, x, 0x1000, api.OK)
	raises(t, x, 0x1000, 6, none, api.OK)
	registers(t, x, 0x41)
	tells(t, x, "085#0000000000000000", "085#0010410000000000")
}

// Sixteen errors may stand.
func TestRaiseTooMany(t *testing.T) { // P16.2
	x := standing(t, 15)
	raises(t, x, 0x1000, 0, none, api.OK)
	quiet(t, x)
	for _, bit := range []uint8{0, 4, 7} {
		raises(t, x, 0x1001, bit, none, api.ErrLimit)
	}
	stands(t, x, 0x1001, false)
	registers(t, x, 0x11)
	neverDue(t, x)
	clears(t, x, 0x8003, api.OK)
	raises(t, x, 0x1001, 7, none, api.OK)
	registers(t, x, 0x91)
	raises(t, x, 0x1002, 7, none, api.ErrLimit)
	tells(t, x, "085#0000110000000000", "085#0110910000000000")
}

// Sixteen frames may wait, whatever stands.
func TestRaiseTooManyWait(t *testing.T) { // P16.2
	for _, n := range []int{0, 1, 7, 15} {
		x := crowded(t, n)
		raises(t, x, 0x1001, 7, none, api.ErrLimit)
		stands(t, x, 0x1001, false)
		if _, ok := x.Tick(0); !ok {
			t.Error("Tick(0): nothing")
		}
		raises(t, x, 0x1001, 7, none, api.OK)
		stands(t, x, 0x1001, true)
		raises(t, x, 0x1002, 7, none, api.ErrLimit)
		if l := drained(t, x); len(l) != 16 {
			t.Errorf("%d frames waited", len(l))
		}
	}
}

// Of several errors that there are the one that the chapter names first is told.
func TestRaiseOrder(t *testing.T) { // P16.2
	for name, x := range map[string]*emcy.Errors{"standing": standing(t, 16), "crowded": crowded(t, 15), "full": full(t)} {
		t.Run(name, func(t *testing.T) {
			raises(t, x, 0, 0, none, api.ErrArg) // ahead of ErrLimit
			raises(t, x, 0, 8, none, api.ErrArg)
			raises(t, x, 0x1000, 8, none, api.ErrArg)
			raises(t, x, 0x8000, 8, none, api.ErrArg)   // ahead of ErrTwice, too
			raises(t, x, 0x8000, 4, none, api.ErrTwice) // ahead of ErrLimit
			raises(t, x, 0x800E, 0, none, api.ErrTwice)
			raises(t, x, 0x1000, 7, none, api.ErrLimit)
		})
	}
	x := standing(t, 1)
	raises(t, x, 0x8000, 255, none, api.ErrArg)
	raises(t, x, 0x8000, 7, none, api.ErrTwice)
}

func TestClear(t *testing.T) { // P16.2
	x := errorsOf(t, 5, 0)
	clears(t, x, 0x1000, api.ErrNone)
	clears(t, x, 0, api.ErrNone)
	raises(t, x, 0x1000, 3, [5]byte{1, 2, 3, 4, 5}, api.OK)
	raises(t, x, 65535, 5, none, api.OK)
	for _, code := range []uint16{0, 1, 0xFFF, 0x1001, 65534} {
		clears(t, x, code, api.ErrNone)
	}
	clears(t, x, 0x1000, api.OK)
	stands(t, x, 0x1000, false)
	stands(t, x, 65535, true)
	clears(t, x, 0x1000, api.ErrNone)
	clears(t, x, 65535, api.OK)
	clears(t, x, 65535, api.ErrNone)
	clears(t, x, 0, api.ErrNone) // frames of the code 0 wait; no such error stands
	registers(t, x, 0)
	tells(t, x, "085#0010090102030405", "085#FFFF290000000000", "085#0000210000000000", "085#0000000000000000")
	clears(t, x, 65535, api.ErrNone)
	histories(t, x, 0xFFFF, 0x02011000) // whether they stand or not
}

func TestClearTooManyWait(t *testing.T) { // P16.2
	x := crowded(t, 3)
	clears(t, x, 0x8001, api.ErrLimit)
	stands(t, x, 0x8001, true)
	registers(t, x, 0x11)
	clears(t, x, 0x7000, api.ErrNone) // ahead of ErrLimit
	clears(t, x, 0, api.ErrNone)
	if _, ok := x.Tick(0); !ok {
		t.Error("Tick(0): nothing")
	}
	clears(t, x, 0x8001, api.OK)
	stands(t, x, 0x8001, false)
	clears(t, x, 0x8001, api.ErrNone)
	clears(t, x, 0x8002, api.ErrLimit)
	if l := drained(t, x); len(l) != 16 || l[15] != "085#0000110000000000" {
		t.Errorf("frames waited: %q", l)
	}
}

// All that stand may be cleared, in any order.
func TestClearAll(t *testing.T) { // P16.2
	for _, step := range []int{1, 5, 7, 15} {
		x := standing(t, 16)
		for i := range 16 {
			registers(t, x, 0x11)
			clears(t, x, uint16(0x8000+(i+1)*step%16), api.OK)
		}
		registers(t, x, 0)
		l := drained(t, x)
		for i, s := range l {
			want := "085#0000110000000000"
			if i == 15 {
				want = "085#0000000000000000"
			}
			if s != want {
				t.Errorf("frame %d: %s, want %s", i, s, want)
			}
		}
		if len(l) != 16 {
			t.Errorf("%d frames waited", len(l))
		}
	}
}

// What is refused changes nothing, of what is shown and of what will be told.
func TestRefused(t *testing.T) { // P16.1, P16.2, P16.4
	for _, c := range []struct {
		name     string
		made     func(t *testing.T) *emcy.Errors
		noRaise  bool // nothing may be raised
		noFrames bool // no frame more may wait
	}{
		{"new", func(t *testing.T) *emcy.Errors { return errorsOf(t, 5, 0) }, false, false},
		{"some", func(t *testing.T) *emcy.Errors { return standing(t, 3) }, false, false},
		{"told", told, false, false},
		{"standing", func(t *testing.T) *emcy.Errors { return standing(t, 16) }, true, false},
		{"crowded", func(t *testing.T) *emcy.Errors { return crowded(t, 15) }, true, true},
		{"full", full, true, true},
	} {
		t.Run(c.name, func(t *testing.T) {
			x, same := c.made(t), c.made(t)
			refused := 0
			for range 20 {
				for _, code := range []uint16{0, 0x8000, 0x1000} {
					for _, bit := range []uint8{0, 8, 255} {
						if !c.noRaise && !same.Stands(code) && code != 0 && bit <= 7 {
							continue
						}
						if x.Raise(code, bit, [5]byte{9, 9, 9, 9, 9}) == api.OK {
							t.Errorf("Raise(%x, %d) is not refused", code, bit)
						}
						refused++
					}
					if !c.noFrames && same.Stands(code) {
						continue
					}
					if x.Clear(code) == api.OK {
						t.Errorf("Clear(%x) is not refused", code)
					}
					refused++
				}
				for _, now := range noTimes() {
					ticks(t, x, now, "")
				}
			}
			if refused < 180 {
				t.Errorf("only %d were refused", refused)
			}
			alike(t, x, same)
		})
	}
}
