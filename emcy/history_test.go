package emcy_test

import (
	"slices"
	"testing"

	"campanile/api"
)

func TestRegister(t *testing.T) { // P16.3
	x := errorsOf(t, 5, 0)
	registers(t, x, 0)
	raises(t, x, 0x1000, 0, none, api.OK)
	registers(t, x, 1)
	raises(t, x, 0x1001, 0, none, api.OK)
	registers(t, x, 1)
	clears(t, x, 0x1000, api.OK)
	registers(t, x, 1) // of two with one bit one stands still
	clears(t, x, 0x1001, api.OK)
	registers(t, x, 0)
	raises(t, x, 0x1002, 7, none, api.OK)
	registers(t, x, 0x81)
	raises(t, x, 0x1003, 4, none, api.OK)
	raises(t, x, 0x1004, 4, none, api.OK)
	registers(t, x, 0x91)
	clears(t, x, 0x1003, api.OK)
	registers(t, x, 0x91)
	clears(t, x, 0x1002, api.OK)
	registers(t, x, 0x11)
	clears(t, x, 0x1004, api.OK)
	registers(t, x, 0)
}

// Any bits together, each of one error or of two.
func TestRegisterOfAllBits(t *testing.T) { // P16.3
	for bits := range 256 {
		x := errorsOf(t, 5, 0)
		for twice := range uint16(2) {
			for bit := range uint8(8) {
				if bits>>bit&1 == 1 {
					raises(t, x, 0x100*twice+1+uint16(bit), bit, none, api.OK)
				}
			}
			want := uint8(bits)
			if bits != 0 {
				want |= 1
			}
			registers(t, x, want)
			quiet(t, x)
		}
		for bit := range uint8(8) { // of each bit one is cleared, the other stays
			before := x.Register()
			if bits>>bit&1 == 1 {
				clears(t, x, 1+uint16(bit), api.OK)
			}
			registers(t, x, before)
		}
	}
}

func TestStands(t *testing.T) { // P16.3
	x := errorsOf(t, 5, 0)
	raises(t, x, 1, 0, none, api.OK)
	raises(t, x, 65535, 7, none, api.OK)
	raises(t, x, 0x8130, 4, none, api.OK)
	clears(t, x, 0x8130, api.OK)
	for code := range 65536 {
		stands(t, x, uint16(code), code == 1 || code == 65535)
	}
	quiet(t, x)
	x.Forget()
	stands(t, x, 1, true)
	clears(t, x, 1, api.OK)
	stands(t, x, 1, false)
	stands(t, x, 65535, true)
	stands(t, x, 0, false)
	raises(t, x, 0x8130, 4, none, api.OK)
	stands(t, x, 0x8130, true)
}

// A field's lower bytes are the code, the others the first two that came with it.
func TestField(t *testing.T) { // P16.3
	x := errorsOf(t, 5, 0)
	var want []uint32
	for _, c := range []struct {
		code  uint16
		info  [5]byte
		field uint32
	}{
		{0x1234, none, 0x00001234},
		{0x0001, [5]byte{1}, 0x00010001},
		{0xFF00, [5]byte{0, 1}, 0x0100FF00},
		{0xFFFF, [5]byte{255, 255, 255, 255, 255}, 0xFFFFFFFF},
		{0x00FF, [5]byte{0x80, 0x7F, 0x11, 0x22, 0x33}, 0x7F8000FF},
		{0x8000, [5]byte{0, 0, 1, 2, 3}, 0x00008000},
		{0x0100, [5]byte{0, 0x80}, 0x80000100},
	} {
		raises(t, x, c.code, 1, c.info, api.OK)
		want = append([]uint32{c.field}, want...)
		histories(t, x, want...)
	}
}

// Sixteen fields are kept; behind these the oldest goes.
func TestHistory(t *testing.T) { // P16.2, P16.3
	x := errorsOf(t, 5, 0)
	histories(t, x)
	var want []uint32
	for i := range 50 {
		code := uint16(0x1000 + i)
		raises(t, x, code, 1, [5]byte{byte(i), 1}, api.OK)
		want = append([]uint32{1<<24 | uint32(i)<<16 | uint32(code)}, want...)
		want = want[:min(i+1, 16)]
		histories(t, x, want...)
		clears(t, x, code, api.OK)
		histories(t, x, want...) // cleared, it stays
		quiet(t, x)
		histories(t, x, want...) // as what is told does
	}
}

// The 17th goes, though all that stand are in the history.
func TestHistoryAndStanding(t *testing.T) { // P16.3
	x := standing(t, 16)
	h := x.History()
	if len(h) != 16 || h[0] != 0x800F || h[15] != 0x8000 {
		t.Errorf("History: %x", h)
	}
	clears(t, x, 0x8007, api.OK)
	raises(t, x, 0x9000, 1, none, api.OK)
	histories(t, x, append([]uint32{0x9000}, h[:15]...)...)
	stands(t, x, 0x8000, true) // it stands, though the history has it no more
}

// What was raised again is there twice.
func TestHistoryOfOneAgain(t *testing.T) { // P16.3
	x := errorsOf(t, 5, 0)
	raises(t, x, 0x1000, 1, [5]byte{1}, api.OK)
	raises(t, x, 0x2000, 1, none, api.OK)
	clears(t, x, 0x1000, api.OK)
	raises(t, x, 0x1000, 1, [5]byte{2}, api.OK)
	histories(t, x, 0x00021000, 0x00002000, 0x00011000)
	raises(t, x, 0x1000, 1, [5]byte{3}, api.ErrTwice)
	histories(t, x, 0x00021000, 0x00002000, 0x00011000)
}

// What is told is the caller's.
func TestHistoryIsTheCallers(t *testing.T) { // P16.3
	for _, n := range []int{1, 2, 15, 16} {
		x := standing(t, n)
		h, other := x.History(), x.History()
		want := slices.Clone(h)
		for i := range h {
			h[i] = 7
		}
		_ = append(h, 8)
		histories(t, x, want...)
		if !slices.Equal(other, want) {
			t.Errorf("two answers share memory: %x", other)
		}
		if n < 16 {
			raises(t, x, 0x1000, 1, none, api.OK)
		} else {
			x.Forget()
		}
		if !slices.Equal(other, want) {
			t.Errorf("an answer changes later: %x", other)
		}
	}
	x := errorsOf(t, 5, 0)
	_ = append(x.History(), 9)
	histories(t, x)
	raises(t, x, 0x1000, 1, none, api.OK)
	histories(t, x, 0x1000)
}

// Forget takes nothing but the history.
func TestForget(t *testing.T) { // P16.3
	x := errorsOf(t, 5, 10)
	x.Forget()
	histories(t, x)
	raises(t, x, 0x1000, 1, none, api.OK)
	raises(t, x, 0x2000, 2, none, api.OK)
	ticks(t, x, 5, "085#0010030000000000")
	x.Forget()
	histories(t, x)
	registers(t, x, 7)
	stands(t, x, 0x1000, true)
	stands(t, x, 0x2000, true)
	raises(t, x, 0x1000, 1, none, api.ErrTwice)
	due(t, x, 15)
	ticks(t, x, 14, "")
	ticks(t, x, 15, "085#0020070000000000")
	raises(t, x, 0x3000, 3, [5]byte{1, 2}, api.OK)
	histories(t, x, 0x02013000)
	x.Forget()
	x.Forget()
	histories(t, x)
}

func TestForgetFull(t *testing.T) { // P16.3
	x := full(t)
	x.Forget()
	histories(t, x)
	raises(t, x, 0x1000, 1, none, api.ErrLimit) // those that stand, and the frames, are there still
	histories(t, x)
	if l := drained(t, x); len(l) != 16 {
		t.Errorf("%d frames waited", len(l))
	}
	clears(t, x, 0x8000, api.OK)
	raises(t, x, 0x1000, 1, none, api.OK)
	histories(t, x, 0x1000)
}

// Reset takes all but the history.
func TestReset(t *testing.T) { // P16.3
	x := errorsOf(t, 5, 10)
	x.Reset()
	neverDue(t, x)
	raises(t, x, 0x1000, 1, none, api.OK)
	raises(t, x, 0x2000, 2, [5]byte{1, 2}, api.OK)
	ticks(t, x, 100, "085#0010030000000000")
	x.Reset()
	registers(t, x, 0)
	stands(t, x, 0x1000, false)
	stands(t, x, 0x2000, false)
	clears(t, x, 0x1000, api.ErrNone)
	neverDue(t, x)
	for _, now := range []int64{0, 100, 110, api.MaxTime} {
		ticks(t, x, now, "")
	}
	histories(t, x, 0x02012000, 0x00001000)
	raises(t, x, 0x1000, 6, none, api.OK)
	histories(t, x, 0x00001000, 0x02012000, 0x00001000)
	due(t, x, 0)                           // none was told
	ticks(t, x, 0, "085#0010410000000000") // at once, even ahead of what was told then
	raises(t, x, 0x2000, 2, none, api.OK)  // inhibited again
	due(t, x, 10)
	ticks(t, x, 9, "")
	ticks(t, x, 10, "085#0020450000000000")
}

func TestResetFull(t *testing.T) { // P16.3
	x := full(t)
	h := x.History()
	x.Reset()
	x.Reset()
	histories(t, x, h...)
	registers(t, x, 0)
	neverDue(t, x)
	for i := range 16 { // there is room for as many again
		raises(t, x, uint16(0x8000+i), 0, none, api.OK)
	}
	registers(t, x, 1)
	raises(t, x, 0x1000, 1, none, api.ErrLimit)
	l := drained(t, x)
	if len(l) != 16 || l[0] != "085#0080010000000000" || l[15] != "085#0F80010000000000" {
		t.Errorf("frames waited: %q", l)
	}
}
