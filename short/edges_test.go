package short_test

import (
	"math"
	"testing"

	"campanile/api"
	"campanile/short"
)

var seven = []byte{0x11, 0x22, 0x33, 0x44, 0x55, 0x66, 0x77}

// some tells so many bytes, none of them 0.
func some(n int) []byte {
	b := make([]byte, n)
	for i := range b {
		b[i] = byte(i%255) + 1
	}
	return b
}

func TestQuickAndSized(t *testing.T) { // P9.1 to P9.4
	for _, s := range sides() {
		kind, first := s.begins, s.first
		for n := 0; n <= 300; n++ {
			c := short.Cmd{Kind: kind, Place: at(0x1234, 0x56), Quick: true, Sized: true, Data: some(n)}
			if n < 1 || n > 4 {
				refused(t, s, c)
				continue
			}
			b := [8]byte{first + 3 + byte(4*(4-n)), 0x34, 0x12, 0x56}
			copy(b[4:], c.Data)
			told(t, s, pair{c, b})
			for i := 4 + n; i < 8; i++ {
				wrong := b
				wrong[i] = 1
				unread(t, s, wrong)
			}
		}
	}
}

func TestQuickNotSized(t *testing.T) { // P9.1 to P9.4
	for _, s := range sides() {
		kind, first := s.begins, s.first
		for n := 0; n <= 300; n++ {
			c := short.Cmd{Kind: kind, Place: at(0x1234, 0x56), Quick: true, Data: some(n)}
			if n != 4 {
				refused(t, s, c)
				continue
			}
			told(t, s, pair{c, [8]byte{first + 2, 0x34, 0x12, 0x56, 1, 2, 3, 4}})
		}
		for _, more := range []byte{4, 8, 12} {
			unread(t, s, [8]byte{first + 2 + more, 0x34, 0x12, 0x56, 1, 2, 3, 4})
			unread(t, s, [8]byte{first + 2 + more, 0x34, 0x12, 0x56})
		}
	}
}

// A quick one has no size, and one that is not quick has no data; a size stands only where it is told.
func TestSizeOrData(t *testing.T) { // P9.1 to P9.4
	for _, s := range sides() {
		kind, first := s.begins, s.first
		p := at(0x1234, 0x56)
		refused(t, s, short.Cmd{Kind: kind, Place: p, Quick: true, Sized: true, Size: 4, Data: some(4)})
		refused(t, s, short.Cmd{Kind: kind, Place: p, Quick: true, Sized: true, Size: 1, Data: some(1)})
		refused(t, s, short.Cmd{Kind: kind, Place: p, Quick: true, Size: 4, Data: some(4)})
		refused(t, s, short.Cmd{Kind: kind, Place: p, Size: 1})
		refused(t, s, short.Cmd{Kind: kind, Place: p, Size: math.MaxUint32})
		for n := 1; n <= 8; n++ {
			refused(t, s, short.Cmd{Kind: kind, Place: p, Data: some(n)})
			refused(t, s, short.Cmd{Kind: kind, Place: p, Sized: true, Size: uint32(n), Data: some(n)})
		}
		for _, size := range []uint32{0, 1, 4, 5, 255, 256, 4096, 4097, 1 << 16, 1 << 24, 1 << 31, math.MaxUint32} {
			b := [8]byte{first + 1, 0x34, 0x12, 0x56, byte(size), byte(size >> 8), byte(size >> 16), byte(size >> 24)}
			told(t, s, pair{short.Cmd{Kind: kind, Place: p, Sized: true, Size: size}, b})
			b[0] = first
			if size > 0 {
				unread(t, s, b)
			}
		}
		for _, more := range []byte{4, 8, 12} {
			unread(t, s, [8]byte{first + more, 0x34, 0x12, 0x56})
			unread(t, s, [8]byte{first + 1 + more, 0x34, 0x12, 0x56, 9})
		}
	}
}

func TestSizesOfBlocks(t *testing.T) { // P9.1 to P9.4
	for _, s := range sides() {
		p := at(0x1234, 0x56)
		for i, check := range []bool{false, true} {
			first := 0xC0 + byte(4*i)
			told(t, s, pair{short.Cmd{Kind: s.sized, Place: p, Check: check}, [8]byte{first, 0x34, 0x12, 0x56}})
			refused(t, s, short.Cmd{Kind: s.sized, Place: p, Check: check, Size: 1})
			for _, size := range []uint32{0, 1, 255, 256, 4096, 4097, 1 << 16, 1 << 24, math.MaxUint32} {
				b := [8]byte{first + 2, 0x34, 0x12, 0x56, byte(size), byte(size >> 8), byte(size >> 16), byte(size >> 24)}
				told(t, s, pair{short.Cmd{Kind: s.sized, Place: p, Check: check, Sized: true, Size: size}, b})
				b[0] = first
				if size > 0 {
					unread(t, s, b)
				}
			}
		}
	}
}

func TestParts(t *testing.T) { // P9.1 to P9.4
	for _, s := range sides() {
		for n := 0; n <= 300; n++ {
			for flags := range 4 {
				c := short.Cmd{Kind: s.carries, Toggle: flags&1 != 0, Last: flags&2 != 0, Data: some(n)}
				if n > 7 || n < 7 && !c.Last {
					refused(t, s, c)
					continue
				}
				b := [8]byte{byte(2 * (7 - n))}
				if c.Toggle {
					b[0] += 0x10
				}
				if c.Last {
					b[0]++
				}
				copy(b[1:], c.Data)
				told(t, s, pair{c, b})
				for i := 1 + n; i < 8; i++ {
					wrong := b
					wrong[i] = 0x80
					unread(t, s, wrong)
				}
				if n < 7 { // the same, not Last
					b[0]--
					unread(t, s, b)
				}
			}
		}
	}
}

// The side's other kind of a part carries no data, and is not Last.
func TestPartsThatCarryNothing(t *testing.T) { // P9.1, P9.3
	for _, s := range sides() {
		for _, toggle := range []bool{false, true} {
			for n := 1; n <= 8; n++ {
				refused(t, s, short.Cmd{Kind: s.toggles, Toggle: toggle, Data: some(n)})
			}
			refused(t, s, short.Cmd{Kind: s.toggles, Toggle: toggle, Last: true})
		}
	}
}

var wrongNumbers = []int{-1, -2, -127, -128, -255, -256, 128, 129, 255, 256, 257, 256 + 127, 1 << 16, 1 << 32, 1<<32 + 1, math.MaxInt, math.MinInt, math.MinInt + 1, math.MaxInt - 1}

func TestBlock(t *testing.T) { // P9.1 to P9.4
	for _, s := range sides() {
		kind := s.counted
		for n := 1; n <= 127; n++ {
			told(t, s, pair{short.Cmd{Kind: kind, Place: at(0x1234, 0x56), Block: n}, [8]byte{0xA0, 0x34, 0x12, 0x56, byte(n)}})
			told(t, s, pair{short.Cmd{Kind: kind, Place: at(0x1234, 0x56), Check: true, Block: n}, [8]byte{0xA4, 0x34, 0x12, 0x56, byte(n)}})
			told(t, s, pair{short.Cmd{Kind: short.Ack, Seq: 3, Block: n}, [8]byte{0xA2, 3, byte(n)}})
		}
		for _, n := range append([]int{0}, wrongNumbers...) {
			refused(t, s, short.Cmd{Kind: kind, Place: at(0x1234, 0x56), Block: n})
			refused(t, s, short.Cmd{Kind: kind, Check: true, Block: n})
			refused(t, s, short.Cmd{Kind: short.Ack, Seq: 3, Block: n})
		}
		for n := 127; n <= 256; n++ {
			if wrong := byte(n); wrong != 127 { // 128 to 255, and 0
				unread(t, s, [8]byte{0xA0, 0x34, 0x12, 0x56, wrong})
				unread(t, s, [8]byte{0xA4, 0x34, 0x12, 0x56, wrong})
				unread(t, s, [8]byte{0xA2, 3, wrong})
			}
		}
	}
}

func TestSeq(t *testing.T) { // P9.1 to P9.4
	for _, s := range sides() {
		for n := 0; n <= 127; n++ {
			told(t, s, pair{short.Cmd{Kind: short.Ack, Seq: n, Block: 8}, [8]byte{0xA2, byte(n), 8}})
		}
		for n := 128; n <= 255; n++ {
			unread(t, s, [8]byte{0xA2, byte(n), 8})
		}
		for _, n := range wrongNumbers {
			refused(t, s, short.Cmd{Kind: short.Ack, Seq: n, Block: 8})
		}
	}
}

func TestEmpty(t *testing.T) { // P9.1 to P9.4
	for _, s := range sides() {
		kind := s.ended
		for n := 0; n <= 7; n++ {
			for _, sum := range []uint16{0, 1, 0xFF, 0x100, 0x31C3, 0xFFFF} {
				told(t, s, pair{short.Cmd{Kind: kind, Empty: n, Sum: sum}, [8]byte{0xC1 + byte(4*n), byte(sum), byte(sum >> 8)}})
			}
		}
		for _, n := range append([]int{8, 9, 15, 16, 56, 64, 63, 127}, wrongNumbers...) {
			refused(t, s, short.Cmd{Kind: kind, Empty: n})
			refused(t, s, short.Cmd{Kind: kind, Empty: n, Sum: 7})
		}
		for n := 8; n < 16; n++ {
			unread(t, s, [8]byte{0xC1 + byte(4*n)})
		}
	}
}

func TestKindsThatAreNone(t *testing.T) { // P9.1, P9.3
	none := []uint8{0}
	for kind := 12; kind < 256; kind++ {
		none = append(none, uint8(kind))
	}
	for _, s := range sides() {
		for _, kind := range none {
			for _, x := range append(client().all, server().all...) {
				c := x.c
				c.Kind = kind
				refused(t, s, c)
			}
			refused(t, s, short.Cmd{Kind: kind})
		}
	}
}

// What each side has, and the other has not or has otherwise.
func TestKindsOfOneSide(t *testing.T) { // P9.1 to P9.4
	told(t, client(), pair{short.Cmd{Kind: short.GetStart}, [8]byte{0xA3}})
	refused(t, server(), short.Cmd{Kind: short.GetStart})
	unread(t, server(), [8]byte{0xA3})
	for _, x := range []struct {
		s side
		c short.Cmd
	}{
		{server(), short.Cmd{Kind: short.Write, Place: at(1, 2), Quick: true, Sized: true, Data: some(2)}},
		{server(), short.Cmd{Kind: short.Write, Place: at(1, 2), Sized: true, Size: 9}},
		{server(), short.Cmd{Kind: short.Part, Last: true, Data: some(2)}},
		{server(), short.Cmd{Kind: short.Part, Data: seven}},
		{client(), short.Cmd{Kind: short.Read, Place: at(1, 2), Quick: true, Sized: true, Data: some(2)}},
		{client(), short.Cmd{Kind: short.Read, Place: at(1, 2), Sized: true, Size: 9}},
		{client(), short.Cmd{Kind: short.More, Data: seven}},
		{server(), short.Cmd{Kind: short.Put, Place: at(1, 2), Check: true, Sized: true, Size: 9}},
		{server(), short.Cmd{Kind: short.Put, Place: at(1, 2)}},
		{client(), short.Cmd{Kind: short.Put, Place: at(1, 2), Block: 9}},
		{client(), short.Cmd{Kind: short.Get, Place: at(1, 2)}},
		{client(), short.Cmd{Kind: short.Get, Place: at(1, 2), Sized: true, Size: 9}},
		{server(), short.Cmd{Kind: short.Get, Place: at(1, 2), Block: 9}},
		{server(), short.Cmd{Kind: short.PutEnd, Empty: 3, Sum: 4}},
		{client(), short.Cmd{Kind: short.GetEnd, Empty: 3, Sum: 4}},
	} {
		refused(t, x.s, x.c)
	}
}

// Nil and empty data mean the same.
func TestNilAndEmptyData(t *testing.T) { // P9.1, P9.3
	for _, s := range sides() {
		for _, x := range s.all {
			if len(x.c.Data) > 0 {
				continue
			}
			for _, none := range [][]byte{nil, {}, seven[:0]} {
				x.c.Data = none
				told(t, s, x)
			}
		}
	}
}

// The greatest place and the least one.
func TestPlaces(t *testing.T) { // P9.1 to P9.4
	for _, p := range []api.Place{at(0, 0), at(0, 1), at(1, 0), at(0x100, 0), at(0xFF, 0xFF), at(0xFFFF, 0xFF), at(0xFFFF, 0), at(0, 0xFF)} {
		b := [8]byte{0, byte(p.Index), byte(p.Index >> 8), p.Sub}
		b[0] = 0x40
		told(t, client(), pair{short.Cmd{Kind: short.Read, Place: p}, b})
		told(t, server(), pair{short.Cmd{Kind: short.Read, Place: p}, b})
		b[0] = 0x60
		told(t, server(), pair{short.Cmd{Kind: short.Write, Place: p}, b})
		b[0] = 0x20
		told(t, client(), pair{short.Cmd{Kind: short.Write, Place: p}, b})
	}
}
