package short

import (
	"slices"

	"campanile/api"
)

// Each shape is written behind a first byte, or given up; it is read as if all were right.

const (
	quickLength = 4 // bytes of data that stand behind a place
	partLength  = 7 // bytes of data that stand behind the first byte
)

func writeBare(b [8]byte, c Cmd) [8]byte {
	only(c, 0)
	return b
}

func readBare(b [8]byte) Cmd { return Cmd{} }

func writePlace(b [8]byte, c Cmd) [8]byte {
	only(c, hasPlace)
	return withPlace(b, c.Place)
}

func readPlace(b [8]byte) Cmd { return Cmd{Place: placeIn(b)} }

func writeToggle(b [8]byte, c Cmd) [8]byte {
	only(c, hasToggle)
	b[0] |= bit(c.Toggle, 0x10)
	return b
}

func readToggle(b [8]byte) Cmd { return Cmd{Toggle: b[0]&0x10 != 0} }

func writeBegin(b [8]byte, c Cmd) [8]byte {
	if c.Quick {
		return writeQuick(b, c)
	}
	only(c, hasPlace|hasSized|hasSize)
	must(c.Sized || c.Size == 0)
	b[0] |= bit(c.Sized, 1)
	return withNumber(withPlace(b, c.Place), c.Size)
}

func writeQuick(b [8]byte, c Cmd) [8]byte {
	only(c, hasPlace|hasSized|hasQuick|hasData)
	n := len(c.Data)
	must(n == quickLength || c.Sized && n >= 1 && n < quickLength)
	b[0] |= 2 | bit(c.Sized, 1) | byte(quickLength-n)<<2
	copy(b[4:], c.Data)
	return withPlace(b, c.Place)
}

func readBegin(b [8]byte) Cmd {
	c := Cmd{Place: placeIn(b), Quick: b[0]&2 != 0, Sized: b[0]&1 != 0}
	if c.Quick {
		empty := int(b[0] >> 2 & 3)
		c.Data = slices.Clone(b[4 : 8-empty])
	} else if c.Sized {
		c.Size = numberIn(b)
	}
	return c
}

func writePart(b [8]byte, c Cmd) [8]byte {
	only(c, hasToggle|hasLast|hasData)
	n := len(c.Data)
	must(fitsPart(n, c.Last))
	b[0] |= bit(c.Toggle, 0x10) | byte(partLength-n)<<1 | bit(c.Last, 1)
	copy(b[1:], c.Data)
	return b
}

// fitsPart: may a part have so many bytes?
func fitsPart(n int, last bool) bool { return n == partLength || last && n < partLength }

func readPart(b [8]byte) Cmd {
	empty := int(b[0] >> 1 & 7)
	return Cmd{Toggle: b[0]&0x10 != 0, Last: b[0]&1 != 0, Data: slices.Clone(b[1 : 8-empty])}
}

func writeStop(b [8]byte, c Cmd) [8]byte {
	only(c, hasPlace|hasCode)
	return withNumber(withPlace(b, c.Place), uint32(c.Code))
}

func readStop(b [8]byte) Cmd { return Cmd{Place: placeIn(b), Code: api.Abort(numberIn(b))} }

func writeSize(b [8]byte, c Cmd) [8]byte {
	only(c, hasPlace|hasCheck|hasSized|hasSize)
	must(c.Sized || c.Size == 0)
	b[0] |= bit(c.Check, 4) | bit(c.Sized, 2)
	return withNumber(withPlace(b, c.Place), c.Size)
}

func readSize(b [8]byte) Cmd {
	c := Cmd{Place: placeIn(b), Check: b[0]&4 != 0, Sized: b[0]&2 != 0}
	if c.Sized {
		c.Size = numberIn(b)
	}
	return c
}

func writeEnd(b [8]byte, c Cmd) [8]byte {
	only(c, hasEmpty|hasSum)
	must(c.Empty >= 0 && c.Empty <= partLength)
	b[0] |= byte(c.Empty) << 2
	b[1], b[2] = byte(c.Sum), byte(c.Sum>>8)
	return b
}

func readEnd(b [8]byte) Cmd {
	return Cmd{Empty: int(b[0] >> 2 & 7), Sum: uint16(b[1]) | uint16(b[2])<<8}
}

func writeBlock(b [8]byte, c Cmd) [8]byte {
	only(c, hasPlace|hasCheck|hasBlock)
	must(c.Block >= 1 && c.Block <= api.MaxBlock)
	b[0] |= bit(c.Check, 4)
	b[4] = byte(c.Block)
	return withPlace(b, c.Place)
}

func readBlock(b [8]byte) Cmd {
	return Cmd{Place: placeIn(b), Check: b[0]&4 != 0, Block: int(b[4])}
}

func writeAck(b [8]byte, c Cmd) [8]byte {
	only(c, hasSeq|hasBlock)
	must(c.Seq >= 0 && c.Seq <= api.MaxBlock)
	must(c.Block >= 1 && c.Block <= api.MaxBlock)
	b[1], b[2] = byte(c.Seq), byte(c.Block)
	return b
}

func readAck(b [8]byte) Cmd { return Cmd{Seq: int(b[1]), Block: int(b[2])} }

// bit tells a bit's value, if it is on.
func bit(on bool, value byte) byte {
	if on {
		return value
	}
	return 0
}

func withPlace(b [8]byte, p api.Place) [8]byte {
	b[1], b[2], b[3] = byte(p.Index), byte(p.Index>>8), p.Sub
	return b
}

func placeIn(b [8]byte) api.Place {
	return api.Place{Index: uint16(b[1]) | uint16(b[2])<<8, Sub: b[3]}
}

// withNumber tells the bytes with a number as the last four.
func withNumber(b [8]byte, n uint32) [8]byte {
	b[4], b[5], b[6], b[7] = byte(n), byte(n>>8), byte(n>>16), byte(n>>24)
	return b
}

func numberIn(b [8]byte) uint32 {
	return uint32(b[4]) | uint32(b[5])<<8 | uint32(b[6])<<16 | uint32(b[7])<<24
}
