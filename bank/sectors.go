package bank

import (
	"iter"

	"campanile/api"
	"campanile/crc"
	"campanile/flash"
)

// words is how many of them a sector has.
const words = api.SectorSize / api.WordSize

// bank is the sectors in which one program stands.
type bank struct {
	memory  *flash.Flash
	first   int
	sectors int
}

func (b bank) room() int { return b.sectors * api.SectorSize }

// erase sets free the sectors that a program of so many bytes needs.
func (b bank) erase(size int) api.Errno {
	for at := 0; at < size; at += api.SectorSize {
		if errno := b.memory.Erase(b.first + at/api.SectorSize); errno != api.OK {
			return errno
		}
	}
	return api.OK
}

func (b bank) write(word int, w [api.WordSize]byte) api.Errno {
	return b.memory.Write(b.first+word/words, word%words, w)
}

// bytes tells the first ones that stand there, so many of them; fewer, if one can't be read.
func (b bank) bytes(size int) iter.Seq[byte] {
	return func(yield func(byte) bool) {
		for at := 0; at < size; at += api.WordSize {
			w, errno := b.memory.Word(b.first+at/api.SectorSize, at%api.SectorSize/api.WordSize)
			if errno != api.OK {
				return
			}
			for _, x := range w[:min(len(w), size-at)] {
				if !yield(x) {
					return
				}
			}
		}
	}
}

// program tells the one of that size that stands there, if there is one whose check holds.
func (b bank) program(size int, check uint16) ([]byte, bool) {
	if size < 1 || size > b.room() {
		return nil, false
	}
	program := make([]byte, 0, size)
	for x := range b.bytes(size) {
		program = append(program, x)
	}
	if len(program) != size || sum(program) != check {
		return nil, false
	}
	return program, true
}

// sum is crc.Sum of bytes, by Add: Add meets no variable that is assigned while the program runs.
func sum(b []byte) uint16 { return crc.Add(0, b) }
