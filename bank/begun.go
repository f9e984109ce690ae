package bank

import "campanile/api"

// begun is a program that is put: whole words stand in its bank already, the bytes behind them, less than a word, in an array.
type begun struct {
	size  int // 0: nothing is begun
	check uint16
	words int // how many stand in the bank
	tail  [api.WordSize]byte
	end   int // where the bytes in the array end
}

func (g begun) is() bool { return g.size > 0 }

// left tells how many bytes are to be put yet.
func (g begun) left() int { return g.size - g.words*api.WordSize - g.end }

// put takes bytes, and writes each word that is whole then.
func (g *begun) put(to bank, b []byte) api.Errno {
	for _, x := range b {
		g.tail[g.end] = x
		g.end++
		if g.end < len(g.tail) {
			continue
		}
		if errno := to.write(g.words, g.tail); errno != api.OK {
			return errno
		}
		g.words, g.end = g.words+1, 0
	}
	return api.OK
}

// whole tells the program, if it stands in its bank as it was begun: the bytes are read again, so that none runs but by what stands there.
func (g begun) whole(in bank) ([]byte, api.Errno) {
	if g.left() > 0 {
		return nil, api.ErrImage
	}
	if errno := g.fillUp(in); errno != api.OK {
		return nil, errno
	}
	program, ok := in.program(g.size, g.check)
	if !ok {
		return nil, api.ErrImage
	}
	return program, api.OK
}

// fillUp writes the bytes that are no whole word, with such behind them as an erasing leaves.
func (g begun) fillUp(to bank) api.Errno {
	if g.end == 0 {
		return api.OK
	}
	for i := g.end; i < len(g.tail); i++ {
		g.tail[i] = 255
	}
	return to.write(g.words, g.tail)
}
