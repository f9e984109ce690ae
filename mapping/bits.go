package mapping

import "iter"

// bytesFor tells how many bytes so many bits take.
func bytesFor(count int) int { return (count + 7) / 8 }

// bits tells n bits of a row of bytes, from one on: each with its number among them.
func bits(row []byte, from, n int) iter.Seq2[int, byte] {
	return func(yield func(int, byte) bool) {
		for i := range n {
			k := from + i
			if !yield(i, row[k/8]>>(k%8)&1) {
				return
			}
		}
	}
}

// lay puts bits into a row of bytes, from one on, where all were 0.
func lay(row []byte, from int, all iter.Seq2[int, byte]) {
	for i, bit := range all {
		k := from + i
		row[k/8] |= bit << (k % 8)
	}
}
