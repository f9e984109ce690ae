package journal

import (
	"bytes"
	"iter"

	"campanile/api"
	"campanile/crc"
)

// Kinds of records.
const (
	begins byte = iota + 1 // stands first in a half that counts; its byte is the half's number
	stores                 // a group, with its bytes
	marks                  // a group that the next opening does not find
)

// A record is its head (kind, group, how many bytes, a check), the bytes, filled up to a whole word, and the seal. Words are written in that order: one whose power went has no seal, and does not count.
const (
	headSize = 8
	seal     = "kept"
	around   = headSize + len(seal)
)

type record struct {
	kind  byte
	group uint8
	bytes []byte
}

// room tells how many bytes of the flash a record with n bytes takes.
func room(n int) int {
	return (around + n + api.WordSize - 1) / api.WordSize * api.WordSize
}

// encoded tells a record as it stands in the flash.
func (r record) encoded() []byte {
	n := len(r.bytes)
	b := make([]byte, room(n))
	b[0], b[1], b[2], b[3] = r.kind, r.group, byte(n), byte(n>>8)
	sum := crc.Add(crc.Add(0, b[:4]), r.bytes) // by Add alone: it meets no variable that is assigned while the program runs
	b[4], b[5] = byte(sum), byte(sum>>8)
	copy(b[headSize:], r.bytes)
	copy(b[len(b)-len(seal):], seal)
	return b
}

// records tells those that stand one behind the other, up to the first place where there is no whole one. Their bytes are a piece of b.
func records(b []byte) iter.Seq[record] {
	return func(yield func(record) bool) {
		for at := 0; ; {
			r, ok := decoded(b[at:])
			if !ok || !yield(r) {
				return
			}
			at += room(len(r.bytes))
		}
	}
}

// decoded tells the record that bytes begin with, if there is a whole one: it must stand there just as it would be written.
func decoded(b []byte) (record, bool) {
	if len(b) < around {
		return record{}, false
	}
	n := int(b[2]) | int(b[3])<<8
	if b[1] >= api.MaxGroups || n > api.MaxValue || room(n) > len(b) {
		return record{}, false
	}
	r := record{kind: b[0], group: b[1], bytes: b[headSize : headSize+n]}
	return r, bytes.Equal(r.encoded(), b[:room(n)])
}
