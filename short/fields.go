package short

import "campanile/api"

// fields is a set of a command's fields; its kind is none of them.
type fields uint16

const (
	hasPlace fields = 1 << iota
	hasSized
	hasSize
	hasQuick
	hasData
	hasToggle
	hasLast
	hasCheck
	hasBlock
	hasSeq
	hasSum
	hasEmpty
	hasCode
)

// fieldsOf tells which fields of a command are not zero.
func fieldsOf(c Cmd) fields {
	var all fields
	add := func(f fields, isSet bool) {
		if isSet {
			all |= f
		}
	}
	add(hasPlace, c.Place != api.Place{})
	add(hasSized, c.Sized)
	add(hasSize, c.Size != 0)
	add(hasQuick, c.Quick)
	add(hasData, len(c.Data) != 0)
	add(hasToggle, c.Toggle)
	add(hasLast, c.Last)
	add(hasCheck, c.Check)
	add(hasBlock, c.Block != 0)
	add(hasSeq, c.Seq != 0)
	add(hasSum, c.Sum != 0)
	add(hasEmpty, c.Empty != 0)
	add(hasCode, c.Code != 0)
	return all
}

// only gives a command up, unless all of it but these fields is zero.
func only(c Cmd, has fields) { must(fieldsOf(c)&^has == 0) }

// must gives a command up that may not be; bytesOf recovers.
func must(right bool) {
	if !right {
		panic(api.ErrArg)
	}
}
