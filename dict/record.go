package dict

import "campanile/api"

// headLength is how many bytes of a record stand ahead of its value: index, sub-index, the value's length.
const headLength = 5

// record is an entry's value as it is saved.
type record struct {
	place api.Place
	value []byte
}

// appendTo tells the row with the record behind it. (No value is longer than two bytes can tell.)
func (r record) appendTo(row []byte) []byte {
	length := len(r.value)
	row = append(row, byte(r.place.Index), byte(r.place.Index>>8), r.place.Sub, byte(length), byte(length>>8))
	return append(row, r.value...)
}

// recordsOf tells the records of a row, whose values are still pieces of it; false, unless it is one of whole records, their places rising.
func recordsOf(row []byte) ([]record, bool) {
	read := func() (record, bool) {
		if len(row) < headLength {
			return record{}, false
		}
		place := api.Place{Index: uint16(row[0]) | uint16(row[1])<<8, Sub: row[2]}
		end := headLength + (int(row[3]) | int(row[4])<<8)
		if len(row) < end {
			return record{}, false
		}
		r := record{place: place, value: row[headLength:end]}
		row = row[end:]
		return r, true
	}
	var all []record
	for len(row) > 0 {
		r, whole := read()
		if !whole || len(all) > 0 && comparePlaces(all[len(all)-1].place, r.place) >= 0 {
			return nil, false
		}
		all = append(all, r)
	}
	return all, true
}
