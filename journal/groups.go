package journal

import (
	"slices"

	"campanile/api"
)

// group is what there is of one.
type group struct {
	there  bool
	marked bool
	bytes  []byte
}

// stays: does the next opening find it?
func (g group) stays() bool { return g.there && !g.marked }

// groups are all of them, by their numbers: a value, which is copied whole.
type groups [api.MaxGroups]group

// take makes of the groups what a record says.
func (all *groups) take(r record) {
	switch r.kind {
	case stores:
		all[r.group] = group{there: true, bytes: slices.Clone(r.bytes)}
	case marks:
		all[r.group] = group{}
	}
}

// room tells how many bytes of the flash those that stay take.
func (all groups) room() int {
	sum := 0
	for _, g := range all {
		if g.stays() {
			sum += room(len(g.bytes))
		}
	}
	return sum
}
