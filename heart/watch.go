package heart

import "campanile/api"

// The kinds of events.
const (
	Came uint8 = iota + 1
	Changed
	Booted
	Gone
)

// Event is what became of a node.
type Event struct {
	Node  uint8
	Kind  uint8
	State uint8
}

// watched is what is known of a node that is watched.
type watched struct {
	within int64
	here   bool // it was heard, and is not gone
	state  uint8
	heard  int64 // these two count only while it is here
}

// late tells when it may not be silent any more.
func (n *watched) late() int64 { return n.heard + n.within }

// news tells the kind of event that a beat of a state is; 0: it is none.
func (n *watched) news(state uint8) uint8 {
	switch {
	case !n.here:
		return Came
	case state == api.Booting:
		return Booted
	case state != n.state:
		return Changed
	}
	return 0
}

// Watch watches nodes.
type Watch struct {
	nodes [api.MaxNode + 1]*watched // by their numbers; nil: it is not watched
}

// NewWatch is a watch of no nodes.
func NewWatch() *Watch { return new(Watch) }

// Set sets how long a node may be silent; 0: it is watched no more.
func (w *Watch) Set(node uint8, within int64) api.Errno {
	switch {
	case w == nil:
		return api.ErrNil
	case !isNode(node), !isTime(within):
		return api.ErrArg
	case within == 0:
		w.nodes[node] = nil
		return api.OK
	case w.nodes[node] == nil && w.count() >= api.MaxHeart:
		return api.ErrLimit
	}
	w.nodes[node] = &watched{within: within}
	return api.OK
}

// count tells how many nodes are watched.
func (w *Watch) count() int {
	count := 0
	for _, n := range w.nodes {
		if n != nil {
			count++
		}
	}
	return count
}

// Hear hears a beat.
func (w *Watch) Hear(f api.Frame, now int64) (Event, bool) {
	node, state, is := beaten(f)
	if w == nil || !is || w.nodes[node] == nil || !isTime(now) {
		return Event{}, false
	}
	n := w.nodes[node]
	kind := n.news(state)
	n.here, n.state, n.heard = true, state, now
	if kind == 0 {
		return Event{}, false
	}
	return Event{Node: node, Kind: kind, State: state}, true
}

// Tick tells which nodes are gone.
func (w *Watch) Tick(now int64) []Event {
	if !isTime(now) {
		return nil
	}
	var events []Event
	w.eachHere(func(node uint8, n *watched) {
		if now >= n.late() {
			n.here = false
			events = append(events, Event{Node: node, Kind: Gone, State: n.state})
		}
	})
	return events
}

// eachHere goes over the nodes that are here, by their numbers.
func (w *Watch) eachHere(do func(node uint8, n *watched)) {
	if w == nil {
		return
	}
	for node, n := range w.nodes {
		if n != nil && n.here {
			do(uint8(node), n)
		}
	}
}

// State tells a node's state.
func (w *Watch) State(node uint8) (uint8, bool) {
	if w == nil || !isNode(node) || w.nodes[node] == nil || !w.nodes[node].here {
		return 0, false
	}
	return w.nodes[node].state, true
}

// Due tells when a node would be gone.
func (w *Watch) Due() (int64, bool) {
	least, some := int64(0), false
	w.eachHere(func(_ uint8, n *watched) {
		if late := n.late(); !some || late < least {
			least, some = late, true
		}
	})
	return least, some
}
