package assign

import "campanile/api"

// greatestSpeed is the greatest of the speeds, which are numbered from 0 on.
const greatestSpeed = 8

func isAddress(n uint8) bool { return n >= 1 && n <= api.MaxNode || n == None }

func isSpeed(n uint8) bool { return n <= greatestSpeed }

// pair is what a node has now, and what it has next.
type pair struct{ now, next uint8 }

// renew lets what is next be now.
func (p *pair) renew() { p.now = p.next }

// Node is a node.
type Node struct {
	identity   api.Identity
	address    pair
	speed      pair
	configured bool
	wants      bool  // to be kept
	right      uint8 // how many parts of a choice were right
	place      uint8 // of a search
}

// New is a node that waits.
func New(id api.Identity, address, speed uint8) (*Node, api.Errno) {
	if !isAddress(address) || !isSpeed(speed) {
		return nil, api.ErrArg
	}
	return &Node{identity: id, address: pair{address, address}, speed: pair{speed, speed}}, api.OK
}

// Wants: does it want to be kept?
func (n *Node) Wants() bool { return n != nil && n.wants }

// Kept tells the answer, when it was kept, or could not be.
func (n *Node) Kept(ok bool) (api.Frame, bool) {
	if !n.Wants() {
		return api.Frame{}, false
	}
	n.wants = false
	if !ok {
		return reply(Keep, notKept)
	}
	return reply(Keep, accepted)
}

// Reset lets what is next be now.
func (n *Node) Reset() {
	if n == nil {
		return
	}
	n.address.renew()
	n.speed.renew()
	n.configured, n.wants, n.right, n.place = false, false, 0, 0
}

// Address tells its address, now and next.
func (n *Node) Address() (uint8, uint8) {
	if n == nil {
		return 0, 0
	}
	return n.address.now, n.address.next
}

// Speed tells its speed, now and next.
func (n *Node) Speed() (uint8, uint8) {
	if n == nil {
		return 0, 0
	}
	return n.speed.now, n.speed.next
}

// Configured: is it configured?
func (n *Node) Configured() bool { return n != nil && n.configured }
