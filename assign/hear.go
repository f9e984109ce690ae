package assign

import "campanile/api"

// What an answer says of what it was asked to do.
const (
	accepted = 0
	refused  = 1
	notKept  = 2
)

const (
	lastPart    = 3   // of an identity
	begin       = 128 // the bits of a search that begins
	greatestBit = 31  // of an identity's part
)

// ask is a command and the bytes behind it.
type ask [api.MaxData]byte

// number tells the first number behind the command.
func (a ask) number() uint32 {
	return uint32(a[1]) | uint32(a[2])<<8 | uint32(a[3])<<16 | uint32(a[4])<<24
}

// act is what a command does: it tells what the node answers.
type act func(n *Node, a ask) (api.Frame, bool)

// Hear hears an ask: its answer.
func (n *Node) Hear(f api.Frame) (api.Frame, bool) {
	if n == nil || !isMessage(f, api.IDAssign) {
		return api.Frame{}, false
	}
	do, is := n.acts()[f.Data[0]]
	if !is {
		return api.Frame{}, false
	}
	return do(n, f.Data)
}

// acts tells what the commands do that are for the node as it is now.
func (n *Node) acts() map[uint8]act {
	if n.configured {
		return map[uint8]act{
			Switch:     (*Node).turn,
			SetAddress: (*Node).takeAddress,
			SetSpeed:   (*Node).takeSpeed,
			Keep:       (*Node).want,
			Part:       (*Node).tellPart,
			Part + 1:   (*Node).tellPart,
			Part + 2:   (*Node).tellPart,
			Part + 3:   (*Node).tellPart,
			GetAddress: (*Node).tellAddress,
			Search:     (*Node).search,
		}
	}
	return map[uint8]act{
		Switch:     (*Node).turn,
		Choose:     (*Node).choose,
		Choose + 1: (*Node).choose,
		Choose + 2: (*Node).choose,
		Choose + 3: (*Node).choose,
		Search:     (*Node).search,
	}
}

// reply tells an answer.
func reply(command uint8, data ...byte) (api.Frame, bool) {
	return message(api.IDAssignUp, command, data...), true
}

// verdict tells the answer that says whether a command was right.
func verdict(command uint8, right bool) (api.Frame, bool) {
	if !right {
		return reply(command, refused)
	}
	return reply(command, accepted)
}

// turn lets the node wait, or be configured.
func (n *Node) turn(a ask) (api.Frame, bool) {
	if a[1] <= 1 {
		n.configured = a[1] == 1
	}
	return api.Frame{}, false
}

// choose counts the parts that were right, one behind the other; the last one configures.
func (n *Node) choose(a ask) (api.Frame, bool) {
	part := a[0] - Choose
	inOrder := part == 0 || part == n.right // the first part begins a choice anew
	switch {
	case !inOrder || a.number() != n.identity[part]:
		n.right = 0
	case part < lastPart:
		n.right = part + 1
	default:
		n.right, n.configured = 0, true
		return reply(Chosen)
	}
	return api.Frame{}, false
}

func (n *Node) takeAddress(a ask) (api.Frame, bool) {
	right := isAddress(a[1])
	if right {
		n.address.next = a[1]
	}
	return verdict(SetAddress, right)
}

func (n *Node) takeSpeed(a ask) (api.Frame, bool) {
	right := a[1] == 0 && isSpeed(a[2])
	if right {
		n.speed.next = a[2]
	}
	return verdict(SetSpeed, right)
}

// want is answered by Kept only: whoever keeps the node says whether it could be.
func (n *Node) want(ask) (api.Frame, bool) {
	n.wants = true
	return api.Frame{}, false
}

func (n *Node) tellPart(a ask) (api.Frame, bool) {
	part := n.identity[a[0]-Part]
	return reply(a[0], byte(part), byte(part>>8), byte(part>>16), byte(part>>24))
}

func (n *Node) tellAddress(ask) (api.Frame, bool) {
	return reply(GetAddress, n.address.now)
}

// search answers, if the node is among those that are searched.
func (n *Node) search(a ask) (api.Frame, bool) {
	bits, sub, next := a[5], a[6], a[7]
	if bits == begin {
		n.configured = false
	}
	if n.configured || n.address != (pair{now: None, next: None}) {
		return api.Frame{}, false
	}
	if bits == begin {
		n.place = 0
		return reply(Found)
	}
	if bits > greatestBit || sub != n.place || sub > lastPart || n.identity[sub]>>bits != a.number()>>bits {
		return api.Frame{}, false
	}
	if bits == 0 {
		n.place = next
		n.configured = sub == lastPart && next == 0
	}
	return reply(Found)
}
