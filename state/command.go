package state

import (
	"campanile/api"
	"campanile/frame"
)

// forAll is the address of commands that are for all nodes.
const forAll = 0

// leads tells the state that a command leads to, if it is one of the five.
func leads(command uint8) (uint8, bool) {
	switch command {
	case api.Start:
		return api.Operational, true
	case api.Stop:
		return api.Stopped, true
	case api.Prepare:
		return api.PreOperational, true
	case api.Reset, api.ResetComm:
		return api.Booting, true
	}
	return 0, false
}

// Command is a command's frame.
func Command(command, address uint8) (api.Frame, api.Errno) {
	if _, is := leads(command); !is || address > api.MaxNode {
		return api.Frame{}, api.ErrArg
	}
	return frame.Make(api.IDCommand, command, address)
}

// Commanded tells the command and the address that a frame is the very frame of.
func Commanded(f api.Frame) (uint8, uint8, bool) {
	command, address := f.Data[0], f.Data[1]
	if made, errno := Command(command, address); errno != api.OK || f != made {
		return 0, 0, false
	}
	return command, address, true
}
