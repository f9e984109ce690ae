package emcy

import (
	"slices"

	"campanile/api"
	"campanile/frame"
)

// crowded: may no frame more wait?
func (x *Errors) crowded() bool { return len(x.waits) >= api.MaxErrors }

// wait lets an error's frame wait, with the register as it is now.
func (x *Errors) wait(code uint16, info [5]byte) {
	f, _ := frame.Make(api.IDEmcy+uint16(x.address), byte(code), byte(code>>8), x.Register(), info[0], info[1], info[2], info[3], info[4])
	x.waits = append(x.waits, f)
}

// Tick tells a frame that may be told.
func (x *Errors) Tick(now int64) (api.Frame, bool) {
	due, waits := x.Due()
	if !waits || !isTime(now) || now < due {
		return api.Frame{}, false
	}
	f := x.waits[0]
	x.waits = slices.Delete(x.waits, 0, 1)
	x.due = now + x.inhibit
	return f, true
}

// Due tells when the next one may be told.
func (x *Errors) Due() (int64, bool) {
	if x == nil || len(x.waits) == 0 {
		return 0, false
	}
	return x.due, true
}

// Read tells what a frame says.
func Read(f api.Frame) (uint8, uint16, uint8, [5]byte, bool) {
	var info [5]byte
	data := frame.Data(f)
	address := f.ID - api.IDEmcy // a lesser ID makes a great one of it
	if len(data) != api.MaxData || address < 1 || address > api.MaxNode {
		return 0, 0, 0, info, false
	}
	copy(info[:], data[3:])
	return uint8(address), uint16(data[0]) | uint16(data[1])<<8, data[2], info, true
}
