package sync

import (
	"campanile/api"
	"campanile/frame"
)

// day is how many milliseconds a day has; a tick is one of them.
const day = 86400000

// Stamp is the frame of a time of day.
func Stamp(id uint16, days uint16, ms uint32) (api.Frame, api.Errno) {
	if ms >= day {
		return api.Frame{}, api.ErrArg
	}
	return frame.Make(id, byte(ms), byte(ms>>8), byte(ms>>16), byte(ms>>24), byte(days), byte(days>>8))
}

// Stamped tells the time of a frame.
func Stamped(f api.Frame, id uint16) (uint16, uint32, bool) {
	b := f.Data
	ms := uint32(b[0]) | uint32(b[1])<<8 | uint32(b[2])<<16 | uint32(b[3])<<24
	days := uint16(b[4]) | uint16(b[5])<<8
	if stamp, errno := Stamp(id, days, ms); errno != api.OK || f != stamp {
		return 0, 0, false
	}
	return days, ms, true
}

// Clock tells the time of day.
type Clock struct {
	isSet bool
	at    int64 // when it was set, and to what, if it was
	days  uint16
	ms    uint32
}

// Set sets it.
func (c *Clock) Set(days uint16, ms uint32, now int64) api.Errno {
	switch {
	case c == nil:
		return api.ErrNil
	case ms >= day, !isTime(now):
		return api.ErrArg
	}
	*c = Clock{isSet: true, at: now, days: days, ms: ms}
	return api.OK
}

// At tells the time.
func (c *Clock) At(now int64) (uint16, uint32, bool) {
	if c == nil || !c.isSet || !isTime(now) || now < c.at {
		return 0, 0, false
	}
	ms := int64(c.ms) + now - c.at
	return c.days + uint16(ms/day), uint32(ms % day), true
}
