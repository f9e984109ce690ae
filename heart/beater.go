package heart

import "campanile/api"

// Beater beats for a node.
type Beater struct {
	address uint8
	period  int64 // 0: it is silent
	due     int64 // counts only if it beats
}

// NewBeater is a beater that is silent.
func NewBeater(address uint8) (*Beater, api.Errno) {
	if !isNode(address) {
		return nil, api.ErrArg
	}
	return &Beater{address: address}, api.OK
}

// Set sets its period; 0: it is silent.
func (b *Beater) Set(period, now int64) api.Errno {
	switch {
	case b == nil:
		return api.ErrNil
	case !isTime(period), !isTime(now):
		return api.ErrArg
	}
	b.period, b.due = period, now
	return api.OK
}

// Tick tells a beat that is due.
func (b *Beater) Tick(now int64, state uint8) (api.Frame, bool) {
	due, beats := b.Due()
	if !beats || !isTime(now) || now < due || !isState(state) {
		return api.Frame{}, false
	}
	b.due = now + b.period // one that is told late puts off those behind it
	return beat(b.address, state), true
}

// Due tells when it is due.
func (b *Beater) Due() (int64, bool) {
	if b == nil || b.period == 0 {
		return 0, false
	}
	return b.due, true
}
