package sync

import "campanile/api"

// Producer sends the beat.
type Producer struct {
	beat
	period int64
	goes   bool
	due    int64 // these two count only while it goes
	next   uint8
}

// NewProducer is a producer that stands.
func NewProducer(id uint16, period int64, top uint8) (*Producer, api.Errno) {
	b := beat{id: id, top: top}
	if !b.may() || period < 1 || !isTime(period) {
		return nil, api.ErrArg
	}
	return &Producer{beat: b, period: period}, api.OK
}

// Start lets it go.
func (p *Producer) Start(now int64) api.Errno {
	switch {
	case p == nil:
		return api.ErrNil
	case !isTime(now), p.period < 1: // one that NewProducer has not made has no period, and never goes
		return api.ErrArg
	}
	p.goes, p.due, p.next = true, now+p.period, 1
	return api.OK
}

// Stop lets it stand.
func (p *Producer) Stop() {
	if p != nil {
		p.goes = false
	}
}

// Tick tells a frame that is due.
func (p *Producer) Tick(now int64) (api.Frame, bool) {
	due, goes := p.Due()
	if !goes || !isTime(now) || now < due {
		return api.Frame{}, false
	}
	f := p.frame(p.next)
	p.next = p.behind(p.next)
	// Beats that were missed are left out; the others stay where they were to be.
	missed := (now - due) / p.period
	p.due = due + (missed+1)*p.period
	return f, true
}

// Due tells when it is due next.
func (p *Producer) Due() (int64, bool) {
	if p == nil || !p.goes {
		return 0, false
	}
	return p.due, true
}
