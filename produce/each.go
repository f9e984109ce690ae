package produce

import "campanile/api"

// object tells one by its number; nil: there is none.
func (p *Producer) object(i int) *object {
	if p == nil || i < 0 || i >= len(p.objects) {
		return nil
	}
	return &p.objects[i]
}

// each asks all objects that are on, in order, while the producer goes; with each goes what it would send.
func (p *Producer) each(ask func(o *object, f api.Frame, packed bool)) {
	if p == nil || !p.goes {
		return
	}
	for i := range p.objects {
		if o := &p.objects[i]; o.On {
			f, packed := o.frame(p.d)
			ask(o, f, packed)
		}
	}
}

// send sends each object that is to be sent now, as it is asked.
func (p *Producer) send(now int64, asked func(o *object, f api.Frame) bool) []api.Frame {
	if p == nil || !isTime(now) {
		return nil
	}
	p.told = now
	var sent []api.Frame
	p.each(func(o *object, f api.Frame, packed bool) {
		// It is asked whether or not it can be packed: it counts beats.
		if asked(o, f) && packed {
			o.send(f, now)
			sent = append(sent, f)
		}
	})
	return sent
}

// least tells the least of times; false: there are none.
func least(times ...int64) (int64, bool) {
	if len(times) == 0 {
		return 0, false
	}
	first := times[0]
	for _, time := range times {
		first = min(first, time)
	}
	return first, true
}
