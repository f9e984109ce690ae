package produce

import (
	"campanile/api"
	"campanile/dict"
	"campanile/frame"
	"campanile/mapping"
)

const (
	maxID     = 0x7FF
	lastBeat  = 240 // the greatest Kind that counts beats
	firstTime = 254 // the least Kind that goes by time
)

// object is one of a producer's, with what it has been through since it began.
type object struct {
	Comm
	maps    []mapping.Map
	time    int64     // when it was sent last, or began
	last    api.Frame // what was sent last, if it was sent
	sent    bool
	wanted  bool
	begun   bool
	counted uint8
}

func isTime(n int64) bool { return n >= 0 && n <= api.MaxTime }

func (c Comm) may() bool {
	return c.ID <= maxID && (c.Kind <= lastBeat || c.Kind >= firstTime) &&
		isTime(c.Inhibit) && isTime(c.Event) && c.Start <= lastBeat
}

func (o *object) begin(now int64) {
	*o = object{Comm: o.Comm, maps: o.maps, time: now, begun: o.Start == 0}
}

// frame tells what would be sent now; false: what was set once can't be packed any more.
func (o *object) frame(d *dict.Dict) (api.Frame, bool) {
	b, code := mapping.Pack(d, o.maps)
	if code != 0 {
		return api.Frame{}, false
	}
	f, errno := frame.Make(o.ID, b...)
	return f, errno == api.OK
}

func (o *object) send(f api.Frame, now int64) {
	o.last, o.sent, o.time, o.wanted = f, true, now, false
}

// changed: the identifier stays while an object goes, so frames differ as their bytes do.
func (o *object) changed(f api.Frame) bool { return !o.sent || f != o.last }

// atBeat: is it to be sent at this beat? It counts the beat.
func (o *object) atBeat(count uint8, f api.Frame) bool {
	switch {
	case o.Kind == 0:
		return o.wanted || o.changed(f)
	case o.Kind > lastBeat:
		return false
	case !o.begun:
		o.begun = count == 0 || count == o.Start
		return o.begun
	}
	o.counted++
	if o.counted < o.Kind {
		return false
	}
	o.counted = 0
	return true
}

// atTime: is it to be sent now?
func (o *object) atTime(now int64, f api.Frame) bool {
	gone := now - o.time
	if o.Kind < firstTime || gone < 0 {
		return false
	}
	asked := o.wanted || o.changed(f) || o.Event != 0 && gone >= o.Event
	free := !o.sent || gone >= o.Inhibit
	return asked && free
}

// due tells when time alone would let it be sent.
func (o *object) due(f api.Frame) (int64, bool) {
	switch {
	case o.Kind < firstTime:
		return 0, false
	case !o.sent:
		return o.time, true
	case o.wanted || o.changed(f):
		return o.time + o.Inhibit, true
	case o.Event != 0:
		return o.time + max(o.Inhibit, o.Event), true
	}
	return 0, false
}
