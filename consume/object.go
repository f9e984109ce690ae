package consume

import (
	"campanile/api"
	"campanile/dict"
	"campanile/frame"
	"campanile/mapping"
	"campanile/produce"
)

const lastBeat = 240 // the greatest Kind that waits for a beat

// object is one of a consumer's, with what it has been through since it began.
type object struct {
	produce.Comm
	maps  []mapping.Map
	heard bool
	at    int64 // when it was heard last, if it was heard
	late  bool
	holds bool
	held  [api.MaxData]byte // if it holds any
}

func isTime(n int64) bool { return n >= 0 && n <= api.MaxTime }

func (o *object) begin() {
	*o = object{Comm: o.Comm, maps: o.maps}
}

// hear takes a right frame of its ID; false: there is no Result as yet.
func (o *object) hear(d *dict.Dict, f api.Frame, now int64, open bool) (api.Abort, bool) {
	if f.Len < mapping.Size(o.maps) {
		return api.AbLength, true
	}
	o.heard, o.at, o.late = true, now, false
	switch {
	case o.Kind > lastBeat:
		return mapping.Write(d, o.maps, frame.Data(f)), true
	case !open:
		return api.AbState, true
	}
	o.holds, o.held = true, f.Data
	return 0, false
}

// writeHeld writes the bytes that it holds; only one that waits for beats ever does.
func (o *object) writeHeld(d *dict.Dict) (api.Abort, bool) {
	if !o.holds {
		return 0, false
	}
	o.holds = false
	// All of the array: a frame had no fewer bytes than the mapping takes, and those behind are left out.
	return mapping.Write(d, o.maps, o.held[:]), true
}

// due tells when it would be late; false: nothing was heard that is to come again, or it is late.
func (o *object) due() (int64, bool) {
	if o.Event == 0 || !o.heard || o.late {
		return 0, false
	}
	return o.at + o.Event, true
}
