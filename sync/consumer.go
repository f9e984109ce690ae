package sync

import "campanile/api"

// Consumer follows the beat.
type Consumer struct {
	beat
	window int64
	heard  bool
	at     int64 // when it heard one last, if it heard one
	last   uint8 // that one's number
	lost   int64
	wrong  int64
}

// NewConsumer is a consumer.
func NewConsumer(id uint16, window int64, top uint8) (*Consumer, api.Errno) {
	b := beat{id: id, top: top}
	if !b.may() || !isTime(window) {
		return nil, api.ErrArg
	}
	return &Consumer{beat: b, window: window}, api.OK
}

// Hear hears a frame: its number, if it is one of the beat.
func (c *Consumer) Hear(f api.Frame, now int64) (uint8, bool) {
	if c == nil || f.ID != c.id || f.Remote || !isTime(now) {
		return 0, false
	}
	number, is := c.number(f)
	if !is {
		c.wrong++
		return 0, false
	}
	if c.heard && c.counted() {
		c.lost += c.lostBehind(c.last)(number)
	}
	c.heard, c.at, c.last = true, now, number
	return number, true
}

// lostBehind tells, by a closure, how many numbers were lost behind one, if another is heard next. The same one again is taken as a whole round less itself.
func (b beat) lostBehind(last uint8) func(number uint8) int64 {
	round := int64(b.top)
	next := int64(b.behind(last))
	return func(number uint8) int64 { return (int64(number) - next + round) % round }
}

// Open: is its window open?
func (c *Consumer) Open(now int64) bool {
	if c == nil || !isTime(now) {
		return false
	}
	return c.window == 0 || c.heard && c.at <= now && now-c.at <= c.window
}

// Lost tells how many numbers were not heard.
func (c *Consumer) Lost() int64 {
	if c == nil {
		return 0
	}
	return c.lost
}

// Wrong tells how many frames were wrong.
func (c *Consumer) Wrong() int64 {
	if c == nil {
		return 0
	}
	return c.wrong
}
