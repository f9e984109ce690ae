package client_test

import (
	"slices"
	"testing"

	"campanile/api"
	"campanile/client"
	"campanile/crc"
	"campanile/short"
)

// dice tells numbers that look thrown and are the same at each run.
type dice uint64

func (d *dice) roll(n int) int {
	*d = *d*6364136223846793005 + 1442695040888963407
	return int(uint64(*d>>33) % uint64(n))
}

func (d *dice) often(percent int) bool { return d.roll(100) < percent }

func (d *dice) bytes(n int) []byte {
	b := make([]byte, n)
	for i := range b {
		b[i] = byte(d.roll(12))
	}
	return b
}

// plain is a client by the chapter's words: what it asks are bytes, what stops it is a code that is answered.
type plain struct {
	waits   int
	place   api.Place
	isWrite bool
	quick   bool
	last    int64
	data    []byte // all of a write; what came of a read
	from    int    // of a write: the first byte that was not asked, or is not done
	toggle  bool
	sized   bool
	size    int
	check   bool
	next    int // the number of the next segment
	asked   int // how many segments were asked

	result client.Result
	done   bool
}

func (p *plain) end(code api.Abort) [][8]byte {
	r := client.Result{Place: p.place, Write: p.isWrite, Code: code}
	if code == 0 && !p.isWrite {
		r.Data = p.data
	}
	*p = plain{result: r, done: true}
	return nil
}

func (p *plain) stop(code api.Abort) [][8]byte {
	b := withNumber(withPlace(0x80, p.place), int(code))
	p.end(code)
	return [][8]byte{b}
}

func withPlace(first byte, p api.Place) [8]byte {
	return [8]byte{first, byte(p.Index), byte(p.Index >> 8), p.Sub}
}

func withNumber(b [8]byte, n int) [8]byte {
	for i := range 4 {
		b[4+i] = byte(n >> (8 * i))
	}
	return b
}

// asBit tells 1, if something holds, else 0.
func asBit(holds bool) byte {
	if holds {
		return 1
	}
	return 0
}

func asTime(now int64) int64 { return max(0, min(now, api.MaxTime)) }

func (p *plain) beginWrite(place api.Place, b []byte, mode uint8, now int64) ([][8]byte, api.Errno) {
	switch {
	case mode > 2 || len(b) > 4096:
		return nil, api.ErrArg
	case p.waits != nothing:
		return nil, api.ErrBusy
	}
	*p = plain{place: place, isWrite: true, data: slices.Clone(b), last: asTime(now), waits: write}
	if mode == 2 {
		p.waits = put
		return [][8]byte{withNumber(withPlace(0xC6, place), len(b))}, 0
	}
	if n := len(b); mode == 0 && 0 < n && n < 5 {
		p.quick = true
		ask := withPlace(0x23+4*byte(4-n), place)
		copy(ask[4:], b)
		return [][8]byte{ask}, 0
	}
	return [][8]byte{withNumber(withPlace(0x21, place), len(b))}, 0
}

func (p *plain) beginRead(place api.Place, mode uint8, now int64) ([][8]byte, api.Errno) {
	switch {
	case mode > 2:
		return nil, api.ErrArg
	case p.waits != nothing:
		return nil, api.ErrBusy
	}
	*p = plain{place: place, last: asTime(now), waits: read}
	if mode == 2 {
		p.waits = get
		return [][8]byte{withNumber(withPlace(0xA4, place), 127)}, 0
	}
	return [][8]byte{withPlace(0x40, place)}, 0
}

func (p *plain) hear(b [8]byte, now int64) [][8]byte {
	if p.waits == nothing {
		return nil
	}
	p.last = asTime(now)
	if p.waits == segments && b[0] != 0x80 {
		return p.segment(b)
	}
	a, errno := short.Answered(b)
	if errno != api.OK {
		return p.stop(api.AbCommand)
	}
	if a.Kind == short.Stop && a.Code == 0 {
		return p.end(api.AbGeneral)
	} else if a.Kind == short.Stop {
		return p.end(a.Code)
	}
	kinds := map[int]uint8{write: short.Write, part: short.Part, read: short.Read, more: short.More, put: short.Put, ack: short.Ack, putEnd: short.PutEnd, get: short.Get, getEnd: short.GetEnd}
	if kinds[p.waits] != a.Kind {
		return p.stop(api.AbCommand)
	}
	switch p.waits {
	case write, read, put, get:
		if a.Place != p.place {
			return p.stop(api.AbCommand)
		}
	}
	return p.answered(a)
}

func (p *plain) answered(a short.Cmd) [][8]byte {
	switch p.waits {
	case write:
		if p.quick {
			return p.end(0)
		}
		return p.part()
	case part:
		if a.Toggle != p.toggle {
			return p.stop(api.AbToggle)
		}
		if p.from >= len(p.data) {
			return p.end(0)
		}
		p.toggle = !p.toggle
		return p.part()
	case read:
		if a.Quick {
			p.data = a.Data
			return p.end(0)
		}
		return p.told(a, more, 0x60)
	case more:
		return p.more(a)
	case put:
		p.check = a.Check
		return p.segments(a.Block)
	case ack:
		return p.ack(a)
	case putEnd:
		return p.end(0)
	case get:
		p.next = 1
		return p.told(a, segments, 0xA3)
	}
	return p.getEnd(a)
}

// told notes what the server tells of a read, and asks for it.
func (p *plain) told(a short.Cmd, waits int, ask byte) [][8]byte {
	if a.Sized && a.Size > 4096 {
		return p.stop(api.AbMemory)
	}
	p.sized, p.size, p.check, p.waits = a.Sized, int(a.Size), a.Check, waits
	return [][8]byte{{ask}}
}

func (p *plain) part() [][8]byte {
	p.waits = part
	n := min(7, len(p.data)-p.from)
	b := [8]byte{0x10*asBit(p.toggle) + 2*byte(7-n)}
	copy(b[1:], p.data[p.from:p.from+n])
	p.from += n
	b[0] += asBit(p.from == len(p.data))
	return [][8]byte{b}
}

func (p *plain) more(a short.Cmd) [][8]byte {
	if a.Toggle != p.toggle {
		return p.stop(api.AbToggle)
	}
	p.data = append(p.data, a.Data...)
	switch n := len(p.data); {
	case n > 4096:
		return p.stop(api.AbMemory)
	case p.sized && n > p.size:
		return p.stop(api.AbLong)
	case a.Last && p.sized && n < p.size:
		return p.stop(api.AbShort)
	case a.Last:
		return p.end(0)
	}
	p.toggle = !p.toggle
	return [][8]byte{{0x60 + 0x10*asBit(p.toggle)}}
}

func (p *plain) segments(block int) [][8]byte {
	p.waits = ack
	var asked [][8]byte
	for at := p.from; len(asked) < block; at += 7 {
		b := [8]byte{byte(len(asked) + 1)}
		copy(b[1:], p.data[at:])
		last := at+7 >= len(p.data)
		if last {
			b[0] += 0x80
		}
		asked = append(asked, b)
		if last {
			break
		}
	}
	p.asked = len(asked)
	return asked
}

func (p *plain) ack(a short.Cmd) [][8]byte {
	if a.Seq > p.asked {
		return p.stop(api.AbSeq)
	}
	p.from += 7 * a.Seq
	if p.from == 0 || p.from < len(p.data) {
		return p.segments(a.Block)
	}
	p.waits = putEnd
	b := [8]byte{0xC1 + 4*byte(p.from-len(p.data))}
	if p.check {
		sum := crc.Sum(p.data)
		b[1], b[2] = byte(sum), byte(sum>>8)
	}
	return [][8]byte{b}
}

func (p *plain) segment(b [8]byte) [][8]byte {
	seq, last := int(b[0]&0x7F), b[0] >= 0x80
	inTurn := seq == p.next
	if inTurn {
		p.data = append(p.data, b[1:]...)
		p.next++
		if len(p.data) > 4096+7 {
			return p.stop(api.AbMemory)
		}
	}
	if inTurn && last {
		p.waits = getEnd
		return [][8]byte{{0xA2, byte(seq), 127}}
	}
	if last || seq == 127 {
		came := byte(p.next - 1)
		p.next = 1
		return [][8]byte{{0xA2, came, 127}}
	}
	return nil
}

func (p *plain) getEnd(a short.Cmd) [][8]byte {
	p.data = p.data[:len(p.data)-a.Empty]
	switch n := len(p.data); {
	case n > 4096:
		return p.stop(api.AbMemory)
	case p.sized && n > p.size:
		return p.stop(api.AbLong)
	case p.sized && n < p.size:
		return p.stop(api.AbShort)
	case p.check && crc.Sum(p.data) != a.Sum:
		return p.stop(api.AbCheck)
	}
	p.end(0)
	return [][8]byte{{0xA1}}
}

func (p *plain) tick(now, wait int64) [][8]byte {
	if p.waits != nothing && asTime(now) >= p.last+wait {
		return p.stop(api.AbTimeout)
	}
	return nil
}

// answer throws one that is mostly what the client waits for.
func (d *dice) answer(p *plain) [8]byte {
	switch {
	case d.often(2):
		return [8]byte(d.bytes(8))
	case d.often(2):
		return [8]byte{byte(d.roll(256))}
	}
	place := p.place
	if d.often(2) {
		place.Sub++
	}
	waits := p.waits
	if d.often(3) {
		waits = d.roll(getEnd + 1)
	}
	var c short.Cmd
	switch waits {
	case write:
		c = short.Cmd{Kind: short.Write, Place: place}
	case part:
		c = short.Cmd{Kind: short.Part, Toggle: p.toggle != d.often(2)}
	case read:
		c = d.read(place)
	case more:
		c = d.more(p)
	case put:
		c = short.Cmd{Kind: short.Put, Place: place, Check: d.often(70), Block: 1 + d.roll(127)}
	case ack:
		c = short.Cmd{Kind: short.Ack, Seq: min(127, p.asked), Block: 1 + d.roll(127)}
		if d.often(30) {
			c.Seq = min(127, d.roll(p.asked+2))
		}
	case putEnd:
		c = short.Cmd{Kind: short.PutEnd}
	case get:
		c = short.Cmd{Kind: short.Get, Place: place, Check: d.often(70)}
		c.Sized, c.Size = d.size()
	case segments:
		return d.segment(p)
	case getEnd:
		c = d.getEnd(p)
	default:
		c = short.Cmd{Kind: short.Stop, Place: place, Code: api.Abort(d.roll(4))}
	}
	b, _ := short.Answer(c)
	return b
}

func (d *dice) size() (bool, uint32) {
	if d.often(50) {
		return false, 0
	}
	return true, []uint32{uint32(d.roll(10)), uint32(7 * d.roll(40)), uint32(d.roll(200)), uint32(d.roll(4200)), 4096, 4097, 0xFFFFFFFF}[d.roll(7)]
}

func (d *dice) read(place api.Place) short.Cmd {
	c := short.Cmd{Kind: short.Read, Place: place}
	if d.often(70) {
		c.Sized, c.Size = d.size()
		return c
	}
	c.Quick, c.Sized, c.Data = true, d.often(70), d.bytes(4)
	if c.Sized {
		c.Data = c.Data[:1+d.roll(4)]
	}
	return c
}

func (d *dice) more(p *plain) short.Cmd {
	c := short.Cmd{Kind: short.More, Toggle: p.toggle != d.often(2), Last: d.often(10), Data: d.bytes(7)}
	if p.sized && p.size-len(p.data) <= 7 && d.often(90) {
		c.Last = true
		c.Data = c.Data[:min(7, max(0, p.size-len(p.data)))]
	} else if c.Last {
		c.Data = c.Data[:d.roll(8)]
	}
	return c
}

func (d *dice) segment(p *plain) [8]byte {
	seq := p.next
	if d.often(15) {
		seq = d.roll(128)
	}
	b := [8]byte(d.bytes(8))
	ends := d.often(8)
	if p.sized && p.size <= len(p.data)+7 {
		ends = d.often(90)
	}
	b[0] = byte(seq) + 0x80*asBit(ends)
	return b
}

func (d *dice) getEnd(p *plain) short.Cmd {
	c := short.Cmd{Kind: short.GetEnd, Empty: d.roll(8)}
	if n := len(p.data); n >= c.Empty && d.often(85) {
		if p.sized && n >= p.size && n-p.size < 8 {
			c.Empty = n - p.size
		}
		c.Sum = crc.Sum(p.data[:n-c.Empty])
	}
	return c
}

// sameBytes: were just these asked?
func sameBytes(l []api.Frame, want [][8]byte) bool {
	return slices.EqualFunc(l, want, func(f api.Frame, b [8]byte) bool {
		return f == api.Frame{ID: 0x605, Len: 8, Data: b}
	})
}

// step does one thrown thing to both, and tells what was asked and what was to be.
func (d *dice) step(c *client.Client, p *plain, now int64) (string, []api.Frame, [][8]byte) {
	switch idle := p.waits == nothing; {
	case idle && d.often(80) || !idle && d.often(2):
		place := at(uint16(d.roll(3)), uint8(d.roll(2)))
		mode := uint8(d.roll(3))
		if d.often(2) {
			mode = 3
		}
		if d.often(50) {
			l, errno := c.Read(place, mode, now)
			want, wanted := p.beginRead(place, mode, now)
			if errno != wanted {
				return "Read's error", l, append(want, [8]byte{})
			}
			return "Read", l, want
		}
		b := d.bytes([]int{d.roll(10), 7 * d.roll(40), d.roll(2000), 4096 + d.roll(2)}[d.roll(4)])
		l, errno := c.Write(place, b, mode, now)
		want, wanted := p.beginWrite(place, b, mode, now)
		if errno != wanted {
			return "Write's error", l, append(want, [8]byte{})
		}
		return "Write", l, want
	case d.often(1):
		return "Tick", c.Tick(now + wait - 1), p.tick(now+wait-1, wait)
	case d.roll(300) == 0:
		code := api.Abort(d.roll(3))
		l := c.Stop(code)
		if code == 0 {
			code = api.AbGeneral
		}
		if p.waits == nothing {
			return "Stop", l, nil
		}
		return "Stop", l, p.stop(code)
	}
	b := d.answer(p)
	return "Hear", c.Hear(api.Frame{ID: 0x585, Len: 8, Data: b}, now), p.hear(b, now)
}

// Thrown rows of calls: the client asks what the chapter's words say, and ends as they say.
func TestRows(t *testing.T) { // P11.2 to P11.5
	reached, good := map[int]int{}, map[int]int{}
	for seed := range 400 {
		dice := dice(seed)
		c, p := made(t), &plain{}
		now := int64(0)
		for step := range 600 {
			now += int64(dice.roll(3))
			waits := p.waits
			reached[waits]++
			what, asked, want := dice.step(c, p, now)
			if !sameBytes(asked, want) {
				t.Fatalf("row %d, step %d, waiting for %d: %s: %s, want % X", seed, step, waits, what, texts(asked), want)
			}
			if c.Busy() != (p.waits != nothing) {
				t.Fatalf("row %d, step %d, waiting for %d: %s: busy: %t", seed, step, waits, what, c.Busy())
			}
			if dice.often(30) {
				r, done := c.Done()
				if done != p.done || !sameResult(r, p.result) {
					t.Fatalf("row %d, step %d: Done: %v, %t, want %v, %t", seed, step, r, done, p.result, p.done)
				}
				if done && r.Code == 0 {
					good[waits]++
				}
				p.result, p.done = client.Result{}, false
			}
		}
	}
	for waits := range getEnd + 1 {
		if reached[waits] < 300 {
			t.Errorf("%d was reached but %d times", waits, reached[waits])
		}
	}
	for _, waits := range []int{write, part, read, more, putEnd, getEnd} {
		if good[waits] < 10 {
			t.Errorf("%d led to a good end but %d times", waits, good[waits])
		}
	}
}

// Any eight bytes at all are heard in any state, as the chapter's words say.
func TestAnyBytes(t *testing.T) { // P11.3
	dice := dice(7)
	for _, x := range states() {
		for first := range 256 {
			for try := range 12 {
				c, p := x.reached(t), x.plain(t)
				b := [8]byte(dice.bytes(8))
				b[0] = byte(first)
				if try < 6 { // few bytes that are not 0: more of these are answers
					clear(b[1+try:])
				}
				if try%2 == 0 && try >= 6 {
					copy(b[1:], []byte{2, 0x20, 0})
				}
				want := p.hear(b, 0)
				if asked := c.Hear(api.Frame{ID: 0x585, Len: 8, Data: b}, 0); !sameBytes(asked, want) {
					t.Errorf("%s: to % X it asked %s, want % X", x.name, b, texts(asked), want)
				}
				r, done := c.Done()
				if c.Busy() != (p.waits != nothing) || done != p.done || !sameResult(r, p.result) {
					t.Errorf("%s: behind % X it is another one", x.name, b)
				}
			}
		}
	}
}
