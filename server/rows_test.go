package server_test

import (
	"bytes"
	"slices"
	"strings"
	"testing"

	"campanile/api"
	"campanile/crc"
	"campanile/dict"
	"campanile/server"
	"campanile/short"
	"campanile/types"
)

// dice tells numbers that look thrown and are the same at each run.
type dice uint64

func (d *dice) roll(n int) int {
	*d = *d*6364136223846793005 + 1442695040888963407
	return int(uint64(*d>>33) % uint64(n))
}

func (d *dice) often(percent int) bool { return d.roll(100) < percent }

func (d *dice) bytes(n int) []byte {
	b := make([]byte, n)
	for i := range b {
		b[i] = byte(d.roll(12))
	}
	return b
}

// plain is a server by the chapter's words: what it says are bytes, what stops it is a code that is answered.
type plain struct {
	d      *dict.Dict
	h      *hook
	waits  int
	place  api.Place
	last   int64
	data   []byte // all that came of a write; all of a read
	toggle bool
	sized  bool
	size   int
	check  bool
	next   int // the number of the next segment
	from   int // of a read: the first byte that is not done
	block  int
	said   int // how many segments were said
}

func (p *plain) end() { *p = plain{d: p.d, h: p.h} }

func (p *plain) stop(code api.Abort) [][8]byte {
	b := withPlace(0x80, p.place)
	for i := range 4 {
		b[4+i] = byte(code >> (8 * i))
	}
	p.end()
	return [][8]byte{b}
}

func withPlace(first byte, p api.Place) [8]byte {
	return [8]byte{first, byte(p.Index), byte(p.Index >> 8), p.Sub}
}

func withSize(b [8]byte, n int) [8]byte {
	b[4], b[5] = byte(n), byte(n>>8)
	return b
}

// commit writes, unless a code is to be told.
func (p *plain) commit(b []byte) api.Abort {
	tag, code := p.d.May(p.place, b)
	if code == 0 && tag != 0 && p.h != nil {
		code = p.h.Asked(tag, p.place, slices.Clone(b))
	}
	if code == 0 {
		code = p.d.Write(p.place, b)
	}
	return code
}

func (p *plain) mayBegin(c short.Cmd) api.Abort {
	if c.Kind == short.Read || c.Kind == short.Get {
		_, code := p.d.Read(c.Place)
		return code
	}
	e, code := p.d.Find(c.Place)
	switch {
	case code != 0 || c.Quick:
		return code
	case e.Rights&api.RWrite == 0:
		return api.AbReadOnly
	case c.Sized && c.Size > api.MaxValue:
		return api.AbMemory
	}
	return 0
}

func (p *plain) hear(b [8]byte, now int64) [][8]byte {
	said := p.told(b)
	if p.waits != nothing {
		p.last = max(0, min(now, api.MaxTime))
	}
	return said
}

func (p *plain) told(b [8]byte) [][8]byte {
	if p.waits == segments && b[0] != 0x80 {
		return p.segment(b)
	}
	c, errno := short.Asked(b)
	if errno != api.OK {
		return p.stop(api.AbCommand)
	}
	switch c.Kind {
	case short.Write, short.Read, short.Put, short.Get:
		p.end()
		p.place = c.Place
		if code := p.mayBegin(c); code != 0 {
			return p.stop(code)
		}
		return p.begin(c)
	case short.Stop:
		p.end()
		return nil
	}
	waited := map[uint8]int{short.Part: part, short.More: more, short.PutEnd: putEnd, short.GetStart: getStart, short.Ack: ack, short.GetEnd: getEnd}
	if waited[c.Kind] != p.waits {
		return p.stop(api.AbCommand)
	}
	switch p.waits {
	case part:
		return p.part(c)
	case more:
		return p.more(c)
	case putEnd:
		return p.putEnd(c)
	case getStart:
		return p.segments(p.block)
	case ack:
		return p.ack(c)
	}
	p.end()
	return nil
}

func (p *plain) begin(c short.Cmd) [][8]byte {
	p.sized, p.size, p.check, p.block, p.next = c.Sized, int(c.Size), c.Check, c.Block, 1
	p.data, _ = p.d.Get(c.Place)
	if c.Kind == short.Write || c.Kind == short.Put {
		p.data = nil
	}
	switch {
	case c.Kind == short.Write && c.Quick:
		e, _ := p.d.Find(c.Place)
		b := c.Data
		if size, _ := types.Size(e.Type); !c.Sized && (size == 1 || size == 2 || size == 3) {
			b = b[:size]
		}
		if code := p.commit(b); code != 0 {
			return p.stop(code)
		}
		p.end()
		return [][8]byte{withPlace(0x60, c.Place)}
	case c.Kind == short.Write:
		p.waits = part
		return [][8]byte{withPlace(0x60, c.Place)}
	case c.Kind == short.Put:
		p.waits = segments
		return [][8]byte{withSize(withPlace(0xA0+4*asBit(c.Check), c.Place), 127)}
	case c.Kind == short.Get:
		p.waits = getStart
		return [][8]byte{withSize(withPlace(0xC2+4*asBit(c.Check), c.Place), len(p.data))}
	case len(p.data) >= 1 && len(p.data) <= 4:
		b := withPlace(0x43+4*byte(4-len(p.data)), c.Place)
		copy(b[4:], p.data)
		p.end()
		return [][8]byte{b}
	}
	p.waits = more
	return [][8]byte{withSize(withPlace(0x41, c.Place), len(p.data))}
}

// asBit tells 1, if something holds, else 0.
func asBit(holds bool) byte {
	if holds {
		return 1
	}
	return 0
}

func (p *plain) part(c short.Cmd) [][8]byte {
	if c.Toggle != p.toggle {
		return p.stop(api.AbToggle)
	}
	p.data = append(p.data, c.Data...)
	n := len(p.data)
	switch {
	case n > api.MaxValue:
		return p.stop(api.AbMemory)
	case p.sized && n > p.size:
		return p.stop(api.AbLong)
	case c.Last && p.sized && n < p.size:
		return p.stop(api.AbShort)
	}
	said := [][8]byte{{0x20 + 0x10*asBit(c.Toggle)}}
	p.toggle = !p.toggle
	if c.Last {
		if code := p.commit(p.data); code != 0 {
			return p.stop(code)
		}
		p.end()
	}
	return said
}

func (p *plain) more(c short.Cmd) [][8]byte {
	if c.Toggle != p.toggle {
		return p.stop(api.AbToggle)
	}
	rest := p.data[p.from:]
	n := min(7, len(rest))
	b := [8]byte{0x10*asBit(c.Toggle) + 2*byte(7-n) + asBit(n == len(rest))}
	copy(b[1:], rest[:n])
	p.from += n
	p.toggle = !p.toggle
	if n == len(rest) {
		p.end()
	}
	return [][8]byte{b}
}

func (p *plain) segment(b [8]byte) [][8]byte {
	seq, last := int(b[0]&0x7F), b[0] >= 0x80
	inTurn := seq == p.next
	if inTurn {
		p.data = append(p.data, b[1:]...)
		p.next++
		if len(p.data) > api.MaxValue+7 {
			return p.stop(api.AbMemory)
		}
	}
	if inTurn && last {
		p.waits = putEnd
		return [][8]byte{{0xA2, byte(seq), 127}}
	}
	if last || seq == 127 {
		came := byte(p.next - 1)
		p.next = 1
		return [][8]byte{{0xA2, came, 127}}
	}
	return nil
}

func (p *plain) putEnd(c short.Cmd) [][8]byte {
	b := p.data[:len(p.data)-c.Empty]
	code := api.Abort(0)
	switch {
	case len(b) > api.MaxValue:
		code = api.AbMemory
	case p.sized && len(b) > p.size:
		code = api.AbLong
	case p.sized && len(b) < p.size:
		code = api.AbShort
	case p.check && crc.Sum(b) != c.Sum:
		code = api.AbCheck
	default:
		code = p.commit(b)
	}
	if code != 0 {
		return p.stop(code)
	}
	p.end()
	return [][8]byte{{0xA1}}
}

func (p *plain) segments(block int) [][8]byte {
	p.waits = ack
	var said [][8]byte
	for at := p.from; len(said) < block; at += 7 {
		b := [8]byte{byte(len(said) + 1)}
		copy(b[1:], p.data[at:])
		last := at+7 >= len(p.data)
		if last {
			b[0] += 0x80
		}
		said = append(said, b)
		if last {
			break
		}
	}
	p.said = len(said)
	return said
}

func (p *plain) ack(c short.Cmd) [][8]byte {
	if c.Seq > p.said {
		return p.stop(api.AbSeq)
	}
	p.from += 7 * c.Seq
	if p.from == 0 || p.from < len(p.data) {
		return p.segments(c.Block)
	}
	p.waits = getEnd
	b := [8]byte{0xC1 + 4*byte(p.from-len(p.data))}
	if p.check {
		sum := crc.Sum(p.data)
		b[1], b[2] = byte(sum), byte(sum>>8)
	}
	return [][8]byte{b}
}

func (p *plain) tick(now, wait int64) [][8]byte {
	if p.waits != nothing && max(0, min(now, api.MaxTime)) >= p.last+wait {
		return p.stop(api.AbTimeout)
	}
	return nil
}

// command throws one that is mostly what the server waits for, or that begins something.
func (d *dice) command(p *plain) [8]byte {
	switch {
	case d.often(4):
		return [8]byte(d.bytes(8))
	case d.often(3):
		return [8]byte{byte(d.roll(256))}
	}
	var c short.Cmd
	waits := p.waits
	if d.often(6) {
		waits = d.roll(8)
	}
	switch waits {
	case part:
		c = short.Cmd{Kind: short.Part, Toggle: p.toggle != d.often(3), Last: d.often(15), Data: d.bytes(7)}
		if c.Last {
			c.Data = c.Data[:d.roll(8)]
		}
	case more:
		c = short.Cmd{Kind: short.More, Toggle: p.toggle != d.often(3)}
	case segments:
		return d.segment(p)
	case putEnd:
		c = short.Cmd{Kind: short.PutEnd, Empty: d.roll(8)}
		if n := len(p.data); n >= c.Empty && d.often(80) {
			if p.sized && n >= p.size && n-p.size < 8 {
				c.Empty = n - p.size
			}
			c.Sum = crc.Sum(p.data[:n-c.Empty])
		}
	case getStart:
		c = short.Cmd{Kind: short.GetStart}
	case ack:
		c = short.Cmd{Kind: short.Ack, Seq: min(127, p.said), Block: 1 + d.roll(127)}
		if d.often(30) {
			c.Seq = min(127, d.roll(p.said+2))
		}
	case getEnd:
		c = short.Cmd{Kind: short.GetEnd}
	default:
		c = d.beginning()
	}
	b, _ := short.Ask(c)
	return b
}

func (d *dice) segment(p *plain) [8]byte {
	seq := p.next
	if d.often(15) {
		seq = d.roll(128)
	}
	b := [8]byte(d.bytes(8))
	b[0] = byte(seq) + 0x80*asBit(d.often(8))
	return b
}

// beginning throws a command that begins something, at places most of which are there.
func (d *dice) beginning() short.Cmd {
	places := []api.Place{one, text, text, at(0x2000, 0), at(0x2003, 1), at(0x2003, 2), at(0x2003, 3), at(0x2003, 4), at(0x2003, 6), at(0x2003, 8), at(0x2003, 9), at(0x2004, 0), at(0x2004, 0), at(0x2004, 1), at(0x2004, 2), at(0x2004, 3), at(0x2004, 9), at(1, 0)}
	c := short.Cmd{Place: places[d.roll(len(places))]}
	size := func() {
		if c.Sized = d.often(50); c.Sized {
			c.Size = []uint32{uint32(d.roll(10)), uint32(7 * d.roll(40)), uint32(d.roll(4200)), 4096, 4097, 0xFFFFFFFF}[d.roll(6)]
		}
	}
	switch d.roll(6) {
	case 0:
		c.Kind, c.Quick, c.Sized = short.Write, true, d.often(70)
		c.Data = d.bytes(4)
		if c.Sized {
			c.Data = c.Data[:1+d.roll(4)]
		}
	case 1:
		c.Kind = short.Write
		size()
	case 2:
		c.Kind = short.Read
	case 3:
		c.Kind, c.Check = short.Put, d.often(50)
		size()
	case 4:
		c.Kind, c.Check, c.Block = short.Get, d.often(50), 1+d.roll(127)
	default:
		c = short.Cmd{Kind: short.Stop, Code: api.Abort(d.roll(9))}
	}
	return c
}

// sameBytes: were just these said?
func sameBytes(l []api.Frame, want [][8]byte) bool {
	return slices.EqualFunc(l, want, func(f api.Frame, b [8]byte) bool {
		return f == api.Frame{ID: 0x585, Len: 8, Data: b}
	})
}

// sameDict: have both dictionaries the same values, and as many changes?
func sameDict(a, b *dict.Dict) bool {
	for _, e := range a.Entries() {
		x, _ := a.Get(at(e.Index, e.Sub))
		y, _ := b.Get(at(e.Index, e.Sub))
		if !bytes.Equal(x, y) {
			return false
		}
	}
	return a.Changes() == b.Changes()
}

// Thrown rows of calls: the server says what the chapter's words say, and writes what they write.
func TestRows(t *testing.T) { // P10.2, P10.3, P10.4
	reached := map[int]int{}
	for seed := range 400 {
		dice := dice(seed)
		h, ph := &hook{}, &hook{}
		s, d := over(t, h, several()...)
		p := &plain{d: d.Copy(), h: ph}
		if seed%4 == 0 {
			s, _ = server.New(5, d, nil, wait)
			p.h = nil
		}
		now := int64(0)
		for step := range 500 {
			now += int64(dice.roll(3))
			h.code = 0
			if dice.often(25) {
				h.code = api.AbState
			}
			ph.code = h.code
			reached[p.waits]++
			switch {
			case dice.often(2):
				want := p.tick(now+wait-1, wait)
				if said := s.Tick(now + wait - 1); !sameBytes(said, want) {
					t.Fatalf("row %d, step %d: Tick: %s, want % X", seed, step, texts(said), want)
				}
			case dice.roll(200) == 0:
				s.Reset()
				p.end()
			case dice.roll(50) == 0: // the device writes, too
				b := dice.bytes(dice.roll(60) * dice.roll(60))
				d.Set(text, b)
				p.d.Set(text, b)
			default:
				b := dice.command(p)
				waits := p.waits
				want := p.hear(b, now)
				if said := s.Hear(api.Frame{ID: 0x605, Len: 8, Data: b}, now); !sameBytes(said, want) {
					t.Fatalf("row %d, step %d, waiting for %d: to % X it said %s, want % X", seed, step, waits, b, texts(said), want)
				}
			}
			under, on := s.Busy()
			if on != (p.waits != nothing) || under != p.place || !sameDict(d, p.d) || !slices.Equal(h.asked, ph.asked) {
				t.Fatalf("row %d, step %d: %x, %t, want %x, %d; %v, want %v", seed, step, under, on, p.place, p.waits, h.asked, ph.asked)
			}
		}
	}
	for waits := range getEnd + 1 {
		if reached[waits] < 1000 {
			t.Errorf("%d was reached but %d times", waits, reached[waits])
		}
	}
}

// Any eight bytes at all are heard in any state, as the chapter's words say.
func TestAnyBytes(t *testing.T) { // P10.2, P10.4
	dice := dice(7)
	for _, x := range states() {
		for first := range 256 {
			for try := range 12 {
				s, d := x.reached(t)
				p := &plain{d: d.Copy()}
				for _, line := range x.lines {
					heard, _, _ := strings.Cut(line, ">")
					p.hear(asking(t, heard).Data, 0)
				}
				b := [8]byte(dice.bytes(8))
				b[0] = byte(first)
				if try < 6 { // few bytes that are not 0: more of these are commands
					clear(b[1+try:])
				}
				want := p.hear(b, 0)
				if said := s.Hear(api.Frame{ID: 0x605, Len: 8, Data: b}, 0); !sameBytes(said, want) {
					t.Errorf("%s: to % X it said %s, want % X", x.name, b, texts(said), want)
				}
				if _, on := s.Busy(); on != (p.waits != nothing) || !sameDict(d, p.d) {
					t.Errorf("%s: behind % X it is another one", x.name, b)
				}
			}
		}
	}
}
