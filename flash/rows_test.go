package flash_test

import (
	"testing"

	"campanile/api"
	"campanile/flash"
)

// dice tells numbers that look thrown and are the same at each run.
type dice uint64

func (d *dice) roll(n uint64) uint64 {
	*d = *d*6364136223846793005 + 1442695040888963407
	return uint64(*d>>33) % n
}

// word tells one whose bytes often have the same bits, so that some can be written over others.
func (d *dice) word() (b [4]byte) {
	for i := range b {
		b[i] = []byte{255, 255, 0x7F, 0x0F, 3, 1, 0}[d.roll(7)]
	}
	return b
}

// call is one call on a flash.
type call struct {
	kind   uint64 // 0 erases, 1 arms, 2 brings the power back, else it writes
	sector int
	word   int
	b      [4]byte
	after  int
}

// call tells a thrown one, on few words of 3 sectors, some of which are none; arming and power come in only if they are asked for.
func (d *dice) call(power bool) call {
	c := call{kind: d.roll(20), sector: int(d.roll(5)) - 1, word: []int{-1, 0, 1, 1, 2, 255, 255, 256}[d.roll(8)], b: d.word(), after: int(d.roll(12)) - 2}
	if !power && (c.kind == 1 || c.kind == 2) {
		c.kind = 0
	}
	return c
}

func (c call) do(f *flash.Flash) api.Errno {
	switch c.kind {
	case 0:
		return f.Erase(c.sector)
	case 1:
		f.Cut(c.after)
		return api.OK
	case 2:
		f.On()
		return api.OK
	}
	return f.Write(c.sector, c.word, c.b)
}

// plain is a flash of 3 sectors by the chapter's words: one list of bytes, the power goes when so many steps are done.
type plain struct {
	bytes   [3 * 1024]byte
	steps   int64
	goes    int64 // the power goes at the step when so many are done; below 0: nothing is armed
	isGone  bool
	written map[[2]int][4]byte // since the last erasing
}

func newPlain() *plain {
	p := &plain{goes: -1, written: map[[2]int][4]byte{}}
	for i := range p.bytes {
		p.bytes[i] = 255
	}
	return p
}

func (p *plain) do(c call) api.Errno {
	switch {
	case c.kind == 1 && c.after < 0:
		p.goes = -1
		return api.OK
	case c.kind == 1:
		p.goes = p.steps + int64(c.after)
		return api.OK
	case c.kind == 2:
		p.isGone, p.goes = false, -1
		return api.OK
	case p.isGone:
		return api.ErrCut
	case c.sector < 0 || c.sector > 2:
		return api.ErrSector
	case c.kind != 0 && (c.word < 0 || c.word > 255):
		return api.ErrSector
	case c.kind != 0 && p.rises(c):
		return api.ErrErase
	case p.steps == p.goes:
		p.isGone = true
		return api.ErrCut
	}
	p.steps++
	if c.kind == 0 {
		for i := range 1024 {
			p.bytes[c.sector*1024+i] = 255
		}
		for w := range 256 {
			delete(p.written, [2]int{c.sector, w})
		}
		return api.OK
	}
	copy(p.bytes[c.sector*1024+c.word*4:], c.b[:])
	p.written[[2]int{c.sector, c.word}] = c.b
	return api.OK
}

// rises: is there a bit that is 1 where there is 0?
func (p *plain) rises(c call) bool {
	for i := range 32 {
		bit := byte(1) << (i % 8)
		if c.b[i/8]&bit != 0 && p.bytes[c.sector*1024+c.word*4+i/8]&bit == 0 {
			return true
		}
	}
	return false
}

func TestThrownRows(t *testing.T) { // P5.2, P5.3, P5.5
	for seed := range 60 {
		d, p, f := dice(seed), newPlain(), made(t, 3)
		for i := range 400 {
			c := d.call(true)
			if got, want := c.do(f), p.do(c); got != want {
				t.Fatalf("seed %d, call %d, %v: %d, want %d", seed, i, c, got, want)
			}
			if f.Off() != p.isGone || f.Steps() != p.steps || f.Sectors() != 3 {
				t.Fatalf("seed %d, call %d: off %t, %d steps", seed, i, f.Off(), f.Steps())
			}
			if i%10 == 0 && look(t, f).bytes != string(p.bytes[:]) {
				t.Fatalf("seed %d, call %d: other bytes", seed, i)
			}
			if i%30 == 0 { // go on with a copy: it must be the same in all
				f = f.Copy()
			}
		}
		f.On()
		for w := range 3 * 256 {
			want, ok := p.written[[2]int{w / 256, w % 256}]
			if !ok {
				want = ones
			}
			word(t, f, w/256, w%256, want)
		}
	}
}

// Of two with the same calls, one of which is armed, all is the same up to the step at which the power goes; from there on that one stands.
func TestSameUpToTheCut(t *testing.T) { // P5.5
	for seed := range 30 {
		for _, after := range []int{0, 1, 2, 5, 30} {
			d, a, b := dice(seed), made(t, 3), made(t, 3)
			b.Cut(after)
			for range 400 {
				c := d.call(false)
				want := look(t, a).bytes
				errno := c.do(a)
				if got := c.do(b); got != errno {
					if got != api.ErrCut || errno != api.OK || a.Steps() != int64(after+1) || b.Steps() != int64(after) || !b.Off() {
						t.Fatalf("seed %d, Cut(%d), %v: %d, not %d; %d steps", seed, after, c, got, errno, b.Steps())
					}
					if look(t, b).bytes != want {
						t.Fatalf("seed %d, Cut(%d), %v: a step that is not done has changed something", seed, after, c)
					}
					break
				}
				if b.Off() || look(t, a).bytes != look(t, b).bytes || a.Steps() != b.Steps() {
					t.Fatalf("seed %d, Cut(%d), %v: not the same", seed, after, c)
				}
			}
			if !b.Off() {
				t.Fatalf("seed %d, Cut(%d): the power has not gone", seed, after)
			}
		}
	}
}

// Without an erasing each word's bits only fall.
func TestThrownBitsFall(t *testing.T) { // P5.5
	for seed := range 20 {
		d, f := dice(seed), made(t, 3)
		before := look(t, f).bytes
		for range 200 {
			c := d.call(true)
			if c.kind == 0 {
				continue
			}
			c.do(f)
			now := look(t, f).bytes
			for i := range now {
				if now[i]&^before[i] != 0 {
					t.Fatalf("seed %d, %v: byte %d from %d to %d", seed, c, i, before[i], now[i])
				}
			}
			before = now
		}
	}
}
