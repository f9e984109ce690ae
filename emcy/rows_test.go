package emcy_test

import (
	"fmt"
	"testing"

	"campanile/api"
	"campanile/emcy"
	"campanile/frame"
)

// dice tells numbers that look thrown and are the same at each run.
type dice uint64

func (d *dice) roll(n int) int {
	*d = *d*6364136223846793005 + 1442695040888963407
	return int(uint64(*d>>33) % uint64(n))
}

// pick tells one of some.
func pick[T any](d *dice, l ...T) T { return l[d.roll(len(l))] }

// raised is an error that was raised.
type raised struct {
	code uint16
	bit  uint8
	info [5]byte
}

// plain are errors by the chapter's words: they keep all that was raised, all that came to wait, and all times at which one was told.
type plain struct {
	address uint8
	inhibit int64
	stand   []raised
	all     []raised // since the history was forgotten
	frames  []string // since the last Reset
	told    []int64  // of frames, the first ones have been told
}

func (p *plain) register() uint8 {
	if len(p.stand) == 0 {
		return 0
	}
	var on [8]bool
	on[0] = true
	for _, e := range p.stand {
		on[e.bit] = true
	}
	sum := 0
	for bit, is := range on {
		if is {
			sum += []int{1, 2, 4, 8, 16, 32, 64, 128}[bit]
		}
	}
	return uint8(sum)
}

// place tells where an error stands; -1: it does not.
func (p *plain) place(code uint16) int {
	for i, e := range p.stand {
		if e.code == code {
			return i
		}
	}
	return -1
}

func (p *plain) waiting() int { return len(p.frames) - len(p.told) }

func (p *plain) wait(code uint16, info [5]byte) {
	p.frames = append(p.frames, fmt.Sprintf("%03X#%02X%02X%02X%02X%02X%02X%02X%02X", 128+int(p.address), code%256, code/256, p.register(), info[0], info[1], info[2], info[3], info[4]))
}

func (p *plain) raise(e raised) api.Errno {
	if e.code == 0 || e.bit > 7 {
		return api.ErrArg
	}
	if p.place(e.code) >= 0 {
		return api.ErrTwice
	}
	if len(p.stand) == 16 || p.waiting() == 16 {
		return api.ErrLimit
	}
	p.stand = append(p.stand, e)
	p.all = append(p.all, e)
	p.wait(e.code, e.info)
	return api.OK
}

func (p *plain) clear(code uint16) api.Errno {
	i := p.place(code)
	if i < 0 {
		return api.ErrNone
	}
	if p.waiting() == 16 {
		return api.ErrLimit
	}
	p.stand = append(append([]raised(nil), p.stand[:i]...), p.stand[i+1:]...)
	p.wait(0, none)
	return api.OK
}

func (p *plain) history() []uint32 {
	var l []uint32
	for i := len(p.all) - 1; i >= 0 && len(l) < 16; i-- {
		e := p.all[i]
		l = append(l, uint32(e.code)+65536*uint32(e.info[0])+16777216*uint32(e.info[1]))
	}
	return l
}

func (p *plain) reset() { p.stand, p.frames, p.told = nil, nil, nil }

// tick tells a frame's text.
func (p *plain) tick(now int64) string {
	if now < 0 || now > 1099511627776 || p.waiting() == 0 {
		return ""
	}
	for _, at := range p.told {
		if at > now || now-at < p.inhibit {
			return ""
		}
	}
	p.told = append(p.told, now)
	return p.frames[len(p.told)-1]
}

// shows holds all that errors show against what is to be shown.
func (p *plain) shows(t *testing.T, x *emcy.Errors) {
	t.Helper()
	registers(t, x, p.register())
	histories(t, x, p.history()...)
	switch {
	case p.waiting() == 0:
		neverDue(t, x)
	case len(p.told) == 0:
		due(t, x, 0)
	default:
		due(t, x, p.told[len(p.told)-1]+p.inhibit)
	}
	for _, e := range p.stand {
		stands(t, x, e.code, true)
	}
	for _, code := range []uint16{0, 0x1000, 0x1001, 0x1002, 65535} {
		stands(t, x, code, p.place(code) >= 0)
	}
}

// thrown tells an error that is thrown; few may not be raised.
func (d *dice) thrown() raised {
	e := raised{code: uint16(0x1000 + d.roll(pick(d, 3, 24))), bit: uint8(d.roll(8))}
	if d.roll(30) == 0 {
		e.code = pick(d, uint16(0), 1, 65535)
	}
	if d.roll(30) == 0 {
		e.bit = pick(d, uint8(8), 9, 255)
	}
	for i := range e.info {
		e.info[i] = byte(d.roll(256))
	}
	return e
}

// Thrown calls are held against the chapter's words.
func TestThrownCalls(t *testing.T) { // P16.2, P16.3, P16.4
	answers, told := map[api.Errno]int{}, 0
	for seed := range 400 {
		r := dice(seed)
		p := &plain{address: uint8(1 + r.roll(127)), inhibit: pick(&r, int64(0), 1, 3, 10, 50)}
		x := errorsOf(t, p.address, p.inhibit)
		raises, clears, ticked := 1+r.roll(6), 1+r.roll(6), 1+r.roll(8) // how often each is called
		now := int64(0)
		for range 300 {
			now = max(0, now+int64(pick(&r, 0, 0, 1, 1, 2, 9, -2)))
			switch n := r.roll(raises + clears + ticked); {
			case n < raises:
				e := r.thrown()
				want := p.raise(e)
				if got := x.Raise(e.code, e.bit, e.info); got != want {
					t.Errorf("Raise(%v): %d, want %d", e, got, want)
				}
				answers[want]++
			case n < raises+clears:
				code := r.thrown().code
				want := p.clear(code)
				if got := x.Clear(code); got != want {
					t.Errorf("Clear(%x): %d, want %d", code, got, want)
				}
				answers[want]++
			default:
				when := now
				if r.roll(50) == 0 {
					when = pick(&r, -1, 0, int64(api.MaxTime+1))
				}
				text := p.tick(when)
				ticks(t, x, when, text)
				told += min(1, len(text))
			}
			switch r.roll(200) {
			case 0:
				p.all = nil
				x.Forget()
			case 1:
				p.reset()
				x.Reset()
			}
			p.shows(t, x)
		}
		if t.Failed() {
			t.Fatalf("seed %d", seed)
		}
	}
	for _, errno := range []api.Errno{api.OK, api.ErrArg, api.ErrTwice, api.ErrLimit, api.ErrNone} {
		if answers[errno] < 1000 {
			t.Errorf("%d was answered only %d times", errno, answers[errno])
		}
	}
	if told < 10000 {
		t.Errorf("only %d frames were told", told)
	}
}

// Who reads all frames of a node that waits for none knows its register; and between two lie at least inhibit ticks.
func TestWhoReadsAll(t *testing.T) { // P16.6
	known := 0
	for seed := range 300 {
		r := dice(1000 + seed)
		address, inhibit := uint8(1+r.roll(127)), pick(&r, int64(0), 1, 5, 20)
		x := errorsOf(t, address, inhibit)
		register, last := uint8(0), -inhibit
		for now := range int64(400) {
			if e := r.thrown(); r.roll(4) == 0 && (now < 200 || r.roll(8) == 0) {
				x.Raise(e.code, e.bit, e.info)
			} else if r.roll(3) == 0 {
				x.Clear(e.code)
			}
			if f, ok := x.Tick(now); ok {
				a, _, read, _, is := emcy.Read(f)
				if !is || a != address || !frame.Right(f) {
					t.Errorf("%v is no error of %d", f, address)
				}
				if now-last < inhibit {
					t.Errorf("told at %d and at %d, inhibit %d", last, now, inhibit)
				}
				register, last = read, now
			}
			if _, waits := x.Due(); !waits {
				registers(t, x, register)
				known++
			}
		}
		if t.Failed() {
			t.Fatalf("seed %d", seed)
		}
	}
	if known < 10000 {
		t.Errorf("the register was known only %d times", known)
	}
}

// The history has what was raised, the newest first, whether it stands or not.
func TestHistoryIsWhatWasRaised(t *testing.T) { // P16.6
	for seed := range 100 {
		r := dice(2000 + seed)
		x := errorsOf(t, 9, 0)
		var want []uint32
		for now := range int64(300) {
			e := r.thrown()
			if r.roll(2) == 0 {
				if x.Raise(e.code, e.bit, e.info) == api.OK {
					want = append([]uint32{uint32(e.info[1])<<24 + uint32(e.info[0])<<16 + uint32(e.code)}, want[:min(15, len(want))]...)
				}
			} else {
				x.Clear(e.code)
			}
			x.Tick(now)
			histories(t, x, want...)
		}
		if len(want) < 16 || t.Failed() {
			t.Fatalf("seed %d: %d fields", seed, len(want))
		}
	}
}
