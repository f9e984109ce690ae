package state_test

import (
	"fmt"
	"testing"

	"campanile/api"
	"campanile/frame"
	"campanile/state"
)

// dice tells numbers that look thrown and are the same at each run.
type dice uint64

func (d *dice) roll(n int) int {
	*d = *d*6364136223846793005 + 1442695040888963407
	return int(uint64(*d>>33) % uint64(n))
}

// pick tells one of some.
func pick[T any](d *dice, l ...T) T { return l[d.roll(len(l))] }

// plain is a machine by the chapter's words: it keeps what it has followed since its last Boot, and whether it has booted since its last reset.
type plain struct {
	address  int
	booted   bool
	followed []string
}

// state tells what the last command that it followed has made of it.
func (p *plain) state() uint8 {
	switch {
	case !p.booted:
		return 0
	case len(p.followed) == 0:
		return 127
	}
	return map[string]uint8{"01": 5, "02": 4, "80": 127}[p.followed[len(p.followed)-1]]
}

func (p *plain) boot() (string, api.Errno) {
	if p.booted {
		return "", api.ErrState
	}
	p.booted, p.followed = true, nil
	return fmt.Sprintf("7%02X#00", p.address), api.OK
}

// hear tells what a frame changes, by its text.
func (p *plain) hear(text string) (state.Change, bool) {
	if !p.booted {
		return state.Change{}, false
	}
	for _, command := range []string{"01", "02", "80", "81", "82"} {
		if text != "000#"+command+"00" && text != fmt.Sprintf("000#%s%02X", command, p.address) {
			continue
		}
		c := state.Change{From: p.state()}
		if p.followed = append(p.followed, command); command > "80" {
			p.booted, p.followed = false, nil
			c.Reset = map[string]uint8{"81": 129, "82": 130}[command]
		}
		c.To = p.state()
		return c, true
	}
	return state.Change{}, false
}

// thrown tells a frame that is thrown: a command for one of a few nodes, or nearly one.
func (d *dice) thrown(address int) api.Frame {
	f := api.Frame{Len: 2, Data: [8]byte{pick(d, commands()...), uint8(pick(d, 0, 0, address, address, address, address^1, address+128))}}
	switch d.roll(20) {
	case 0:
		f.ID = pick(d, uint16(1), 0x700, 0x7FF, 0x80)
	case 1:
		f.Len = d.roll(9)
	case 2:
		f.Data[0] = uint8(d.roll(256))
	case 3:
		f.Data[1] = uint8(d.roll(256))
	case 4:
		f = api.Frame{Len: d.roll(9), Remote: true}
	}
	for f.Len < 2 && !frame.Right(f) { // what is cut off is gone
		f.Data[1] = 0
		if f.Len < 1 {
			f.Data[0] = 0
		}
	}
	return f
}

// Thrown calls are held against the chapter's words.
func TestThrownCalls(t *testing.T) { // P17.2, P17.3, P17.4, P17.6
	booted, from, left := 0, map[[2]uint8]int{}, 0
	for seed := range 300 {
		r := dice(seed)
		p := &plain{address: 1 + r.roll(127)}
		m := machine(t, uint8(p.address))
		for range 200 {
			if r.roll(5) == 0 {
				want, errno := p.boot()
				if errno != api.OK {
					bootsNot(t, m, errno)
				} else {
					boots(t, m, want)
					booted++
				}
			} else {
				f := r.thrown(p.address)
				text, errno := frame.Write(f)
				if errno != api.OK {
					t.Fatalf("%v is no frame", f)
				}
				want, ok := p.hear(text)
				if ok {
					hears(t, m, f, want)
					from[[2]uint8{want.From, f.Data[0]}]++
				} else {
					leaves(t, m, f)
					left++
				}
			}
			is(t, m, p.state())
			if int(m.Address()) != p.address {
				t.Errorf("Address: %d, want %d", m.Address(), p.address)
			}
		}
		if t.Failed() {
			t.Fatalf("seed %d", seed)
		}
	}
	if booted < 1000 || left < 1000 || len(from) != 15 {
		t.Errorf("%d times booted, %d frames left, %d changes", booted, left, len(from))
	}
	for change, n := range from {
		if n < 100 {
			t.Errorf("%v was followed only %d times", change, n)
		}
	}
}

// A node is Operational only by Start, behind its last Boot.
func TestOperationalOnlyByStart(t *testing.T) { // P17.6
	worked := 0
	for seed := range 300 {
		r := dice(1000 + seed)
		m := machine(t, 5)
		started := false // since the last Boot
		for range 200 {
			if r.roll(6) == 0 {
				if _, errno := m.Boot(); errno == api.OK {
					started = false
				}
			} else {
				f := r.thrown(5)
				c, ok := m.Hear(f)
				if f == read(t, "000#0100") || f == read(t, "000#0105") {
					started = started || ok
				} else if c.To == api.Operational {
					t.Errorf("%v leads to Operational", f)
				}
			}
			if m.State() == api.Operational {
				worked++
				if !started {
					t.Error("Operational without Start")
				}
			}
		}
		if t.Failed() {
			t.Fatalf("seed %d", seed)
		}
	}
	if worked < 5000 {
		t.Errorf("only %d times Operational", worked)
	}
}

// All rows of five calls that a node may see.
func TestAllRows(t *testing.T) { // P17.2, P17.3, P17.6
	calls := []string{"", "000#0100", "000#0205", "000#8000", "000#8105", "000#8200", "000#0106", "705#05"} // the first one: Boot
	for row := range 8 * 8 * 8 * 8 * 8 {
		p, m := &plain{address: 5}, machine(t, 5)
		for n, k := row, 0; k < 5; n, k = n/8, k+1 {
			if text := calls[n%8]; text == "" {
				_, want := p.boot()
				if _, errno := m.Boot(); errno != want {
					t.Fatalf("row %d: Boot: %d, want %d", row, errno, want)
				}
			} else {
				want, is := p.hear(text)
				if c, ok := m.Hear(read(t, text)); c != want || ok != is {
					t.Fatalf("row %d: Hear(%s): %v, %t, want %v", row, text, c, ok, want)
				}
			}
			if m.State() != p.state() {
				t.Fatalf("row %d: %x, want %x", row, m.State(), p.state())
			}
		}
	}
}
