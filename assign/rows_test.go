package assign_test

import (
	"encoding/binary"
	"encoding/hex"
	"fmt"
	"slices"
	"strings"
	"testing"

	"campanile/api"
	"campanile/assign"
	"campanile/frame"
)

// dice tells numbers that look thrown and are the same at each run.
type dice uint64

func (d *dice) roll(n int) int {
	*d = *d*6364136223846793005 + 1442695040888963407
	return int(uint64(*d>>33) % uint64(n))
}

// pick tells one of some.
func pick[T any](d *dice, l ...T) T { return l[d.roll(len(l))] }

// identity tells one of any four numbers.
func (d *dice) identity() api.Identity {
	var id api.Identity
	for k := range id {
		id[k] = uint32(d.roll(1<<16))<<16 | uint32(d.roll(1<<16))
	}
	return id
}

// plain is a node by the chapter's words: what it has, which choices it has heard, and which places it was led to, since its last reset.
type plain struct {
	id             api.Identity
	parts          []string // the four right choices
	address, speed [2]int   // now, next
	configured     bool
	wants          bool
	choices        []string
	places         []int
}

func newPlain(id api.Identity, address, speed int) *plain {
	p := &plain{id: id, address: [2]int{address, address}, speed: [2]int{speed, speed}}
	for k, number := range id {
		p.parts = append(p.parts, choice(k, number))
	}
	return p
}

// right tells how many parts are: as many as the last choices are the first parts.
func (p *plain) right() int {
	for count := 4; count > 0; count-- {
		if len(p.choices) >= count && slices.Equal(p.parts[:count], p.choices[len(p.choices)-count:]) {
			return count
		}
	}
	return 0
}

func (p *plain) place() int {
	if len(p.places) == 0 {
		return 0
	}
	return p.places[len(p.places)-1]
}

// hear tells the digits of what is answered to a frame, by its text; none: "".
func (p *plain) hear(text string) string {
	if len(text) != 20 || text[:4] != "7E5#" {
		return ""
	}
	d, _ := hex.DecodeString(text[6:])
	switch command := text[4:6]; command {
	case "04":
		if d[0] < 2 {
			p.configured = d[0] == 1
		}
	case "40", "41", "42", "43":
		if !p.configured {
			return p.choose(text[4:14])
		}
	case "51":
		return p.search(binary.LittleEndian.Uint32(d), int(d[4]), int(d[5]), int(d[6]))
	default:
		if p.configured {
			return p.told(command, d)
		}
	}
	return ""
}

func (p *plain) choose(text string) string {
	p.choices = append(p.choices, text)
	if p.right() == 4 {
		p.configured, p.choices = true, nil
		return full("44")
	}
	return ""
}

// told is what one that is configured answers.
func (p *plain) told(command string, d []byte) string {
	switch command {
	case "11":
		if a := int(d[0]); a == 0 || a > 127 && a < 255 {
			return full("1101")
		}
		p.address[1] = int(d[0])
		return full("1100")
	case "13":
		if d[0] != 0 || d[1] > 8 {
			return full("1301")
		}
		p.speed[1] = int(d[1])
		return full("1300")
	case "17":
		p.wants = true
	case "5A", "5B", "5C", "5D":
		return full(command + digits(p.id[command[1]-'A']))
	case "5E":
		return full(fmt.Sprintf("5E%02X", p.address[0]))
	}
	return ""
}

func (p *plain) search(number uint32, bits, sub, next int) string {
	if bits == 128 {
		p.configured = false
	}
	if p.configured || p.address != [2]int{255, 255} {
		return ""
	}
	if bits == 128 {
		p.places = nil
		return full("4F")
	}
	if bits > 31 || sub != p.place() || sub > 3 || uint64(number)/(1<<bits) != uint64(p.id[sub])/(1<<bits) {
		return ""
	}
	if bits == 0 {
		p.places = append(p.places, next)
		if sub == 3 && next == 0 {
			p.configured = true
		}
	}
	return full("4F")
}

// kept tells the digits of what Kept answers; none: "".
func (p *plain) kept(ok bool) string {
	if !p.wants {
		return ""
	}
	p.wants = false
	if ok {
		return full("1700")
	}
	return full("1702")
}

func (p *plain) reset() {
	p.address[0], p.speed[0] = p.address[1], p.speed[1]
	p.configured, p.wants, p.choices, p.places = false, false, nil, nil
}

// shows holds all that a node shows.
func (p *plain) shows(t *testing.T, n *assign.Node) {
	t.Helper()
	addresses(t, n, uint8(p.address[0]), uint8(p.address[1]))
	speeds(t, n, uint8(p.speed[0]), uint8(p.speed[1]))
	waits(t, n, !p.configured)
	wants(t, n, p.wants)
}

// follows holds what a frame does to a node.
func (p *plain) follows(t *testing.T, n *assign.Node, f api.Frame) string {
	t.Helper()
	text, errno := frame.Write(f)
	if errno != api.OK {
		t.Fatalf("%v is no frame", f)
	}
	want := p.hear(text)
	answer, ok := n.Hear(f)
	told := ""
	if ok {
		told, errno = frame.Write(answer)
		told = strings.TrimPrefix(told, "7E4#")
	}
	if told != want || errno != api.OK || !ok && answer != (api.Frame{}) {
		t.Errorf("Hear of %s: %v, %t, want %s", text, answer, ok, want)
	}
	p.shows(t, n)
	return want
}

// ask tells one that is thrown, of which the next one of a choice or a search is often the right one; some throw more choices, some more searches.
func (d *dice) ask(p *plain, searches bool) string {
	switch kind := d.roll(12); {
	case kind < 5 && searches:
		return d.search(p)
	case kind < 5:
		k := pick(d, p.right()%4, p.right()%4, p.right()%4, p.right()%4, d.roll(4))
		return choice(k, p.id[k]^uint32(pick(d, 0, 0, 0, 0, 0, 0, 0, 0, 1, 1<<31)))
	case kind == 5:
		return d.search(p)
	case kind == 6:
		return fmt.Sprintf("04%02X", pick(d, 0, 0, 1, 1, 2, 255))
	case kind == 7:
		return fmt.Sprintf("11%02X", pick(d, 0, 1, 5, 127, 128, 254, 255, 255, 255, 255))
	case kind == 8:
		return fmt.Sprintf("13%02X%02X", pick(d, 0, 0, 0, 1, 255), pick(d, 0, 3, 8, 9))
	case kind == 9:
		return fmt.Sprintf("%02X", pick(d, 0x17, 0x17, 0x5A, 0x5B, 0x5C, 0x5D, 0x5E, 0x5E))
	case kind == 10:
		return fmt.Sprintf("%02X%02X", d.roll(256), d.roll(256))
	}
	return choice(d.roll(4), p.id[d.roll(4)])
}

func (d *dice) search(p *plain) string {
	bits := pick(d, 0, 0, 0, 0, 0, 1, 5, 31, 32, 127, 128, d.roll(256))
	sub := pick(d, p.place(), p.place(), p.place(), p.place(), p.place(), d.roll(5))
	number := p.id[sub%4] ^ pick(d, 0, 0, 0, 0, uint32(1)<<(bits%32), uint32(1)<<(bits%32)>>1)
	next := pick(d, (sub+1)%4, (sub+1)%4, (sub+1)%4, (sub+1)%4, 0, d.roll(256))
	return searched(number, uint8(bits), uint8(sub), uint8(next))
}

// asked tells the frame of one that is thrown, now and then with bytes behind, or nearly none.
func (d *dice) asked(t *testing.T, p *plain, searches bool) api.Frame {
	t.Helper()
	f := asks(t, d.ask(p, searches))
	switch d.roll(40) {
	case 0:
		f.ID = pick(d, uint16(0x7E4), 0x7E6, 0x605, 0)
	case 1:
		f.Len = 7
		f.Data[7] = 0
	case 2:
		f = api.Frame{ID: f.ID, Len: 8, Remote: true}
	case 3, 4, 5:
		f.Data[7] = uint8(d.roll(256))
	}
	return f
}

// Thrown calls are held against the chapter's words.
func TestThrownCalls(t *testing.T) { // P19.1 to P19.5
	told, chosen, found, kept, resets := map[string]int{}, 0, 0, 0, 0
	for seed := range 1000 {
		r := dice(seed)
		id := r.identity()
		address, speed := pick(&r, 255, 255, 1, 127), r.roll(9)
		p, n := newPlain(id, address, speed), node(t, id, uint8(address), uint8(speed))
		for range 300 {
			switch r.roll(40) {
			case 0:
				p.reset()
				n.Reset()
				resets++
			case 1, 2:
				ok := r.roll(2) == 0
				if want := p.kept(ok); want == "" {
					keepsNot(t, n)
				} else {
					keeps(t, n, ok, want)
					kept++
				}
			default:
				was := p.configured
				want := p.follows(t, n, r.asked(t, p, seed%2 == 0))
				if want != "" {
					told[want[:4]]++
				}
				switch {
				case want == full("44"):
					chosen++
				case want == full("4F") && !was && p.configured:
					found++
				}
			}
			p.shows(t, n)
		}
		if t.Failed() {
			t.Fatalf("seed %d", seed)
		}
	}
	for _, want := range []string{"4400", "4F00", "1100", "1101", "1300", "1301", "5EFF", "5E05"} {
		if told[want] < 100 {
			t.Errorf("%s.. was told only %d times", want, told[want])
		}
	}
	if chosen < 300 || found < 100 || kept < 500 || resets < 1000 {
		t.Errorf("%d times chosen, %d times found, %d times kept, %d resets", chosen, found, kept, resets)
	}
}

// hold holds all rows of so many calls out of some: asks, or "reset".
func hold(t *testing.T, length, address int, calls ...string) {
	t.Helper()
	frames := make([]api.Frame, len(calls))
	for i, call := range calls {
		if call != "reset" {
			frames[i] = asks(t, call)
		}
	}
	rows := 1
	for range length {
		rows *= len(calls)
	}
	for row := range rows {
		p, n := newPlain(identity(), address, 0), waiting(t, uint8(address))
		for k, at := 0, row; k < length; k, at = k+1, at/len(calls) {
			if i := at % len(calls); calls[i] == "reset" {
				p.reset()
				n.Reset()
			} else {
				p.follows(t, n, frames[i])
			}
		}
		if t.Failed() {
			t.Fatalf("row %d", row)
		}
	}
}

// All rows of six asks of choices, and of what may come between.
func TestAllRowsOfChoices(t *testing.T) { // P19.2, P19.5
	hold(t, 6, none, rightChoice(0), rightChoice(1), rightChoice(2), rightChoice(3), wrongChoice(0), "0400", "0401")
}

// All rows of five asks of searches, and of what may come between.
func TestAllRowsOfSearches(t *testing.T) { // P19.2, P19.5
	id := identity()
	hold(t, 5, none, searched(0, 128, 0, 0), searched(id[0], 0, 0, 1), searched(id[1], 0, 1, 3), searched(id[3], 0, 3, 0), searched(id[3], 0, 3, 3),
		searched(id[3], 4, 3, 0), searched(id[0]^1, 0, 0, 1), "0401", "11FF", "1105", "reset")
}

// All rows of four asks of one that has an address.
func TestAllRowsOfAddresses(t *testing.T) { // P19.2, P19.3, P19.5
	hold(t, 4, 5, "0400", "0401", "11FF", "1180", "117F", "130003", "130103", "17", "5E", searched(0, 128, 0, 0), "reset")
}

// Only a whole choice, Switch and a whole search configure; what waits keeps what it has.
func TestConfiguredByWhat(t *testing.T) { // P19.5
	by := map[string]int{}
	for seed := range 300 {
		r := dice(9000 + seed)
		id := r.identity()
		p, n := newPlain(id, 255, 0), node(t, id, none, 0)
		last := [4]string{} // choices
		for range 300 {
			if r.roll(40) == 0 {
				n.Reset()
				p.reset()
				last = [4]string{}
				continue
			}
			f := r.asked(t, p, seed%2 == 0)
			text, _ := frame.Write(f)
			was, before := n.Configured(), *n
			p.follows(t, n, f)
			if !was && f.ID == 0x7E5 && f.Len == 8 && f.Data[0]&^3 == 0x40 {
				last = [4]string{last[1], last[2], last[3], text[4:14]}
			}
			if was {
				continue
			}
			oldNow, oldNext := before.Address()
			oldSpeed, oldNextSpeed := before.Speed()
			addresses(t, n, oldNow, oldNext)
			speeds(t, n, oldSpeed, oldNextSpeed)
			wants(t, n, before.Wants())
			if !n.Configured() {
				continue
			}
			switch {
			case f.Data[0] == 0x04 && f.Data[1] == 1:
				by["Switch"]++
			case f.Data[0] == 0x43 && last == [4]string{choice(0, id[0]), choice(1, id[1]), choice(2, id[2]), choice(3, id[3])}:
				by["Choose"]++
			case text == "7E5#"+searched(id[3], 0, 3, 0):
				by["Search"]++
			default:
				t.Errorf("%s configures", text)
			}
		}
		if t.Failed() {
			t.Fatalf("seed %d", seed)
		}
	}
	if by["Switch"] < 500 || by["Choose"] < 200 || by["Search"] < 50 {
		t.Errorf("configured: %v", by)
	}
}
