package client_test

import (
	"fmt"
	"strings"
	"testing"

	"campanile/api"
	"campanile/client"
	"campanile/crc"
)

// What a client may wait for.
const (
	nothing = iota
	write
	part
	read
	more
	put
	ack
	putEnd
	get
	segments
	getEnd
)

// state is one that a client may be in.
type state struct {
	name    string
	waits   int
	isWrite bool
	value   string // that is written
	mode    uint8
	lines   []string // how it comes to that, behind the beginning
	goes    string   // how it goes on from there, and from nowhere else
	data    string   // if it ends by that: what was read
	ends    bool
}

const nine = "abcdefghi"

// nineSum tells the sum of the nine bytes in hex, as commands have it.
func nineSum() string {
	sum := crc.Sum([]byte(nine))
	return fmt.Sprintf("%02X%02X", byte(sum), sum>>8)
}

// states tells one or two of each kind; all are of the text.
func states() []state {
	const (
		written = "60 0220 00 00000000"
		parts   = written + " > 00 61626364656667"
		goesOn  = "20 0000 00 00000000 > 1B 68690000000000"
		sized   = "41 0220 00 09000000 > 60 0000 00 00000000"
		mores   = "00 61626364656667 > 70 0000 00 00000000"
		puts    = "A4 0220 00 7F000000 > 01 61626364656667, 82 68690000000000"
		some    = "A2 017F 00 00000000 > 81 68690000000000"
		gets    = "C6 0220 00 09000000 > A3 0000 00 00000000"
		seg     = "01 61626364656667 >"
		last    = "82 68690000000000 > A2 027F 00 00000000"
	)
	end := "D5 " + nineSum() + " 00 00000000"
	all := "A2 017F 00 00000000 > " + end
	return []state{
		{name: "nothing", waits: nothing, goes: "4F 0220 00 61000000 >"},
		{"Write of one frame", write, true, "z", client.Auto, nil, written + " >", "", true},
		{"Write", write, true, nine, client.Auto, nil, parts, "", false},
		{"Part", part, true, nine, client.Segments, []string{parts}, goesOn, "", false},
		{"Part, the last one", part, true, nine, client.Segments, []string{parts, goesOn}, "30 0000 00 00000000 >", "", true},
		{"Read", read, false, "", client.Auto, nil, sized, "", false},
		{"More", more, false, "", client.Segments, []string{sized}, mores, "", false},
		{"More, its toggle turned", more, false, "", client.Auto, []string{sized, mores}, "1B 68690000000000 >", nine, true},
		{"Put", put, true, nine, client.Blocks, nil, puts, "", false},
		{"Ack", ack, true, nine, client.Blocks, []string{puts}, some, "", false},
		{"Ack of the last one", ack, true, nine, client.Blocks, []string{puts, some}, all, "", false},
		{"PutEnd", putEnd, true, nine, client.Blocks, []string{puts, some, all}, "A1 0000 00 00000000 >", "", true},
		{"Get", get, false, "", client.Blocks, nil, gets, "", false},
		{"segments", segments, false, "", client.Blocks, []string{gets}, "82 68690000000000 > A2 007F 00 00000000", "", false},
		{"segments, one of which came", segments, false, "", client.Blocks, []string{gets, seg}, last, "", false},
		{"GetEnd", getEnd, false, "", client.Blocks, []string{gets, seg, last}, end + " > A1 0000 00 00000000", nine, true},
	}
}

// reached makes a client that is in the state since the time 0.
func (x state) reached(t *testing.T) *client.Client {
	t.Helper()
	c := made(t)
	x.reach(t, c)
	return c
}

// reach brings a client to the state that has nothing under way.
func (x state) reach(t *testing.T, c *client.Client) {
	t.Helper()
	switch {
	case x.waits == nothing:
		return
	case x.isWrite:
		writes(t, c, []byte(x.value), x.mode, first(true, []byte(x.value), x.mode))
	default:
		reads(t, c, x.mode, first(false, nil, x.mode))
	}
	talk(t, c, x.lines...)
}

// plain tells a plain client that is in the state since the time 0.
func (x state) plain(t *testing.T) *plain {
	t.Helper()
	p := &plain{}
	switch {
	case x.waits == nothing:
		return p
	case x.isWrite:
		p.beginWrite(text, []byte(x.value), x.mode, 0)
	default:
		p.beginRead(text, x.mode, 0)
	}
	for _, line := range x.lines {
		heard, _, _ := strings.Cut(line, ">")
		p.hear(answering(t, heard).Data, 0)
	}
	return p
}

// still: is the client in the state? (It is no longer, then.)
func (x state) still(t *testing.T, c *client.Client) {
	t.Helper()
	if x.waits == nothing {
		idle(t, c)
	} else {
		busy(t, c)
	}
	talk(t, c, x.goes)
	switch {
	case x.waits == nothing:
		idle(t, c)
	case x.ends:
		ended(t, c, client.Result{Place: text, Write: x.isWrite, Data: []byte(x.data)})
	default:
		busy(t, c)
	}
}

// stopsBy: in that state it stops by these bytes with AbCommand.
func (x state) stopsBy(t *testing.T, heard string) {
	t.Helper()
	c := x.reached(t)
	talk(t, c, heard+" > 80 0220 00 01000405")
	failed(t, c, x.isWrite, api.AbCommand)
}

func TestStates(t *testing.T) { // P11.3: each row, when it is waited for
	for _, x := range states() {
		x.still(t, x.reached(t))
	}
}

// answers tells of each kind some, of the text where they have a place.
func answers() map[int][]string {
	return map[int][]string{
		write:  {"60 0220 00 00000000"},
		part:   {"20 0000 00 00000000", "30 0000 00 00000000"},
		read:   {"40 0220 00 00000000", "41 0220 00 09000000", "42 0220 00 61626364", "4F 0220 00 61000000", "43 0220 00 61626364"},
		more:   {"00 61626364656667", "10 61626364656667", "01 61626364656667", "0D 61000000000000", "0F 00000000000000", "1F 00000000000000"},
		put:    {"A0 0220 00 7F000000", "A4 0220 00 01000000"},
		ack:    {"A2 0001 00 00000000", "A2 017F 00 00000000", "A2 7F01 00 00000000"},
		putEnd: {"A1 0000 00 00000000"},
		get:    {"C0 0220 00 00000000", "C2 0220 00 09000000", "C4 0220 00 00000000", "C6 0220 00 09000000"},
		getEnd: {"C1 0000 00 00000000", "D5 " + nineSum() + " 00 00000000", "DD 0000 00 00000000"},
	}
}

func TestAnswersThatAreNotWaitedFor(t *testing.T) { // P11.3
	for _, x := range states() {
		if x.waits == nothing || x.waits == segments {
			continue
		}
		for kind, all := range answers() {
			if kind == x.waits {
				continue
			}
			for _, heard := range all {
				x.stopsBy(t, heard)
			}
		}
	}
}

func TestAnswersOfAnotherPlace(t *testing.T) { // P11.3
	for _, x := range states() {
		if x.waits != write && x.waits != read && x.waits != put && x.waits != get {
			continue
		}
		for _, heard := range answers()[x.waits] {
			for _, place := range []string{" 0220 01 ", " 0320 00 ", " 0221 00 ", " 2002 00 ", " 0000 00 ", " FFFF FF "} {
				x.stopsBy(t, strings.Replace(heard, " 0220 00 ", place, 1))
			}
		}
	}
}

// A transfer of the place 0 sub 0 is told apart from others, too; answers without a place are of any.
func TestPlaceOfNoughts(t *testing.T) { // P11.3
	for _, p := range []api.Place{{}, at(0, 1), at(0xFFFF, 0xFF)} {
		c := made(t)
		c.Write(p, []byte("a"), client.Segments, 0)
		place := fmt.Sprintf(" %02X%02X %02X ", byte(p.Index), p.Index>>8, p.Sub)
		talk(t, c, "60"+place+"00000000 > 0D 61000000000000", "20 0000 00 00000000 >")
		ended(t, c, client.Result{Place: p, Write: true})
		c.Read(p, client.Auto, 0)
		talk(t, c, "4F"+place+"61000000 >")
		ended(t, c, client.Result{Place: p, Data: []byte("a")})
	}
}

// A server's Stop ends what is under way, of whatever place it is, and nothing is asked.
func TestStopsOfTheServer(t *testing.T) { // P11.3
	for _, x := range states() {
		for _, place := range []string{"0220 00", "0000 00", "0020 01", "FFFF FF"} {
			for _, s := range []struct {
				digits string
				code   api.Abort
			}{
				{"00000206", api.AbNoEntry}, {"00000405", api.AbTimeout}, {"00000008", api.AbGeneral}, {"22000008", api.AbState},
				{"01000000", 1}, {"00000080", 0x80000000}, {"FFFFFFFF", 0xFFFFFFFF}, {"00000000", api.AbGeneral},
			} {
				c := x.reached(t)
				talk(t, c, "80 "+place+" "+s.digits+" >")
				if x.waits == nothing {
					idle(t, c)
					continue
				}
				failed(t, c, x.isWrite, s.code)
			}
		}
	}
}

func TestStop(t *testing.T) { // P11.4
	for _, x := range states() {
		for _, s := range []struct {
			code   api.Abort
			digits string
			told   api.Abort
		}{
			{0, "00000008", api.AbGeneral}, {api.AbGeneral, "00000008", api.AbGeneral}, {api.AbState, "22000008", api.AbState},
			{1, "01000000", 1}, {0xFFFFFFFF, "FFFFFFFF", 0xFFFFFFFF},
		} {
			c := x.reached(t)
			l := c.Stop(s.code)
			if x.waits == nothing {
				if len(l) != 0 {
					t.Errorf("Stop: %s", texts(l))
				}
				idle(t, c)
				continue
			}
			if texts(l) != inOne("80 0220 00 "+s.digits) {
				t.Errorf("%s: Stop(%X): %s", x.name, s.code, texts(l))
			}
			if l := c.Stop(s.code); len(l) != 0 {
				t.Errorf("%s: Stop again: %s", x.name, texts(l))
			}
			failed(t, c, x.isWrite, s.told)
		}
	}
}

// Asking changes nothing, but that a result is taken.
func TestBusyAndDone(t *testing.T) { // P11.5
	for _, x := range states() {
		c := x.reached(t)
		for range 3 {
			if x.waits == nothing {
				idle(t, c)
			} else {
				busy(t, c)
			}
		}
		x.still(t, c)

		c = x.reached(t)
		c.Stop(api.AbState)
		for range 3 {
			if c.Busy() {
				t.Errorf("%s: busy", x.name)
			}
		}
		if x.waits != nothing {
			failed(t, c, x.isWrite, api.AbState)
		}
		idle(t, c)
	}
}

// Nothing of a transfer is left in the next one, in whatever state it was stopped.
func TestBeginningAgain(t *testing.T) { // P11.2, P11.3
	for _, x := range states() {
		for _, y := range states() {
			c := x.reached(t)
			c.Stop(0)
			y.reach(t, c)
			if y.waits == nothing {
				c.Done()
			}
			y.still(t, c)
		}
	}
	for _, x := range states() {
		for _, y := range states() {
			if x.waits == nothing || y.waits == nothing || !x.ends {
				continue
			}
			c := x.reached(t)
			talk(t, c, x.goes)
			y.reach(t, c)
			y.still(t, c)
		}
	}
}
