package server_test

import (
	"testing"

	"campanile/api"
	"campanile/dict"
	"campanile/server"
)

// What a server may wait for.
const (
	nothing = iota
	part
	more
	segments
	putEnd
	getStart
	ack
	getEnd
)

const twenty = "a text of twenty one"

// state is one that a server may be in.
type state struct {
	name  string
	waits int
	place string   // of what is under way, in hex
	lines []string // how it comes to that
	goes  string   // how it goes on from there, and from nowhere else
}

// states tells one or two of each kind.
func states() []state {
	const (
		writes  = "20 0220 00 00000000 > 60 0220 00 00000000"
		seven   = "00 61626364656667 > 20 0000 00 00000000"
		reads   = "40 0220 00 00000000 > 41 0220 00 14000000"
		first   = "60 0000 00 00000000 > 00 61207465787420"
		puts    = "C0 0220 00 00000000 > A0 0220 00 7F000000"
		segment = "01 61626364656667 >"
		last    = "81 61626364656667 > A2 017F 00 00000000"
		gets    = "A0 0220 00 02000000 > C2 0220 00 14000000"
		starts  = "A3 0000 00 00000000 > 01 61207465787420, 02 6F66207477656E"
		behind  = "A2 0202 00 00000000 > 81 7479206F6E6500"
		all     = "A2 017F 00 00000000 > C5 0000 00 00000000"
	)
	return []state{
		{"nothing", nothing, "0000 00", nil, "60 0000 00 00000000 > 80 0000 00 01000405"},
		{"Part", part, "0220 00", []string{writes}, seven},
		{"Part, its toggle turned", part, "0220 00", []string{writes, seven}, "11 68696A6B6C6D6E > 30 0000 00 00000000"},
		{"More", more, "0220 00", []string{reads}, first},
		{"More, its toggle turned", more, "0220 00", []string{reads, first}, "70 0000 00 00000000 > 10 6F66207477656E"},
		{"segments", segments, "0220 00", []string{puts}, last},
		{"segments, one of which came", segments, "0220 00", []string{puts, segment}, "82 68696A6B6C6D6E > A2 027F 00 00000000"},
		{"PutEnd", putEnd, "0220 00", []string{puts, last}, "C1 0000 00 00000000 > A1 0000 00 00000000"},
		{"GetStart", getStart, "0220 00", []string{gets}, starts},
		{"Ack", ack, "0220 00", []string{gets, starts}, behind},
		{"Ack of the last ones", ack, "0220 00", []string{gets, starts, behind}, all},
		{"GetEnd", getEnd, "0220 00", []string{gets, starts, behind, all}, "A1 0000 00 00000000 >"},
	}
}

// reached makes a server that is in the state since the time 0.
func (x state) reached(t *testing.T) (*server.Server, *dict.Dict) {
	t.Helper()
	s, d := made(t)
	talk(t, s, x.lines...)
	return s, d
}

// still: is the server in the state? (It is no longer, then.)
func (x state) still(t *testing.T, s *server.Server) {
	t.Helper()
	if x.waits == nothing {
		idle(t, s)
	} else {
		busy(t, s, text)
	}
	talk(t, s, x.goes)
}

// stopsBy: in that state it stops by these bytes with AbCommand, and nothing is written.
func (x state) stopsBy(t *testing.T, heard string) {
	t.Helper()
	s, d := x.reached(t)
	before := d.Changes()
	talk(t, s, heard+" > 80 "+x.place+" 01000405")
	idle(t, s)
	if d.Changes() != before {
		t.Errorf("%s: %s wrote", x.name, heard)
	}
}

func TestStates(t *testing.T) { // P10.2: each row, when it is waited for
	for _, x := range states() {
		s, _ := x.reached(t)
		x.still(t, s)
	}
}

func TestCommandsThatAreNotWaitedFor(t *testing.T) { // P10.2
	commands := []struct {
		kind  int
		heard []string
	}{
		{part, []string{"00 61626364656667", "10 61626364656667", "01 61626364656667", "0D 61000000000000", "0F 00000000000000", "1F 00000000000000"}},
		{more, []string{"60 0000 00 00000000", "70 0000 00 00000000"}},
		{putEnd, []string{"C1 0000 00 00000000", "C5 0000 00 00000000", "DD 1234 00 00000000"}},
		{getStart, []string{"A3 0000 00 00000000"}},
		{ack, []string{"A2 0001 00 00000000", "A2 017F 00 00000000", "A2 7F01 00 00000000"}},
		{getEnd, []string{"A1 0000 00 00000000"}},
	}
	for _, x := range states() {
		for _, c := range commands {
			if c.kind == x.waits || x.waits == segments {
				continue
			}
			for _, heard := range c.heard {
				x.stopsBy(t, heard)
			}
		}
	}
}

// What is always heard does the same, whatever was under way, and that is no more.
func TestCommandsAmidATransfer(t *testing.T) { // P10.2
	for _, x := range states() {
		for _, c := range []struct {
			line  string
			under api.Place // the place that is busy then
			then  string    // a line that tells what is waited for
			one   string    // the value of 2000 sub 1
		}{
			{"2F 0020 01 07000000 > 60 0020 01 00000000", api.Place{}, "60 0000 00 00000000 > 80 0000 00 01000405", "\x07"},
			{"2F 0020 01 0A000000 > 80 0020 01 31000906", api.Place{}, "60 0000 00 00000000 > 80 0000 00 01000405", "\x05"},
			{"2F 0120 01 0A000000 > 80 0120 01 00000206", api.Place{}, "A3 0000 00 00000000 > 80 0000 00 01000405", "\x05"},
			{"21 0020 01 01000000 > 60 0020 01 00000000", one, "0D 08000000000000 > 20 0000 00 00000000", "\x08"},
			{"20 0020 00 00000000 > 80 0020 00 02000106", api.Place{}, "01 61626364656667 > 80 0000 00 01000405", "\x05"},
			{"40 0020 01 00000000 > 4F 0020 01 05000000", api.Place{}, "60 0000 00 00000000 > 80 0000 00 01000405", "\x05"},
			{"40 0420 01 00000000 > 41 0420 01 08000000", at(0x2004, 1), "60 0000 00 00000000 > 00 01020304050607", "\x05"},
			{"40 0420 02 00000000 > 80 0420 02 01000106", api.Place{}, "60 0000 00 00000000 > 80 0000 00 01000405", "\x05"},
			{"C6 0020 01 01000000 > A4 0020 01 7F000000", one, "81 08000000000000 > A2 017F 00 00000000", "\x05"},
			{"C0 0020 00 00000000 > 80 0020 00 02000106", api.Place{}, "81 08000000000000 > 80 0000 00 01000405", "\x05"},
			{"A4 0420 01 01000000 > C6 0420 01 08000000", at(0x2004, 1), "A3 0000 00 00000000 > 01 01020304050607", "\x05"},
			{"A4 0420 02 01000000 > 80 0420 02 01000106", api.Place{}, "A3 0000 00 00000000 > 80 0000 00 01000405", "\x05"},
			{"80 0220 00 00000000 >", api.Place{}, "60 0000 00 00000000 > 80 0000 00 01000405", "\x05"},
			{"80 0000 00 00000405 >", api.Place{}, "C1 0000 00 00000000 > 80 0000 00 01000405", "\x05"},
			{"80 FFFF FF FFFFFFFF >", api.Place{}, "A3 0000 00 00000000 > 80 0000 00 01000405", "\x05"},
		} {
			if x.waits == segments && c.line[:2] != "80" {
				continue // there all bytes but 80 are a segment
			}
			s, d := x.reached(t)
			talk(t, s, c.line)
			if c.under == (api.Place{}) {
				idle(t, s)
			} else {
				busy(t, s, c.under)
			}
			talk(t, s, c.then)
			has(t, d, one, c.one)
			has(t, d, text, twenty)
		}
	}
}

// A transfer that begins amid one like it begins from the beginning: nothing is left of the one ahead of it.
func TestBeginningAgain(t *testing.T) { // P10.2
	s, d := made(t)
	talk(t, s,
		"21 0220 00 09000000 > 60 0220 00 00000000",
		"00 61626364656667 > 20 0000 00 00000000",
		"20 0220 00 00000000 > 60 0220 00 00000000", // no toggle, no bytes, no size
		"0D 7A000000000000 > 20 0000 00 00000000")
	has(t, d, text, "z")
	talk(t, s,
		"C4 0220 00 00000000 > A4 0220 00 7F000000",
		"81 61626364656667 > A2 017F 00 00000000",
		"C0 0220 00 00000000 > A0 0220 00 7F000000", // no bytes, no check
		"81 68696A6B6C6D6E > A2 017F 00 00000000",
		"C5 1234 00 00000000 > A1 0000 00 00000000")
	has(t, d, text, "hijklm")
	talk(t, s,
		"A4 0420 01 01000000 > C6 0420 01 08000000",
		"A3 0000 00 00000000 > 01 01020304050607",
		"A2 0101 00 00000000 > 81 08000000000000",
		"A0 0420 01 01000000 > C2 0420 01 08000000",
		"A3 0000 00 00000000 > 01 01020304050607",
		"A2 017F 00 00000000 > 81 08000000000000",
		"A2 017F 00 00000000 > D9 0000 00 00000000", // no check
		"40 0420 01 00000000 > 41 0420 01 08000000",
		"60 0000 00 00000000 > 00 01020304050607",
		"40 0420 01 00000000 > 41 0420 01 08000000",
		"60 0000 00 00000000 > 00 01020304050607",
		"70 0000 00 00000000 > 1D 08000000000000")
	idle(t, s)
}

func TestReset(t *testing.T) { // P10.3
	for _, x := range states() {
		s, d := x.reached(t)
		s.Reset()
		idle(t, s)
		if said := s.Tick(api.MaxTime); len(said) != 0 {
			t.Errorf("%s: behind Reset it says %s", x.name, texts(said))
		}
		talk(t, s, "00 61626364656667 > 80 0000 00 01000405")
		talk(t, s, "40 0020 01 00000000 > 4F 0020 01 05000000")
		has(t, d, text, twenty)
	}
}

func TestBusy(t *testing.T) { // P10.3
	for _, x := range states() {
		s, _ := x.reached(t)
		for range 2 { // asking changes nothing
			if x.waits == nothing {
				idle(t, s)
			} else {
				busy(t, s, text)
			}
		}
		x.still(t, s)
	}
}
