package bank

import (
	"bytes"
	"math"
	"testing"

	"campanile/api"
	"campanile/flash"
	"campanile/journal"
)

// kept tells a flash of 6 sectors in which bytes are kept as a pair's state, the programs one and two standing in the banks.
func kept(t *testing.T, b []byte) *flash.Flash {
	t.Helper()
	f, _ := flash.New(6)
	for n, text := range []string{"one ", "two."} {
		if errno := f.Write(2+2*n, 0, [4]byte([]byte(text))); errno != api.OK {
			t.Fatalf("Write: %d", errno)
		}
	}
	j, _ := journal.Open(f, 0, ledgerSectors)
	if errno := j.Store(group, b); errno != api.OK {
		t.Fatalf("Store: %d", errno)
	}
	return f
}

// both is the state in which the second one runs.
func both(version uint32) state {
	return state{bank: 1, version: version, programs: [2][]byte{[]byte("one"), []byte("two.")}}
}

// changed tells a state's bytes, one of which is another.
func changed(at int, x byte) []byte {
	b := both(7).encoded()
	b[at] = x
	return b
}

// States that are kept in a right journal, but which no call of a pair keeps: nothing that they say may do harm.
func TestStatesByHand(t *testing.T) { // P7.5
	for name, c := range map[string]struct {
		kept              []byte
		running, previous string
	}{
		"a right one":                     {both(7).encoded(), "two.", "one"},
		"the other one runs":              {changed(0, 0), "one", "two."},
		"the bank 2":                      {changed(0, 2), "", ""},
		"the bank 255":                    {changed(0, 255), "", ""},
		"no bytes":                        {nil, "", ""},
		"too few bytes":                   {both(7).encoded()[:keptSize-1], "", ""},
		"too many bytes":                  {append(both(7).encoded(), 0), "", ""},
		"4 bytes of another length":       {changed(programsAt, 4), "two.", ""},
		"a previous one of no bytes":      {changed(programsAt, 0), "two.", ""},
		"a previous one of another check": {changed(programsAt+2, 0), "two.", ""},
		"a previous one past the room":    {changed(programsAt+1, 8), "two.", ""},
		"a previous one far past it":      {changed(programsAt+1, 255), "two.", ""},
		"a running one of no bytes":       {changed(programsAt+eachSize, 0), "", ""},
		"a running one of another check":  {changed(programsAt+eachSize+3, 0), "", ""},
		"a running one past the room":     {changed(programsAt+eachSize+1, 255), "", ""},
		"all bytes 255":                   {bytes.Repeat([]byte{255}, keptSize), "", ""},
		"all bytes 0":                     {make([]byte, keptSize), "", ""},
	} {
		p, errno := Open(kept(t, c.kept), 0, 6)
		if errno != api.OK {
			t.Errorf("%s: %d", name, errno)
			continue
		}
		n, running, runs := p.Running()
		previous, goes := p.Previous()
		if string(running) != c.running || runs != (c.running != "") || string(previous) != c.previous || goes != (c.previous != "") {
			t.Errorf("%s: %q, %t, previous %q, %t", name, running, runs, previous, goes)
		}
		to := 0
		if runs {
			to = 1 - n
		}
		for i := range 4 {
			b := bytes.Repeat([]byte{byte(i)}, 2048)
			if p.Begin(len(b), sum(b)) != api.OK || p.Put(b) != api.OK || p.Commit() != api.OK {
				t.Errorf("%s: it can't be laid", name)
			}
			if n, got, _ := p.Running(); n != to || !bytes.Equal(got, b) {
				t.Errorf("%s: the bank %d, want %d", name, n, to)
			}
			to = 1 - to
		}
	}
}

// A program that would reach past its bank is none, though the check of all that stands there holds.
func TestProgramPastTheRoom(t *testing.T) { // P7.5
	for past := range 3 {
		f := kept(t, nil)
		var all []byte
		for x := range (bank{f, 2, 2}).bytes(2048 + past) {
			all = append(all, x)
		}
		p, _ := Open(kept(t, state{programs: [2][]byte{all, nil}}.encoded()), 0, 6)
		if _, b, runs := p.Running(); runs != (past == 0) || runs && !bytes.Equal(b, all) {
			t.Errorf("%d past the room: %d bytes, %t", past, len(b), runs)
		}
	}
}

// The version goes round.
func TestVersionGoesRound(t *testing.T) { // P7.2
	for _, version := range []uint32{0xFF, 0xFFFF, 0xFFFFFF, 0x12345678, math.MaxUint32 - 1, math.MaxUint32} {
		f := kept(t, both(version).encoded())
		p, _ := Open(f, 0, 6)
		if p.Version() != version {
			t.Errorf("version %d, want %d", p.Version(), version)
		}
		if errno := p.Back(); errno != api.OK || p.Version() != version+1 {
			t.Errorf("Back: %d, version %d behind %d", errno, p.Version(), version)
		}
		b := []byte("more")
		if p.Begin(len(b), sum(b)) != api.OK || p.Put(b) != api.OK || p.Version() != version+1 || p.Commit() != api.OK {
			t.Error("it can't be laid")
		}
		again, _ := Open(f, 0, 6)
		if p.Version() != version+2 || again.Version() != version+2 {
			t.Errorf("version %d, then %d, behind %d and two more", p.Version(), again.Version(), version)
		}
	}
}

// What is told of a program's bytes ends when it is left, and can be gone over again.
func TestBytesLeftEarly(t *testing.T) { // the section 'Ways'
	f := kept(t, nil)
	f.Write(2, 1, [4]byte{'a', 'b', 'c', 'd'})
	of, want := bank{f, 2, 2}, "one abcd"
	for size := range len(want) + 1 {
		all := of.bytes(size)
		for most := range len(want) + 2 {
			var got []byte
			for x := range all {
				if len(got) == most {
					break
				}
				got = append(got, x)
			}
			if string(got) != want[:min(size, most)] {
				t.Errorf("%d of %d bytes: %q", most, size, got)
			}
		}
	}
	if _, ok := of.program(0, 0); ok {
		t.Error("a program of no bytes is told")
	}
	f.Cut(0)
	f.Erase(0)
	for range of.bytes(8) {
		t.Error("a byte is told without power")
	}
	if _, ok := of.program(1, 0); ok {
		t.Error("a program is told without power")
	}
}
