package bank

import (
	"campanile/api"
	"campanile/journal"
)

// state is what an opening finds: which programs there are (none has no bytes), in which bank the running one stands (0, if none runs), how often another one ran.
type state struct {
	bank     int
	version  uint32
	programs [2][]byte
}

func (s state) running() []byte { return s.programs[s.bank] }

func (s state) previous() []byte { return s.programs[1-s.bank] }

func (s state) runs() bool { return len(s.running()) > 0 }

func (s state) goesBack() bool { return len(s.previous()) > 0 }

// free tells the bank in which no running program stands.
func (s state) free() int {
	if !s.runs() {
		return 0
	}
	return 1 - s.bank
}

// turnedTo is the state behind a change of the bank that runs.
func (s state) turnedTo(bank int) state {
	s.bank = bank
	s.version++
	return s
}

// What is kept of a state: the bank, the version, and of each bank how many bytes its program has and their check; all of it the lower byte first. The programs' bytes stand in the banks alone.
const (
	versionAt  = 1
	programsAt = 5
	eachSize   = 4
	keptSize   = programsAt + 2*eachSize
)

func (s state) encoded() []byte {
	b := make([]byte, keptSize)
	b[0] = byte(s.bank)
	for i := range programsAt - versionAt {
		b[versionAt+i] = byte(s.version >> (8 * i))
	}
	for n, program := range s.programs {
		of, check := b[programsAt+n*eachSize:], sum(program)
		of[0], of[1] = byte(len(program)), byte(len(program)>>8)
		of[2], of[3] = byte(check), byte(check>>8)
	}
	return b
}

// ledger is the journal in which the state is kept: it changes as a whole, or not at all.
type ledger struct{ *journal.Journal }

// group is the one that holds the state.
const group = 0

// keep makes a state the one that the next opening finds. Groups that are not the pair's stand in sectors that were something else: they would take its room.
func (l ledger) keep(s state) api.Errno {
	for _, g := range l.Groups() {
		if g == group {
			continue
		}
		if errno := l.Restore(g); errno != api.OK {
			return errno
		}
	}
	return l.Store(group, s.encoded())
}

// found tells the state that is kept, with the programs that stand whole in the banks. Without a running one there is no previous one.
func (l ledger) found(banks [2]bank) state {
	b, _ := l.Load(group)
	if len(b) != keptSize || int(b[0]) >= len(banks) {
		return state{}
	}
	s := state{bank: int(b[0])}
	for i := range programsAt - versionAt {
		s.version |= uint32(b[versionAt+i]) << (8 * i)
	}
	for n, in := range banks {
		of := b[programsAt+n*eachSize:]
		size, check := int(of[0])|int(of[1])<<8, uint16(of[2])|uint16(of[3])<<8
		s.programs[n], _ = in.program(size, check)
	}
	if !s.runs() {
		return state{version: s.version}
	}
	return s
}
