package bank_test

import (
	"bytes"
	"math"
	"testing"

	"campanile/api"
	"campanile/bank"
	"campanile/crc"
	"campanile/flash"
)

// made tells a flash of so many sectors.
func made(t *testing.T, sectors int) *flash.Flash {
	t.Helper()
	f, errno := flash.New(sectors)
	if errno != api.OK {
		t.Fatalf("New(%d): %d", sectors, errno)
	}
	return f
}

// opened tells the pair that must be there.
func opened(t *testing.T, f *flash.Flash, first, count int) *bank.Pair {
	t.Helper()
	p, errno := bank.Open(f, first, count)
	if errno != api.OK || p == nil {
		t.Fatalf("Open(%d, %d): %v, %d", first, count, p, errno)
	}
	return p
}

// fresh tells a pair in all sectors of a new flash, and that.
func fresh(t *testing.T, sectors int) (*bank.Pair, *flash.Flash) {
	t.Helper()
	f := made(t, sectors)
	return opened(t, f, 0, sectors), f
}

// is holds an answer against what is wanted.
func is(t *testing.T, what string, got, want api.Errno) {
	t.Helper()
	if got != want {
		t.Errorf("%s: %d, want %d", what, got, want)
	}
}

// showing is what is to be seen of a pair; a program that is not there has no bytes.
type showing struct {
	bank              int
	running, previous string
	version           uint32
}

// brief tells a showing in a message: of a long program its first bytes and how many.
func (s showing) brief() []any {
	short := func(p string) any {
		if len(p) <= 12 {
			return p
		}
		return []any{p[:12], len(p)}
	}
	return []any{s.bank, short(s.running), short(s.previous), s.version}
}

// shown tells what a pair shows, and sees to it that what is not there is told as nothing.
func shown(t *testing.T, p *bank.Pair) showing {
	t.Helper()
	n, running, runs := p.Running()
	previous, goes := p.Previous()
	if n < 0 || n > 1 || !runs && n != 0 || runs != (len(running) > 0) || goes != (len(previous) > 0) || goes && !runs {
		t.Errorf("Running: %d, %d bytes, %t; Previous: %d bytes, %t", n, len(running), runs, len(previous), goes)
	}
	return showing{n, string(running), string(previous), p.Version()}
}

// found tells what an opening finds, by a copy of the flash that has its power.
func found(t *testing.T, f *flash.Flash, first, count int) showing {
	t.Helper()
	c := f.Copy()
	c.On()
	p := opened(t, c, first, count)
	s := shown(t, p)
	is(t, "Put to what was opened", p.Put(nil), api.ErrState)
	is(t, "Commit of what was opened", p.Commit(), api.ErrState)
	return s
}

// shows holds what a pair shows against what is wanted, finds what an opening of the same sectors finds.
func shows(t *testing.T, what string, p *bank.Pair, want showing) {
	t.Helper()
	if got := shown(t, p); got != want {
		t.Errorf("%s: it shows %q, want %q (or other bytes)", what, got.brief(), want.brief())
	}
}

func finds(t *testing.T, what string, f *flash.Flash, first, count int, want showing) {
	t.Helper()
	if got := found(t, f, first, count); got != want {
		t.Errorf("%s: an opening finds %q, want %q (or other bytes)", what, got.brief(), want.brief())
	}
}

// lay begins, puts and commits a program.
func lay(t *testing.T, p *bank.Pair, b []byte) {
	t.Helper()
	is(t, "Begin", p.Begin(len(b), crc.Sum(b)), api.OK)
	is(t, "Put", p.Put(b), api.OK)
	is(t, "Commit", p.Commit(), api.OK)
}

// filled tells so many bytes, unlike those of another salt.
func filled(n int, salt byte) []byte {
	b := make([]byte, n)
	for i := range b {
		b[i] = byte(i)*7 + byte(i>>8) + salt
	}
	return b
}

// dark lets the power go, by a step that is not done.
func dark(f *flash.Flash) {
	f.Cut(0)
	f.Erase(0)
}

func TestOpenRefuses(t *testing.T) { // P7.1
	for _, first := range []int{math.MinInt, -1, 0, 3, math.MaxInt} {
		for _, count := range []int{math.MinInt, 0, 3, 4, math.MaxInt} {
			if p, errno := bank.Open(nil, first, count); p != nil || errno != api.ErrNil {
				t.Errorf("Open(nil, %d, %d): %v, %d", first, count, p, errno)
			}
		}
	}
	wrong := [][2]int{
		{-1, 4}, {-1, 5}, {-2, 8}, {math.MinInt, 4}, {math.MinInt, math.MaxInt},
		{0, 3}, {0, 2}, {0, 0}, {0, -1}, {0, math.MinInt}, {3, 3}, {6, 0}, {7, -1},
		{0, 7}, {1, 6}, {2, 5}, {3, 4}, {6, 4}, {7, 4},
		{math.MaxInt, 4}, {1, math.MaxInt}, {math.MaxInt, math.MaxInt}, {math.MaxInt - 3, 4},
	}
	for _, power := range []bool{true, false} {
		f := made(t, 6)
		if !power {
			dark(f)
		}
		for _, w := range wrong {
			if p, errno := bank.Open(f, w[0], w[1]); p != nil || errno != api.ErrArg {
				t.Errorf("Open(%d, %d), power %t: %v, %d", w[0], w[1], power, p, errno)
			}
		}
	}
	if p, errno := bank.Open(&flash.Flash{}, 0, 4); p != nil || errno != api.ErrArg {
		t.Errorf("Open of a flash without sectors: %v, %d", p, errno)
	}
}

func TestOpenWithoutPower(t *testing.T) { // P7.1
	f := made(t, 6)
	lay(t, opened(t, f, 1, 4), []byte("one"))
	dark(f)
	for _, at := range [][2]int{{0, 4}, {0, 6}, {2, 4}, {1, 5}, {1, 4}} {
		if p, errno := bank.Open(f, at[0], at[1]); p != nil || errno != api.ErrCut {
			t.Errorf("Open(%d, %d) without power: %v, %d", at[0], at[1], p, errno)
		}
	}
	f.On()
	finds(t, "the power is there again", f, 1, 4, showing{0, "one", "", 1})
}

func TestOpenOfErasedSectors(t *testing.T) { // P7.1, P7.3
	f := made(t, 8)
	for _, at := range [][2]int{{0, 4}, {0, 5}, {0, 8}, {4, 4}, {3, 5}, {1, 6}} {
		p := opened(t, f, at[0], at[1])
		shows(t, "new", p, showing{})
		is(t, "Put", p.Put(nil), api.ErrState)
		is(t, "Commit", p.Commit(), api.ErrState)
		is(t, "Back", p.Back(), api.ErrBank)
	}
	if f.Steps() != 0 {
		t.Errorf("%d steps by openings and calls that were refused", f.Steps())
	}
}

func TestNilPair(t *testing.T) { // P7.1
	for _, p := range []*bank.Pair{nil} {
		is(t, "Begin", p.Begin(1, 0), api.ErrNil)
		is(t, "Begin of no size", p.Begin(0, 0), api.ErrNil)
		is(t, "Put", p.Put([]byte{1}), api.ErrNil)
		is(t, "Put of none", p.Put(nil), api.ErrNil)
		is(t, "Commit", p.Commit(), api.ErrNil)
		is(t, "Back", p.Back(), api.ErrNil)
		shows(t, "nil", p, showing{})
		if p.Room() != 0 {
			t.Errorf("Room: %d", p.Room())
		}
	}
}

// A pair that was not opened has no room, and nothing else.
func TestPairByHand(t *testing.T) { // P7.1
	p := &bank.Pair{}
	is(t, "Begin", p.Begin(1, 0), api.ErrImage)
	is(t, "Put", p.Put([]byte{1}), api.ErrState)
	is(t, "Commit", p.Commit(), api.ErrState)
	is(t, "Back", p.Back(), api.ErrBank)
	shows(t, "by hand", p, showing{})
	if p.Room() != 0 {
		t.Errorf("Room: %d", p.Room())
	}
}

func TestRoom(t *testing.T) { // P7.3, the section 'Words'
	want := map[int]int{4: 1, 5: 1, 6: 2, 7: 2, 10: 4, 16: 7, 17: 7, 18: 8, 19: 8, 20: 8, 21: 8, 40: 8, 64: 8}
	for count, sectors := range want {
		f := made(t, 64)
		for _, first := range []int{0, min(1, 64-count), 64 - count} {
			p := opened(t, f, first, count)
			if p.Room() != sectors*1024 {
				t.Errorf("Open(%d, %d): room %d, want %d sectors", first, count, p.Room(), sectors)
			}
		}
	}
}

// Both banks take programs as great as the room, each in its own sectors.
func TestWholeRoom(t *testing.T) { // P7.2, P7.3
	for _, count := range []int{4, 5, 6, 7, 18, 19, 20, 64} {
		for _, first := range []int{0, 64 - count} {
			f := made(t, 64)
			check := fence(t, f, first, count)
			p := opened(t, f, first, count)
			is(t, "Begin of one more", p.Begin(p.Room()+1, 0), api.ErrImage)
			one, two, three := filled(p.Room(), 1), filled(p.Room(), 2), filled(p.Room()-1, 3)
			lay(t, p, one)
			lay(t, p, two)
			want := showing{1, string(two), string(one), 2}
			shows(t, "two", p, want)
			finds(t, "two", f, first, count, want)
			lay(t, p, three)
			want = showing{0, string(three), string(two), 3}
			shows(t, "three", p, want)
			finds(t, "three", f, first, count, want)
			check()
		}
	}
}

func TestSizes(t *testing.T) { // P7.2
	for _, count := range []int{4, 6, 20} {
		p, f := fresh(t, count)
		lay(t, p, []byte("one"))
		lay(t, p, []byte("two"))
		want, steps := showing{1, "two", "one", 2}, f.Steps()
		for _, size := range []int{0, -1, -4, math.MinInt, p.Room() + 1, p.Room() + 4, p.Room() + 1024, 8193, math.MaxInt} {
			is(t, "Begin", p.Begin(size, 0), api.ErrImage)
			shows(t, "behind ErrImage", p, want)
			is(t, "Put", p.Put(nil), api.ErrState)
		}
		if f.Steps() != steps {
			t.Errorf("a Begin that was refused has written")
		}
		for _, size := range []int{1, 2, 3, 4, 5, p.Room() - 1, p.Room()} {
			b := filled(size, byte(size))
			n, before, _ := p.Running()
			lay(t, p, b)
			want := showing{1 - n, string(b), string(before), p.Version()}
			shows(t, "laid", p, want)
			finds(t, "laid", f, 0, count, want)
		}
	}
}

// A size that is refused leaves what was begun.
func TestRefusedBeginLeavesTheBegun(t *testing.T) { // P7.2
	p, f := fresh(t, 4)
	b := []byte("program")
	is(t, "Begin", p.Begin(7, crc.Sum(b)), api.OK)
	is(t, "Put", p.Put(b[:3]), api.OK)
	is(t, "Begin", p.Begin(0, 0), api.ErrImage)
	is(t, "Begin", p.Begin(1025, 0), api.ErrImage)
	is(t, "Put", p.Put(b[3:]), api.OK)
	is(t, "Commit", p.Commit(), api.OK)
	finds(t, "committed", f, 0, 4, showing{0, "program", "", 1})
}

// Pieces of every length about a word's, none among them.
func TestPieces(t *testing.T) { // P7.2
	for size := 1; size <= 21; size++ {
		for first := 0; first <= min(size, 9); first++ {
			for each := 1; each <= 9; each++ {
				p, f := fresh(t, 4)
				b := filled(size, byte(first*each))
				is(t, "Begin", p.Begin(size, crc.Sum(b)), api.OK)
				is(t, "Put", p.Put(b[:first]), api.OK)
				for rest := b[first:]; len(rest) > 0; rest = rest[min(each, len(rest)):] {
					is(t, "Put of none", p.Put(nil), api.OK)
					is(t, "Put of too many", p.Put(append(bytes.Clone(rest), 9)), api.ErrImage)
					is(t, "Put", p.Put(rest[:min(each, len(rest))]), api.OK)
				}
				is(t, "Put of one more", p.Put([]byte{0}), api.ErrImage)
				is(t, "Put of none", p.Put([]byte{}), api.OK)
				is(t, "Commit", p.Commit(), api.OK)
				want := showing{0, string(b), "", 1}
				shows(t, "committed", p, want)
				finds(t, "committed", f, 0, 4, want)
				if t.Failed() {
					t.Fatalf("%d bytes, first %d, then each %d", size, first, each)
				}
			}
		}
	}
}

// A Put that is refused takes nothing, whatever was put ahead of it.
func TestRefusedPutTakesNothing(t *testing.T) { // P7.2
	for put := range 10 {
		p, f := fresh(t, 4)
		b := filled(9, 1)
		is(t, "Begin", p.Begin(9, crc.Sum(b)), api.OK)
		is(t, "Put", p.Put(b[:put]), api.OK)
		steps := f.Steps()
		for _, more := range []int{10 - put, 11, 1024, 5000} {
			is(t, "Put of too many", p.Put(make([]byte, more)), api.ErrImage)
		}
		if f.Steps() != steps {
			t.Errorf("a Put that was refused has written")
		}
		is(t, "Put of the rest", p.Put(b[put:]), api.OK)
		is(t, "Commit", p.Commit(), api.OK)
		finds(t, "committed", f, 0, 4, showing{0, string(b), "", 1})
	}
}

func TestCommitRefuses(t *testing.T) { // P7.2
	for size := 1; size <= 13; size++ {
		b := filled(size, 5)
		for put := range size + 1 {
			for _, wrong := range []uint16{0, 1, 0x8000, 0xFFFF} { // xored to the check
				p, f := fresh(t, 4)
				lay(t, p, []byte("one"))
				lay(t, p, []byte("two"))
				is(t, "Begin", p.Begin(size, crc.Sum(b)^wrong), api.OK)
				is(t, "Put", p.Put(b[:put]), api.OK)
				if put == size && wrong == 0 {
					is(t, "Commit", p.Commit(), api.OK)
					finds(t, "committed", f, 0, 4, showing{0, string(b), "two", 3})
					continue
				}
				is(t, "Commit", p.Commit(), api.ErrImage)
				want := showing{1, "two", "", 2}
				shows(t, "behind ErrImage", p, want)
				finds(t, "behind ErrImage", f, 0, 4, want)
				is(t, "Put behind it", p.Put(b[put:]), api.ErrState)
				is(t, "Put of none behind it", p.Put(nil), api.ErrState)
				is(t, "Commit behind it", p.Commit(), api.ErrState)
				is(t, "Back behind it", p.Back(), api.ErrBank)
				lay(t, p, b)
				want = showing{0, string(b), "two", 3}
				shows(t, "laid behind it", p, want)
				finds(t, "laid behind it", f, 0, 4, want)
			}
		}
	}
}

// The sum of the bytes that were put is the check of the first size of them, not of words.
func TestChecksOfLikeBytes(t *testing.T) { // P7.2, P7.5
	like := [][]byte{{0}, {0, 0}, {0, 0, 0, 0, 0}, {255}, {255, 255, 255, 255}, {255, 255, 255, 255, 255}, bytes.Repeat([]byte{255}, 1024), make([]byte, 1024)}
	for _, a := range like {
		for _, b := range like {
			p, f := fresh(t, 4)
			lay(t, p, a)
			is(t, "Begin", p.Begin(len(b), crc.Sum(a)), api.OK)
			is(t, "Put", p.Put(b), api.OK)
			want, errno := showing{0, string(a), "", 1}, api.ErrImage
			if crc.Sum(a) == crc.Sum(b) {
				want, errno = showing{1, string(b), string(a), 2}, api.OK
			}
			is(t, "Commit", p.Commit(), errno)
			shows(t, "behind it", p, want)
			finds(t, "behind it", f, 0, 4, want)
		}
	}
}

// What was begun ahead is no more, however much of it was put; the new one may be greater or lesser.
func TestBeginBehindBegin(t *testing.T) { // P7.2
	sizes := []int{1, 3, 4, 5, 8, 100, 1024}
	for _, old := range sizes {
		for _, put := range []int{0, 1, old / 2, old} {
			for _, size := range sizes {
				p, f := fresh(t, 4)
				lay(t, p, []byte("runs"))
				a, b := filled(old, 0), filled(size, 100)
				is(t, "Begin", p.Begin(old, crc.Sum(a)), api.OK)
				is(t, "Put", p.Put(a[:put]), api.OK)
				is(t, "Begin", p.Begin(size, crc.Sum(b)), api.OK)
				is(t, "Put of too many", p.Put(make([]byte, size+1)), api.ErrImage)
				is(t, "Put", p.Put(b), api.OK)
				shows(t, "put", p, showing{0, "runs", "", 1})
				finds(t, "put", f, 0, 4, showing{0, "runs", "", 1})
				is(t, "Commit", p.Commit(), api.OK)
				want := showing{1, string(b), "runs", 2}
				shows(t, "committed", p, want)
				finds(t, "committed", f, 0, 4, want)
			}
		}
	}
}

// The check of what was begun ahead counts no more, either.
func TestBeginForgetsTheCheck(t *testing.T) { // P7.2
	p, _ := fresh(t, 4)
	is(t, "Begin", p.Begin(3, crc.Sum([]byte("abc"))), api.OK)
	is(t, "Begin", p.Begin(3, crc.Sum([]byte("xyz"))), api.OK)
	is(t, "Put", p.Put([]byte("abc")), api.OK)
	is(t, "Commit", p.Commit(), api.ErrImage)
	shows(t, "behind ErrImage", p, showing{})
}

// Begin gives up the previous one, at once, and nothing else.
func TestBeginWithAPrevious(t *testing.T) { // P7.2
	p, f := fresh(t, 4)
	lay(t, p, []byte("one"))
	is(t, "Begin", p.Begin(1, 0), api.OK) // of none: nothing else is given up
	shows(t, "begun", p, showing{0, "one", "", 1})
	lay(t, p, []byte("two"))
	shows(t, "two", p, showing{1, "two", "one", 2})
	is(t, "Begin", p.Begin(5, 0), api.OK)
	shows(t, "begun", p, showing{1, "two", "", 2})
	finds(t, "begun", f, 0, 4, showing{1, "two", "", 2})
	is(t, "Back", p.Back(), api.ErrBank)
	is(t, "Put behind it", p.Put([]byte("three")), api.OK)
	is(t, "Back", p.Back(), api.ErrBank)
	is(t, "Commit", p.Commit(), api.ErrImage)
	is(t, "Back", p.Back(), api.ErrBank)
	finds(t, "in the end", f, 0, 4, showing{1, "two", "", 2})
}

// Each program runs in the bank in which the one ahead of it does not: a Back turns that, a Begin that comes to nothing does not.
func TestBanksInTurn(t *testing.T) { // P7.2, P7.3
	p, f := fresh(t, 6)
	is(t, "Begin", p.Begin(2, 0), api.OK) // while none runs: the bank 0, again and again
	is(t, "Put", p.Put([]byte("no")), api.OK)
	is(t, "Commit", p.Commit(), api.ErrImage)
	want := showing{}
	for i := range 40 {
		b := filled(1+i*37%2048, byte(i))
		lay(t, p, b)
		if i > 0 {
			want.bank = 1 - want.bank
		}
		want = showing{want.bank, string(b), want.running, want.version + 1}
		shows(t, "laid", p, want)
		if i%3 == 2 {
			is(t, "Back", p.Back(), api.OK)
			want = showing{1 - want.bank, want.previous, want.running, want.version + 1}
			shows(t, "back", p, want)
		}
		if i%5 == 4 {
			is(t, "Begin", p.Begin(1, 1), api.OK)
			is(t, "Commit", p.Commit(), api.ErrImage)
			want.previous = ""
			shows(t, "come to nothing", p, want)
		}
		finds(t, "in turn", f, 0, 6, want)
		if i%7 == 6 {
			p = opened(t, f, 0, 6)
		}
	}
}

func TestBack(t *testing.T) { // P7.2
	p, f := fresh(t, 4)
	is(t, "Back where nothing runs", p.Back(), api.ErrBank)
	lay(t, p, []byte("one"))
	is(t, "Back without a previous one", p.Back(), api.ErrBank)
	shows(t, "behind ErrBank", p, showing{0, "one", "", 1})
	lay(t, p, []byte("two"))
	for i := range 6 { // any number of times in a row
		is(t, "Back", p.Back(), api.OK)
		want := showing{0, "one", "two", uint32(3 + i)}
		if i%2 == 1 {
			want = showing{1, "two", "one", uint32(3 + i)}
		}
		shows(t, "back", p, want)
		finds(t, "back", f, 0, 4, want)
	}
	is(t, "Put", p.Put(nil), api.ErrState)
	is(t, "Commit", p.Commit(), api.ErrState)
}

func TestOrderOfErrors(t *testing.T) { // P7.2
	p, f := fresh(t, 4)
	is(t, "nothing begun, too many bytes", p.Put(make([]byte, 9000)), api.ErrState)
	is(t, "nothing begun, nothing put", p.Commit(), api.ErrState)
	dark(f)
	for what, errno := range map[string]api.Errno{
		"Begin of a wrong size": p.Begin(0, 0), "Begin": p.Begin(1, 0), "Put where nothing is begun": p.Put(nil),
		"Commit where nothing is begun": p.Commit(), "Back where there is no previous one": p.Back(),
	} {
		is(t, what, errno, api.ErrCut)
	}
	f.On()
	p = opened(t, f, 0, 4)
	is(t, "Begin", p.Begin(2, 0), api.OK)
	is(t, "Put", p.Put([]byte{1}), api.OK)
	dark(f)
	is(t, "Put of too many, no power", p.Put(make([]byte, 9)), api.ErrCut)
	is(t, "Commit of too few, no power", p.Commit(), api.ErrCut)
}

// calls are one of each kind, right ones and such as would be refused.
func calls() map[string]func(p *bank.Pair) api.Errno {
	return map[string]func(p *bank.Pair) api.Errno{
		"Begin":             func(p *bank.Pair) api.Errno { return p.Begin(3, 1) },
		"Begin of no size":  func(p *bank.Pair) api.Errno { return p.Begin(0, 1) },
		"Put":               func(p *bank.Pair) api.Errno { return p.Put([]byte("cdefg")) },
		"Put of none":       func(p *bank.Pair) api.Errno { return p.Put(nil) },
		"Put of few":        func(p *bank.Pair) api.Errno { return p.Put([]byte("c")) },
		"Put of too many":   func(p *bank.Pair) api.Errno { return p.Put(make([]byte, 5000)) },
		"Commit":            func(p *bank.Pair) api.Errno { return p.Commit() },
		"Back":              func(p *bank.Pair) api.Errno { return p.Back() },
		"Begin of too many": func(p *bank.Pair) api.Errno { return p.Begin(1025, 1) },
	}
}

// The power is gone when a call comes: from then on all calls on that pair answer ErrCut, though it comes again.
func TestCallsWithoutPower(t *testing.T) { // P7.2, P7.3
	for _, begun := range []bool{true, false} {
		for name, call := range calls() {
			p, f := fresh(t, 4)
			lay(t, p, []byte("one"))
			lay(t, p, []byte("two"))
			want := showing{1, "two", "one", 2}
			if begun {
				is(t, "Begin", p.Begin(7, crc.Sum([]byte("abcdefg"))), api.OK)
				is(t, "Put", p.Put([]byte("ab")), api.OK)
				want.previous = ""
			}
			dark(f)
			shows(t, "without power", p, want)
			is(t, name, call(p), api.ErrCut)
			shows(t, "without power, behind "+name, p, want)
			f.On()
			steps := f.Steps()
			for other, call := range calls() {
				is(t, other+" behind "+name, call(p), api.ErrCut)
			}
			if f.Steps() != steps {
				t.Errorf("behind %s: a pair whose power went has written", name)
			}
			shows(t, "behind "+name, p, want)
			if p.Room() != 1024 {
				t.Errorf("behind %s: room %d", name, p.Room())
			}
			finds(t, "behind "+name, f, 0, 4, want)
			again := opened(t, f, 0, 4)
			lay(t, again, []byte("three"))
			shows(t, "laid to what is opened again", again, showing{0, "three", "two", 3})
		}
	}
}

// A power that goes and comes again between the calls is not seen.
func TestPowerBetweenCalls(t *testing.T) { // P7.2
	p, f := fresh(t, 4)
	between := func() { dark(f); f.On() }
	for i := range 20 {
		b := filled(10+i, byte(i))
		is(t, "Begin", p.Begin(len(b), crc.Sum(b)), api.OK)
		between()
		is(t, "Put", p.Put(b[:i%10]), api.OK)
		between()
		is(t, "Put", p.Put(b[i%10:]), api.OK)
		between()
		is(t, "Commit", p.Commit(), api.OK)
		between()
		if _, got, _ := p.Running(); !bytes.Equal(got, b) {
			t.Errorf("program %d: %v", i, got)
		}
		if i > 0 {
			is(t, "Back", p.Back(), api.OK)
			between()
		}
	}
}

// What is begun is no more when the pair is opened again, and who looks by an opening of its own does not disturb it.
func TestOpeningBeside(t *testing.T) { // P7.1, the section 'Words'
	p, f := fresh(t, 4)
	lay(t, p, []byte("one"))
	b := filled(50, 3)
	is(t, "Begin", p.Begin(50, crc.Sum(b)), api.OK)
	for i := range b {
		is(t, "Put", p.Put(b[i:i+1]), api.OK)
		again := opened(t, f, 0, 4)
		shows(t, "an opening beside", again, showing{0, "one", "", 1})
		is(t, "Put beside", again.Put(nil), api.ErrState)
		is(t, "Commit beside", again.Commit(), api.ErrState)
	}
	is(t, "Commit", p.Commit(), api.OK)
	finds(t, "committed", f, 0, 4, showing{1, string(b), "one", 2})
}

// Two pairs in one flash do not see each other.
func TestTwoPairs(t *testing.T) { // P7.4
	f := made(t, 10)
	a, b := opened(t, f, 0, 5), opened(t, f, 5, 5)
	want := [2]showing{}
	for i := range 30 {
		for n, p := range []*bank.Pair{a, b} {
			program := filled(1+(i*301+n*17)%1024, byte(i+n*100))
			lay(t, p, program)
			if i > 0 {
				want[n].bank = 1 - want[n].bank
			}
			want[n] = showing{want[n].bank, string(program), want[n].running, want[n].version + 1}
			shows(t, "laid", p, want[n])
		}
		finds(t, "the first", f, 0, 5, want[0])
		finds(t, "the second", f, 5, 5, want[1])
	}
}

func TestMemory(t *testing.T) { // P7.4
	p, f := fresh(t, 4)
	whole := []byte("abcdefghijklm")
	is(t, "Begin", p.Begin(9, crc.Sum(whole[:9])), api.OK)
	is(t, "Put", p.Put(whole[:3]), api.OK)
	is(t, "Put", p.Put(whole[3:8:9]), api.OK)
	is(t, "Put", p.Put(whole[8:9]), api.OK)
	if string(whole) != "abcdefghijklm" {
		t.Errorf("what was handed in is %q now", whole)
	}
	clear(whole)
	is(t, "Commit", p.Commit(), api.OK)
	shows(t, "behind a change of what was handed in", p, showing{0, "abcdefghi", "", 1})
	lay(t, p, []byte("two"))

	spoil := func(b []byte) {
		b = b[:cap(b)]
		for i := range b {
			b[i] ^= 255
		}
	}
	want := showing{1, "two", "abcdefghi", 2}
	for _, p := range []*bank.Pair{p, opened(t, f, 0, 4)} {
		_, one, _ := p.Running()
		_, other, _ := p.Running()
		spoil(one)
		if string(other) != "two" {
			t.Errorf("two answers share memory: %q", other)
		}
		spoil(other)
		old, _ := p.Previous()
		older, _ := p.Previous()
		spoil(old)
		if string(older) != "abcdefghi" {
			t.Errorf("two answers share memory: %q", older)
		}
		spoil(older)
		shows(t, "behind a change of what was answered", p, want)
		finds(t, "behind a change of what was answered", f, 0, 4, want)
	}
	is(t, "Back", p.Back(), api.OK)
	shows(t, "back", p, showing{0, "abcdefghi", "two", 3})
}

func TestChapterExamples(t *testing.T) { // the section 'Examples'
	f := made(t, 6)
	p := opened(t, f, 0, 4)
	if p.Room() != 1024 {
		t.Errorf("Room: %d", p.Room())
	}
	shows(t, "at first", p, showing{})
	three := []byte{1, 2, 3}
	is(t, "Begin", p.Begin(3, crc.Sum(three)), api.OK)
	is(t, "Put", p.Put([]byte{1, 2}), api.OK)
	is(t, "Commit", p.Commit(), api.ErrImage)
	is(t, "Begin", p.Begin(3, crc.Sum(three)), api.OK)
	is(t, "Put", p.Put(three), api.OK)
	is(t, "Put", p.Put([]byte{4}), api.ErrImage)
	is(t, "Commit", p.Commit(), api.OK)
	shows(t, "committed", p, showing{0, "\x01\x02\x03", "", 1})
	is(t, "Begin", p.Begin(1, crc.Sum([]byte{9})), api.OK)
	is(t, "Put", p.Put([]byte{9}), api.OK)
	is(t, "Commit", p.Commit(), api.OK)
	shows(t, "committed", p, showing{1, "\x09", "\x01\x02\x03", 2})
	is(t, "Back", p.Back(), api.OK)
	shows(t, "back", p, showing{0, "\x01\x02\x03", "\x09", 3})
	is(t, "Begin", p.Begin(1025, 0), api.ErrImage)
	is(t, "Put", p.Put([]byte{1}), api.ErrState)
}
