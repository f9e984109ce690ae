package journal_test

import (
	"bytes"
	"math"
	"slices"
	"testing"

	"campanile/api"
	"campanile/flash"
	"campanile/journal"
)

// made tells a flash of so many sectors.
func made(t *testing.T, sectors int) *flash.Flash {
	t.Helper()
	f, errno := flash.New(sectors)
	if errno != api.OK {
		t.Fatalf("New(%d): %d", sectors, errno)
	}
	return f
}

// opened tells the journal that must be there.
func opened(t *testing.T, f *flash.Flash, first, count int) *journal.Journal {
	t.Helper()
	j, errno := journal.Open(f, first, count)
	if errno != api.OK || j == nil {
		t.Fatalf("Open(%d, %d): %v, %d", first, count, j, errno)
	}
	return j
}

// is holds an answer against what is wanted.
func is(t *testing.T, what string, got, want api.Errno) {
	t.Helper()
	if got != want {
		t.Errorf("%s: %d, want %d", what, got, want)
	}
}

// holding is what is to be seen of a journal: its groups' bytes.
type holding map[uint8]string

// held tells what a journal holds, by Load of every number, and sees to it that Groups says the same.
func held(t *testing.T, j *journal.Journal) holding {
	t.Helper()
	h, there := holding{}, []uint8{}
	for n := range 256 {
		b, ok := j.Load(uint8(n))
		if !ok && len(b) != 0 {
			t.Errorf("Load(%d): %v, false", n, b)
		}
		if ok {
			h[uint8(n)] = string(b)
			there = append(there, uint8(n))
		}
	}
	if got := j.Groups(); !slices.Equal(got, there) {
		t.Errorf("Groups: %v, but Load tells of %v", got, there)
	}
	return h
}

// found tells what an opening finds, by a copy of the flash that has its power.
func found(t *testing.T, f *flash.Flash, first, count int) holding {
	t.Helper()
	c := f.Copy()
	c.On()
	return held(t, opened(t, c, first, count))
}

func (h holding) same(other holding) bool {
	if len(h) != len(other) {
		return false
	}
	for n, b := range h {
		if c, ok := other[n]; !ok || c != b {
			return false
		}
	}
	return true
}

// sizes tells how many bytes each group has: enough for a message.
func (h holding) sizes() map[uint8]int {
	s := map[uint8]int{}
	for n, b := range h {
		s[n] = len(b)
	}
	return s
}

// holds holds what a journal holds, and what an opening of the same sectors finds, against what is wanted.
func holds(t *testing.T, what string, j *journal.Journal, want holding) {
	t.Helper()
	if got := held(t, j); !got.same(want) {
		t.Errorf("%s: it holds %v, want %v (or other bytes)", what, got.sizes(), want.sizes())
	}
}

func finds(t *testing.T, what string, f *flash.Flash, first, count int, want holding) {
	t.Helper()
	if got := found(t, f, first, count); !got.same(want) {
		t.Errorf("%s: an opening finds %v, want %v (or other bytes)", what, got.sizes(), want.sizes())
	}
}

// filled tells so many bytes, all unlike those of another salt.
func filled(n int, salt byte) []byte {
	b := make([]byte, n)
	for i := range b {
		b[i] = byte(i)*7 + salt
	}
	return b
}

// dark lets the power go, by a step that is not done.
func dark(f *flash.Flash) {
	f.Cut(0)
	f.Erase(0)
}

func TestOpenRefuses(t *testing.T) { // P6.1
	for _, first := range []int{math.MinInt, -1, 0, 3, math.MaxInt} {
		for _, count := range []int{math.MinInt, 0, 2, math.MaxInt} {
			if j, errno := journal.Open(nil, first, count); j != nil || errno != api.ErrNil {
				t.Errorf("Open(nil, %d, %d): %v, %d", first, count, j, errno)
			}
		}
	}
	wrong := [][2]int{
		{-1, 2}, {-1, 3}, {-2, 4}, {math.MinInt, 2}, {math.MinInt, math.MaxInt},
		{0, 1}, {0, 0}, {0, -1}, {0, math.MinInt}, {3, 1}, {4, 0}, {5, -1},
		{0, 5}, {1, 4}, {2, 3}, {3, 2}, {4, 2}, {5, 2},
		{math.MaxInt, 2}, {1, math.MaxInt}, {math.MaxInt, math.MaxInt}, {math.MaxInt - 1, 2},
	}
	for _, power := range []bool{true, false} {
		f := made(t, 4)
		if !power {
			dark(f)
		}
		for _, w := range wrong {
			if j, errno := journal.Open(f, w[0], w[1]); j != nil || errno != api.ErrArg {
				t.Errorf("Open(%d, %d), power %t: %v, %d", w[0], w[1], power, j, errno)
			}
		}
	}
	if j, errno := journal.Open(&flash.Flash{}, 0, 2); j != nil || errno != api.ErrArg {
		t.Errorf("Open of a flash without sectors: %v, %d", j, errno)
	}
}

func TestOpenWithoutPower(t *testing.T) { // P6.1
	f := made(t, 4)
	dark(f)
	for _, at := range [][2]int{{0, 2}, {0, 4}, {2, 2}, {1, 3}} {
		if j, errno := journal.Open(f, at[0], at[1]); j != nil || errno != api.ErrCut {
			t.Errorf("Open(%d, %d) without power: %v, %d", at[0], at[1], j, errno)
		}
	}
	f.On()
	holds(t, "behind On", opened(t, f, 0, 2), holding{})
}

func TestOpenOfErasedSectors(t *testing.T) { // P6.1, P6.3
	for sectors := 2; sectors <= 6; sectors++ {
		f := made(t, sectors)
		for first := range sectors - 1 {
			for count := 2; first+count <= sectors; count++ {
				holds(t, "a new journal", opened(t, f, first, count), holding{})
			}
		}
	}
	f := made(t, 64)
	holds(t, "the last sectors", opened(t, f, 62, 2), holding{})
	holds(t, "all sectors", opened(t, f, 0, 64), holding{})
}

func TestNilJournal(t *testing.T) { // P6.1
	var j *journal.Journal
	for n := range 256 {
		for _, b := range [][]byte{nil, {}, {1, 2, 3}, make([]byte, 4096), make([]byte, 4097)} {
			is(t, "Store", j.Store(uint8(n), b), api.ErrNil)
		}
		is(t, "Restore", j.Restore(uint8(n)), api.ErrNil)
		if b, ok := j.Load(uint8(n)); len(b) != 0 || ok {
			t.Errorf("Load(%d): %v, %t", n, b, ok)
		}
	}
	if g := j.Groups(); len(g) != 0 {
		t.Errorf("Groups: %v", g)
	}
}

// One that is made without Open has no sectors, and so no room.
func TestJournalByHand(t *testing.T) { // P6.2, P6.3
	j := &journal.Journal{}
	is(t, "Store", j.Store(0, nil), api.ErrFull)
	is(t, "Store", j.Store(16, nil), api.ErrGroup)
	is(t, "Restore", j.Restore(0), api.ErrNone)
	holds(t, "by hand", j, holding{})
}

func TestEachGroup(t *testing.T) { // P6.2, P6.3
	f := made(t, 2)
	j, want := opened(t, f, 0, 2), holding{}
	for n := 15; n >= 0; n-- {
		b := filled(n, byte(n))
		is(t, "Store", j.Store(uint8(n), b), api.OK)
		want[uint8(n)] = string(b)
		holds(t, "stored", j, want)
		finds(t, "stored", f, 0, 2, want)
	}
	if got := j.Groups(); !slices.Equal(got, []uint8{0, 1, 2, 3, 4, 5, 6, 7, 8, 9, 10, 11, 12, 13, 14, 15}) {
		t.Errorf("Groups: %v", got)
	}
	for _, n := range []uint8{16, 17, 127, 128, 255} {
		is(t, "Store", j.Store(n, nil), api.ErrGroup)
		is(t, "Restore", j.Restore(n), api.ErrGroup)
		if b, ok := j.Load(n); len(b) != 0 || ok {
			t.Errorf("Load(%d): %v, %t", n, b, ok)
		}
	}
	holds(t, "behind what is refused", j, want)
}

// A group of no bytes is there; one that was never stored is not.
func TestNoBytes(t *testing.T) { // P6.2, P6.3
	for _, b := range [][]byte{nil, {}} {
		f := made(t, 2)
		j := opened(t, f, 0, 2)
		is(t, "Store", j.Store(7, b), api.OK)
		holds(t, "stored", j, holding{7: ""})
		finds(t, "stored", f, 0, 2, holding{7: ""})
		is(t, "Restore", j.Restore(7), api.OK)
		holds(t, "marked", j, holding{7: ""})
		finds(t, "marked", f, 0, 2, holding{})
	}
}

// Bytes that look like an erased flash are bytes like others.
func TestBytesLikeErased(t *testing.T) { // P6.2
	for n := range 40 {
		for _, x := range []byte{255, 0} {
			f := made(t, 2)
			j, want := opened(t, f, 0, 2), holding{}
			for g := range uint8(3) {
				b := bytes.Repeat([]byte{x}, n+int(g))
				is(t, "Store", j.Store(g, b), api.OK)
				want[g] = string(b)
				finds(t, "stored", f, 0, 2, want)
			}
		}
	}
}

func TestBytesUpToTheLimit(t *testing.T) { // P6.2
	f := made(t, 10)
	j := opened(t, f, 0, 10)
	for i, n := range []int{4095, 4096, 4096} {
		b := filled(n, byte(i))
		is(t, "Store", j.Store(0, b), api.OK)
		holds(t, "stored", j, holding{0: string(b)})
		finds(t, "stored", f, 0, 10, holding{0: string(b)})
	}
	steps := f.Steps()
	for _, n := range []int{4097, 4098, 5000, 65536 + 5, 1 << 20} {
		is(t, "Store of too many", j.Store(0, make([]byte, n)), api.ErrLimit)
		is(t, "Store of too many", j.Store(15, make([]byte, n)), api.ErrLimit)
	}
	if f.Steps() != steps {
		t.Error("what is refused has made steps")
	}
	finds(t, "behind what is refused", f, 0, 10, holding{0: string(filled(4096, 2))})
}

// roomOf tells the greatest number of bytes of a lone group, by the chapter's words.
func roomOf(count int) int { return count/2*1024 - 16 - 12 }

func TestRoomOfOne(t *testing.T) { // P6.2
	for _, count := range []int{2, 3, 4, 5, 6, 7, 8, 9} {
		f := made(t, count+2)
		j, most := opened(t, f, 1, count), roomOf(count)
		for _, n := range []int{most + 1, most + 4, most + 5, most + 16, most + 24} {
			if n <= 4096 {
				is(t, "Store of too many", j.Store(3, filled(n, 1)), api.ErrFull)
			}
		}
		holds(t, "behind ErrFull", j, holding{})
		finds(t, "behind ErrFull", f, 1, count, holding{})
		for i, n := range []int{most, most - 3, most, most, 0, most - 4, most} { // over and over, though all of it is full
			b := filled(n, byte(i))
			is(t, "Store", j.Store(3, b), api.OK)
			holds(t, "stored", j, holding{3: string(b)})
			finds(t, "stored", f, 1, count, holding{3: string(b)})
		}
		is(t, "Store of one more", j.Store(3, filled(most+1, 9)), api.ErrFull)
		is(t, "Store beside", j.Store(4, nil), api.ErrFull)
		finds(t, "behind ErrFull", f, 1, count, holding{3: string(filled(most, 6))})
	}
}

// Sixteen groups fill half of the sectors to the last word; one word more is too much, whichever group it is of.
func TestRoomOfAll(t *testing.T) { // P6.2
	for _, count := range []int{2, 3, 4, 8} {
		f := made(t, count)
		j, want, left := opened(t, f, 0, count), holding{}, count/2*1024-16
		for g := range uint8(16) {
			n := 20 + int(g)*2
			if g == 15 {
				n = left - 12
			}
			b := filled(n, g)
			is(t, "Store", j.Store(g, b), api.OK)
			want[g] = string(b)
			left -= (12 + n + 3) / 4 * 4 // 0 behind the last one
		}
		finds(t, "full", f, 0, count, want)
		for g := range uint8(16) {
			is(t, "Store of a word more", j.Store(g, filled((len(want[g])+3)/4*4+1, 0)), api.ErrFull)
		}
		for g := range uint8(16) {
			b := filled((len(want[g])+3)/4*4, 100+g) // up to the end of its last word
			is(t, "Store of as many words", j.Store(g, b), api.OK)
			want[g] = string(b)
			holds(t, "stored again", j, want)
			finds(t, "stored again", f, 0, count, want)
		}
		is(t, "Store of a word less", j.Store(2, filled(20, 0)), api.OK)
		is(t, "Store of a word more", j.Store(1, filled(28, 0)), api.OK)
		is(t, "Store of a word more", j.Store(0, filled(21, 0)), api.ErrFull)
		want[2], want[1] = string(filled(20, 0)), string(filled(28, 0))
		finds(t, "a word from one to the other", f, 0, count, want)
	}
}

func TestFewerAndMoreBytes(t *testing.T) { // P6.2
	f := made(t, 2)
	j := opened(t, f, 0, 2)
	is(t, "Store", j.Store(1, []byte("beside")), api.OK)
	for i, n := range []int{10, 3, 0, 500, 499, 501, 1, 900, 0} {
		b := filled(n, byte(i))
		is(t, "Store", j.Store(0, b), api.OK)
		holds(t, "stored", j, holding{0: string(b), 1: "beside"})
		finds(t, "stored", f, 0, 2, holding{0: string(b), 1: "beside"})
	}
}

func TestRestore(t *testing.T) { // P6.2, P6.3
	f := made(t, 2)
	j := opened(t, f, 0, 2)
	is(t, "Restore of none", j.Restore(0), api.ErrNone)
	is(t, "Restore of none", j.Restore(15), api.ErrNone)
	if f.Steps() != 0 {
		t.Error("what is refused has made steps")
	}
	is(t, "Store", j.Store(0, []byte("a")), api.OK)
	is(t, "Store", j.Store(5, []byte("bc")), api.OK)
	is(t, "Restore of none", j.Restore(1), api.ErrNone)
	is(t, "Restore", j.Restore(5), api.OK)
	holds(t, "marked", j, holding{0: "a", 5: "bc"})
	finds(t, "marked", f, 0, 2, holding{0: "a"})
	steps := f.Steps()
	is(t, "Restore again", j.Restore(5), api.OK)
	if f.Steps() != steps {
		t.Error("Restore of a marked one has done something")
	}
	holds(t, "marked twice", j, holding{0: "a", 5: "bc"})
	finds(t, "marked twice", f, 0, 2, holding{0: "a"})

	j = opened(t, f, 0, 2)
	is(t, "Restore of one that is gone", j.Restore(5), api.ErrNone)
	is(t, "Store", j.Store(5, []byte("d")), api.OK)
	finds(t, "stored anew", f, 0, 2, holding{0: "a", 5: "d"})
}

func TestMarkedThenStored(t *testing.T) { // P6.2
	f := made(t, 2)
	j := opened(t, f, 0, 2)
	is(t, "Store", j.Store(3, []byte("one")), api.OK)
	for i, text := range []string{"two", "one", "", "something longer", "one"} {
		is(t, "Restore", j.Restore(3), api.OK)
		finds(t, "marked", f, 0, 2, holding{})
		if i%2 == 1 {
			is(t, "Restore again", j.Restore(3), api.OK)
		}
		is(t, "Store", j.Store(3, []byte(text)), api.OK)
		holds(t, "stored", j, holding{3: text})
		finds(t, "stored", f, 0, 2, holding{3: text})
	}
}

// A marked group takes no room, though it is there; it is marked still when its room was taken.
func TestMarkedLeavesRoom(t *testing.T) { // P6.2, P6.3
	f := made(t, 2)
	j := opened(t, f, 0, 2)
	big, other := filled(996, 1), filled(996, 2)
	is(t, "Store", j.Store(0, big), api.OK)
	is(t, "Store beside", j.Store(1, nil), api.ErrFull)
	is(t, "Restore", j.Restore(0), api.OK)
	finds(t, "marked", f, 0, 2, holding{})
	is(t, "Store of too many", j.Store(1, filled(997, 2)), api.ErrFull)
	is(t, "Store", j.Store(1, other), api.OK)
	holds(t, "beside a marked one", j, holding{0: string(big), 1: string(other)})
	finds(t, "beside a marked one", f, 0, 2, holding{1: string(other)})
	is(t, "Restore again", j.Restore(0), api.OK)
	is(t, "Store of the marked one", j.Store(0, nil), api.ErrFull)
	holds(t, "behind ErrFull", j, holding{0: string(big), 1: string(other)})
	finds(t, "behind ErrFull", f, 0, 2, holding{1: string(other)})
	is(t, "Restore", j.Restore(1), api.OK)
	finds(t, "both marked", f, 0, 2, holding{})
	is(t, "Store", j.Store(0, []byte{7}), api.OK)
	holds(t, "stored again", j, holding{0: "\x07", 1: string(other)})
	finds(t, "stored again", f, 0, 2, holding{0: "\x07"})
}

// Each of the groups that fill all can be marked, without room for a word more.
func TestRestoreWithoutRoom(t *testing.T) { // P6.2
	f := made(t, 2)
	j, seen, want := opened(t, f, 0, 2), holding{}, holding{}
	for g := range uint8(16) {
		b := filled(52, g)
		if g >= 12 {
			b = b[:48] // 12 times 64 and 4 times 60: 1008 in all
		}
		is(t, "Store", j.Store(g, b), api.OK)
		seen[g], want[g] = string(b), string(b)
	}
	for g := range uint8(16) {
		is(t, "Restore", j.Restore(g*5%16), api.OK)
		delete(want, g*5%16)
		holds(t, "marked", j, seen)
		finds(t, "marked", f, 0, 2, want)
	}
}

func TestOrderOfErrors(t *testing.T) { // P6.2
	f := made(t, 10)
	j := opened(t, f, 0, 2)
	is(t, "Store", j.Store(0, filled(996, 0)), api.OK)
	is(t, "no such group, too many bytes, no room", j.Store(16, make([]byte, 4097)), api.ErrGroup)
	is(t, "no such group, no room", j.Store(255, make([]byte, 1000)), api.ErrGroup)
	is(t, "too many bytes, no room", j.Store(1, make([]byte, 4097)), api.ErrLimit)
	dark(f)
	is(t, "no such group, too many bytes, no power, no room", j.Store(16, make([]byte, 4097)), api.ErrGroup)
	is(t, "no such group, no power", j.Store(16, nil), api.ErrGroup)
	is(t, "too many bytes, no power, no room", j.Store(1, make([]byte, 4097)), api.ErrLimit)
	is(t, "no such group, no power", j.Restore(16), api.ErrGroup)
	f.On() // nothing has answered ErrCut yet
	is(t, "no room", j.Store(1, nil), api.ErrFull)
	is(t, "Restore of none", j.Restore(1), api.ErrNone)
	dark(f)
	is(t, "no power, no room", j.Store(1, make([]byte, 4096)), api.ErrCut)
	is(t, "no such group behind ErrCut", j.Store(16, make([]byte, 4097)), api.ErrGroup)
	is(t, "too many bytes behind ErrCut", j.Store(1, make([]byte, 4097)), api.ErrLimit)
	is(t, "no such group behind ErrCut", j.Restore(16), api.ErrGroup)
}

// The power is gone when a call comes: from then on all calls on that journal answer ErrCut, though it comes again.
func TestCallsWithoutPower(t *testing.T) { // P6.2, P6.3
	calls := map[string]func(j *journal.Journal) api.Errno{
		"Store":                 func(j *journal.Journal) api.Errno { return j.Store(2, []byte("new")) },
		"Store without room":    func(j *journal.Journal) api.Errno { return j.Store(2, make([]byte, 4096)) },
		"Restore":               func(j *journal.Journal) api.Errno { return j.Restore(1) },
		"Restore of none":       func(j *journal.Journal) api.Errno { return j.Restore(9) },
		"Restore of marked one": func(j *journal.Journal) api.Errno { return j.Restore(3) },
	}
	want := holding{1: "one", 3: "three"}
	for name, call := range calls {
		f := made(t, 2)
		j := opened(t, f, 0, 2)
		is(t, "Store", j.Store(1, []byte("one")), api.OK)
		is(t, "Store", j.Store(3, []byte("three")), api.OK)
		is(t, "Restore", j.Restore(3), api.OK)
		dark(f)
		holds(t, "without power", j, want)
		is(t, name, call(j), api.ErrCut)
		f.On()
		steps := f.Steps()
		for other, call := range calls {
			is(t, other+" behind "+name, call(j), api.ErrCut)
		}
		if f.Steps() != steps {
			t.Errorf("behind %s: a journal whose power went has written", name)
		}
		holds(t, "behind "+name, j, want)
		finds(t, "behind "+name, f, 0, 2, holding{1: "one"})
		is(t, "Store of one that is opened again", opened(t, f, 0, 2).Store(2, nil), api.OK)
	}
}

// A power that goes and comes again between the calls is not seen.
func TestPowerBetweenCalls(t *testing.T) { // P6.2
	f := made(t, 2)
	j := opened(t, f, 0, 2)
	for i := range 100 {
		b := filled(i, byte(i))
		is(t, "Store", j.Store(1, b), api.OK)
		dark(f)
		holds(t, "without power", j, holding{1: string(b)})
		f.On()
		finds(t, "behind On", f, 0, 2, holding{1: string(b)})
	}
}

func TestMemory(t *testing.T) { // P6.4
	f := made(t, 2)
	j := opened(t, f, 0, 2)
	whole := []byte("abcdefghij")
	is(t, "Store", j.Store(1, whole[:3]), api.OK)
	is(t, "Store", j.Store(2, whole[3:5:6]), api.OK)
	is(t, "Store", j.Store(3, make([]byte, 2000)[:0]), api.OK)
	if string(whole) != "abcdefghij" {
		t.Errorf("what was handed in is %q now", whole)
	}
	want := holding{1: "abc", 2: "de", 3: ""}
	clear(whole)
	holds(t, "behind a change of what was handed in", j, want)

	spoil := func(b []byte) {
		b = b[:cap(b)]
		for i := range b {
			b[i] ^= 255
		}
	}
	one, _ := j.Load(1)
	two, _ := j.Load(1)
	spoil(one)
	if string(two) != "abc" {
		t.Errorf("two answers share memory: %q", two)
	}
	spoil(two)
	holds(t, "behind a change of what was answered", j, want)
	there, again := j.Groups(), j.Groups()
	spoil(there)
	if !slices.Equal(again, []uint8{1, 2, 3}) {
		t.Errorf("two answers share memory: %v", again)
	}
	holds(t, "behind a change of Groups", j, want)

	j = opened(t, f, 0, 2)
	one, _ = j.Load(1)
	spoil(one)
	three, _ := j.Load(3)
	spoil(three)
	holds(t, "behind a change of what an opened one answered", j, want)
	is(t, "Store of its own bytes", j.Store(4, one), api.OK)
	spoil(one)
	holds(t, "stored from an answer", j, holding{1: "abc", 2: "de", 3: "", 4: "\x9e\x9d\x9c"})
}

// Neither Open nor a call that answers an error makes a step of what may not be done.
func TestErrorsChangeNothing(t *testing.T) { // P6.2, P6.4
	f := made(t, 2)
	j := opened(t, f, 0, 2)
	is(t, "Store", j.Store(0, filled(900, 0)), api.OK)
	steps := f.Steps()
	is(t, "Store", j.Store(16, nil), api.ErrGroup)
	is(t, "Store", j.Store(0, make([]byte, 4097)), api.ErrLimit)
	is(t, "Store", j.Store(0, make([]byte, 997)), api.ErrFull)
	is(t, "Store", j.Store(1, make([]byte, 97)), api.ErrFull)
	is(t, "Restore", j.Restore(16), api.ErrGroup)
	is(t, "Restore", j.Restore(1), api.ErrNone)
	if f.Steps() != steps {
		t.Errorf("%d steps, want %d", f.Steps(), steps)
	}
	holds(t, "behind errors", j, holding{0: string(filled(900, 0))})
	is(t, "Store", j.Store(1, filled(84, 1)), api.OK)
	finds(t, "behind errors", f, 0, 2, holding{0: string(filled(900, 0)), 1: string(filled(84, 1))})
}

// Who looks by an opening of its own does not disturb the journal that goes on.
func TestOpeningBeside(t *testing.T) { // P6.1, P6.2
	f := made(t, 3)
	j := opened(t, f, 0, 3)
	for i := range 200 {
		b := filled(i, byte(i))
		is(t, "Store", j.Store(uint8(i%2), b), api.OK)
		if i%7 == 0 {
			is(t, "Restore", j.Restore(uint8(i%2)), api.OK)
		}
		want := found(t, f, 0, 3)
		holds(t, "an opening beside", opened(t, f, 0, 3), want)
		finds(t, "behind it", f, 0, 3, want)
	}
}

func TestChapterExamples(t *testing.T) { // the section 'Examples'
	f := made(t, 4)
	j := opened(t, f, 0, 2)
	is(t, "Store", j.Store(1, []byte{1, 2, 3}), api.OK)
	if b, ok := j.Load(1); !bytes.Equal(b, []byte{1, 2, 3}) || !ok {
		t.Errorf("Load(1): %v, %t", b, ok)
	}
	if b, ok := j.Load(0); len(b) != 0 || ok {
		t.Errorf("Load(0): %v, %t", b, ok)
	}
	if g := j.Groups(); !slices.Equal(g, []uint8{1}) {
		t.Errorf("Groups: %v", g)
	}
	is(t, "Restore", j.Restore(1), api.OK)
	is(t, "Restore", j.Restore(0), api.ErrNone)
	if b, ok := j.Load(1); !bytes.Equal(b, []byte{1, 2, 3}) || !ok {
		t.Errorf("Load(1) of a marked one: %v, %t", b, ok)
	}
	j = opened(t, f, 0, 2)
	if g := j.Groups(); len(g) != 0 {
		t.Errorf("Groups behind an opening: %v", g)
	}
	is(t, "Store", j.Store(16, []byte{1}), api.ErrGroup)
	is(t, "Store", j.Store(0, make([]byte, 1000)), api.ErrFull)
	is(t, "Store", j.Store(0, make([]byte, 996)), api.OK)
	is(t, "Store", j.Store(2, nil), api.ErrFull)
}
