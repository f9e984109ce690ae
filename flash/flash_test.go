package flash_test

import (
	"bytes"
	"math"
	"slices"
	"testing"

	"campanile/api"
	"campanile/flash"
)

// ones is a word as an erasing leaves it.
var ones = [4]byte{255, 255, 255, 255}

// made tells a flash of so many sectors.
func made(t *testing.T, sectors int) *flash.Flash {
	t.Helper()
	f, errno := flash.New(sectors)
	if errno != api.OK || f == nil {
		t.Fatalf("New(%d): %v, %d", sectors, f, errno)
	}
	return f
}

// is holds an answer against what is wanted.
func is(t *testing.T, what string, got, want api.Errno) {
	t.Helper()
	if got != want {
		t.Errorf("%s: %d, want %d", what, got, want)
	}
}

// word holds a word against what is wanted.
func word(t *testing.T, f *flash.Flash, sector, place int, want [4]byte) {
	t.Helper()
	if got, errno := f.Word(sector, place); got != want || errno != api.OK {
		t.Errorf("Word(%d, %d): %v, %d, want %v", sector, place, got, errno, want)
	}
}

// all tells every byte of a flash whose power is there.
func all(t *testing.T, f *flash.Flash) []byte {
	t.Helper()
	var b []byte
	for n := range f.Sectors() {
		s, errno := f.Read(n)
		if errno != api.OK || len(s) != api.SectorSize {
			t.Fatalf("Read(%d): %d bytes, %d", n, len(s), errno)
		}
		b = append(b, s...)
	}
	return b
}

// look tells all that is to be seen of a flash, and leaves it as it is; of one without power the bytes are told by a copy that has it again.
func look(t *testing.T, f *flash.Flash) seen {
	t.Helper()
	c := f.Copy()
	c.On()
	return seen{f.Sectors(), f.Off(), f.Steps(), string(all(t, c)), left(f)}
}

type seen struct {
	sectors int
	off     bool
	steps   int64
	bytes   string
	left    int
}

// left tells, by a copy, how many steps are done yet ahead of the one at which the power goes; -1: not armed (so far as one can see), -2: it is gone.
func left(f *flash.Flash) int {
	c := f.Copy()
	if c.Off() {
		return -2
	}
	for n := range 40 {
		if c.Erase(0) == api.ErrCut {
			return n
		}
	}
	return -1
}

// same holds what is to be seen of a flash against what was seen.
func same(t *testing.T, what string, f *flash.Flash, want seen) {
	t.Helper()
	if got := look(t, f); got != want {
		got.bytes, want.bytes = "..", ".."
		t.Errorf("%s: %v, want %v (or other bytes)", what, got, want)
	}
}

func TestNew(t *testing.T) { // P5.1
	for _, n := range []int{1, 2, 3, 63, 64} {
		f := made(t, n)
		if got := f.Sectors(); got != n {
			t.Errorf("Sectors of New(%d): %d", n, got)
		}
		if b := all(t, f); len(b) != n*1024 || bytes.Count(b, []byte{255}) != n*1024 {
			t.Errorf("New(%d): %d bytes, %d of them 255", n, len(b), bytes.Count(b, []byte{255}))
		}
		if f.Off() || f.Steps() != 0 || left(f) != -1 {
			t.Errorf("New(%d): off %t, steps %d, armed %d", n, f.Off(), f.Steps(), left(f))
		}
	}
	for _, n := range []int{0, -1, math.MinInt, 65, 66, 1 << 20, math.MaxInt} {
		if f, errno := flash.New(n); f != nil || errno != api.ErrArg {
			t.Errorf("New(%d): %v, %d", n, f, errno)
		}
	}
	a, b := made(t, 2), made(t, 2)
	before := look(t, b)
	is(t, "Write", a.Write(0, 0, [4]byte{}), api.OK)
	a.Cut(0)
	same(t, "another flash", b, before)
}

func TestNilFlash(t *testing.T) { // P5.1
	var f *flash.Flash
	for _, n := range []int{math.MinInt, -1, 0, 1, 255, 256, math.MaxInt} {
		if b, errno := f.Read(n); len(b) != 0 || errno != api.ErrNil {
			t.Errorf("Read(%d): %v, %d", n, b, errno)
		}
		if w, errno := f.Word(n, n); w != [4]byte{} || errno != api.ErrNil {
			t.Errorf("Word(%d, %d): %v, %d", n, n, w, errno)
		}
		is(t, "Write", f.Write(n, n, ones), api.ErrNil)
		is(t, "Write", f.Write(n, 0, [4]byte{}), api.ErrNil)
		is(t, "Erase", f.Erase(n), api.ErrNil)
		f.Cut(n)
		f.On()
		if f.Off() || f.Sectors() != 0 || f.Steps() != 0 || f.Copy() != nil {
			t.Errorf("Off, Sectors, Steps, Copy: %t, %d, %d, %v", f.Off(), f.Sectors(), f.Steps(), f.Copy())
		}
	}
}

// One that is made without New has no sector.
func TestFlashByHand(t *testing.T) { // P5.1, P5.2
	f := &flash.Flash{}
	is(t, "Write", f.Write(0, 0, [4]byte{}), api.ErrSector)
	is(t, "Erase", f.Erase(0), api.ErrSector)
	f.Cut(0)
	is(t, "Erase", f.Copy().Erase(0), api.ErrSector)
	if f.Sectors() != 0 || f.Off() || f.Steps() != 0 {
		t.Errorf("%d sectors, off %t, %d steps", f.Sectors(), f.Off(), f.Steps())
	}
}

// badSectors and badWords are none of a flash of 3 sectors.
func badSectors() []int { return []int{-1, 3, 4, 63, 64, math.MinInt, math.MaxInt} }
func badWords() []int   { return []int{-1, 256, 257, 1023, math.MinInt, math.MaxInt} }

func TestOutside(t *testing.T) { // P5.2
	f := made(t, 3)
	is(t, "Write", f.Write(2, 255, [4]byte{}), api.OK)
	for _, after := range []int{-1, 0, 1} { // what is refused is no step: it neither is cut nor counts
		f.Cut(after)
		before := look(t, f)
		for _, n := range badSectors() {
			if b, errno := f.Read(n); len(b) != 0 || errno != api.ErrSector {
				t.Errorf("Read(%d): %v, %d", n, b, errno)
			}
			is(t, "Erase", f.Erase(n), api.ErrSector)
			for _, w := range append(badWords(), 0, 255) {
				if b, errno := f.Word(n, w); b != [4]byte{} || errno != api.ErrSector {
					t.Errorf("Word(%d, %d): %v, %d", n, w, b, errno)
				}
				is(t, "Write", f.Write(n, w, [4]byte{1, 2, 3, 4}), api.ErrSector)
			}
		}
		for _, w := range badWords() {
			for n := range 3 {
				if b, errno := f.Word(n, w); b != [4]byte{} || errno != api.ErrSector {
					t.Errorf("Word(%d, %d): %v, %d", n, w, b, errno)
				}
				is(t, "Write", f.Write(n, w, [4]byte{1, 2, 3, 4}), api.ErrSector)
			}
		}
		same(t, "behind what is refused", f, before)
	}
}

func TestFirstAndLast(t *testing.T) { // P5.2
	f := made(t, 64)
	for i, at := range [][2]int{{0, 0}, {0, 255}, {1, 0}, {63, 0}, {63, 255}} {
		b := [4]byte{byte(i), 20, 30, 40}
		is(t, "Write", f.Write(at[0], at[1], b), api.OK)
		word(t, f, at[0], at[1], b)
		s, errno := f.Read(at[0])
		if errno != api.OK || !bytes.Equal(s[4*at[1]:4*at[1]+4], b[:]) {
			t.Errorf("Read(%d): %d, word %d is another one", at[0], errno, at[1])
		}
	}
	want := bytes.Repeat([]byte{255}, 64*1024)
	for i, at := range []int{0, 1020, 1024, 63 * 1024, 63*1024 + 1020} {
		copy(want[at:], []byte{byte(i), 20, 30, 40})
	}
	if !bytes.Equal(all(t, f), want) {
		t.Error("other words than those that were written have changed")
	}
	is(t, "Erase", f.Erase(0), api.OK)
	is(t, "Erase", f.Erase(63), api.OK)
	for _, at := range []int{0, 1020, 63 * 1024, 63*1024 + 1020} {
		copy(want[at:], ones[:])
	}
	if !bytes.Equal(all(t, f), want) {
		t.Error("Erase of the first and the last sector")
	}
}

// Every byte over every byte, at each of a word's four places.
func TestBitsOnlyFall(t *testing.T) { // P5.2, P5.5
	f := made(t, 1)
	for place := range 4 {
		for stands := range 256 {
			for b := range 256 {
				is(t, "Erase", f.Erase(0), api.OK)
				old, new := ones, [4]byte{1, 2, 3, 4}
				old[place], new[place] = byte(stands), byte(b)
				is(t, "Write", f.Write(0, 9, old), api.OK)
				steps := f.Steps()
				if b&^stands != 0 {
					is(t, "Write of a bit that has fallen", f.Write(0, 9, new), api.ErrErase)
					word(t, f, 0, 9, old)
				} else {
					is(t, "Write", f.Write(0, 9, new), api.OK)
					word(t, f, 0, 9, new)
					steps++
				}
				if f.Steps() != steps {
					t.Errorf("%d over %d: %d steps, want %d", b, stands, f.Steps(), steps)
				}
			}
			if t.Failed() {
				t.FailNow()
			}
		}
	}
}

func TestSameWordTwice(t *testing.T) { // P5.2
	f := made(t, 1)
	for i, b := range [][4]byte{ones, {1, 2, 3, 4}, {1, 2, 3, 4}, {}, {}} {
		is(t, "Write", f.Write(0, 255, b), api.OK)
		word(t, f, 0, 255, b)
		if f.Steps() != int64(i+1) {
			t.Errorf("%d steps, want %d", f.Steps(), i+1)
		}
	}
	is(t, "Erase", f.Erase(0), api.OK)
	is(t, "Erase of an erased one", f.Erase(0), api.OK)
	word(t, f, 0, 255, ones)
	if f.Steps() != 7 {
		t.Errorf("%d steps, want 7", f.Steps())
	}
}

func TestGoneAheadOfAll(t *testing.T) { // P5.2
	f := made(t, 3)
	is(t, "Write", f.Write(1, 7, [4]byte{1, 2, 3, 4}), api.OK)
	f.Cut(0)
	is(t, "Erase", f.Erase(1), api.ErrCut)
	before := look(t, f)
	if !before.off {
		t.Fatal("the power is there")
	}
	for _, n := range append(badSectors(), 0, 1, 2) {
		if b, errno := f.Read(n); len(b) != 0 || errno != api.ErrCut {
			t.Errorf("Read(%d): %v, %d", n, b, errno)
		}
		is(t, "Erase", f.Erase(n), api.ErrCut)
		for _, w := range append(badWords(), 0, 7, 255) {
			if b, errno := f.Word(n, w); b != [4]byte{} || errno != api.ErrCut {
				t.Errorf("Word(%d, %d): %v, %d", n, w, b, errno)
			}
			is(t, "Write", f.Write(n, w, [4]byte{}), api.ErrCut)
			is(t, "Write of bits that have fallen", f.Write(n, w, ones), api.ErrCut)
		}
	}
	same(t, "without power", f, before)
	if f.Sectors() != 3 || f.Steps() != 1 {
		t.Errorf("Sectors, Steps without power: %d, %d", f.Sectors(), f.Steps())
	}
}

// What can't be written is no step: the power does not go at it, and it takes nothing off what is armed.
func TestEraseAheadOfCut(t *testing.T) { // P5.2
	f := made(t, 1)
	is(t, "Write", f.Write(0, 0, [4]byte{}), api.OK)
	for _, after := range []int{0, 1, 2} {
		f.Cut(after)
		before := look(t, f)
		for range 5 {
			is(t, "Write of a bit that has fallen", f.Write(0, 0, [4]byte{0, 0, 0, 1}), api.ErrErase)
		}
		same(t, "behind ErrErase", f, before)
	}
}

func TestCut(t *testing.T) { // P5.3
	for _, after := range []int{0, 1, 2, 3, 17} {
		f := made(t, 2)
		is(t, "Write", f.Write(1, 1, [4]byte{1, 1, 1, 1}), api.OK)
		f.Cut(after)
		for n := range after {
			is(t, "Write", f.Write(0, n, [4]byte{byte(n)}), api.OK)
			if f.Off() {
				t.Errorf("Cut(%d): off behind %d steps", after, n+1)
			}
		}
		before := look(t, f)
		if before.left != 0 {
			t.Errorf("Cut(%d): %d steps are left", after, before.left)
		}
		if after%2 == 0 {
			is(t, "Erase that is cut", f.Erase(1), api.ErrCut)
		} else {
			is(t, "Write that is cut", f.Write(1, 1, [4]byte{}), api.ErrCut)
		}
		if !f.Off() || f.Steps() != int64(after+1) {
			t.Errorf("Cut(%d): off %t, %d steps", after, f.Off(), f.Steps())
		}
		f.On()
		before.left = -1
		same(t, "behind On", f, before)
	}
}

func TestCutBelowNought(t *testing.T) { // P5.3
	for _, below := range []int{-1, -2, math.MinInt} {
		f := made(t, 1)
		f.Cut(below)
		if left(f) != -1 {
			t.Errorf("Cut(%d): %d are left", below, left(f))
		}
		f.Cut(0)
		f.Cut(below)
		if left(f) != -1 || f.Off() {
			t.Errorf("Cut(0), Cut(%d): %d are left", below, left(f))
		}
	}
}

func TestCutOfMuch(t *testing.T) { // P5.3
	f := made(t, 1)
	f.Cut(math.MaxInt)
	if left(f) != -1 {
		t.Errorf("%d are left", left(f))
	}
}

func TestSecondCut(t *testing.T) { // P5.3
	for _, first := range []int{0, 1, 5, 9} {
		for _, second := range []int{0, 1, 5, 9} {
			f := made(t, 1)
			f.Cut(first)
			if first > 0 {
				is(t, "Erase", f.Erase(0), api.OK)
			}
			f.Cut(second)
			if left(f) != second {
				t.Errorf("Cut(%d), Cut(%d): %d are left", first, second, left(f))
			}
		}
	}
}

// Without power arming brings nothing back, and nothing of it is left when the power is.
func TestCutWithoutPower(t *testing.T) { // P5.3
	for _, after := range []int{-1, 0, 1, 5} {
		f := made(t, 1)
		f.Cut(0)
		is(t, "Erase", f.Erase(0), api.ErrCut)
		f.Cut(after)
		if !f.Off() {
			t.Errorf("Cut(%d): the power is there", after)
		}
		is(t, "Erase", f.Erase(0), api.ErrCut)
		f.On()
		if left(f) != -1 || f.Off() {
			t.Errorf("Cut(%d), On: off %t, %d are left", after, f.Off(), left(f))
		}
	}
}

func TestOn(t *testing.T) { // P5.3
	f := made(t, 2)
	is(t, "Write", f.Write(1, 3, [4]byte{1, 2, 3, 4}), api.OK)
	before := look(t, f)
	f.On()
	same(t, "On with the power there", f, before)
	for _, after := range []int{0, 1, 7} {
		f.Cut(after)
		f.On()
		same(t, "On with something armed", f, before)
	}
	f.Cut(0)
	is(t, "Erase", f.Erase(1), api.ErrCut)
	f.On()
	same(t, "On behind a cut", f, before)
	word(t, f, 1, 3, [4]byte{1, 2, 3, 4})
	for range 50 {
		is(t, "Erase", f.Erase(0), api.OK)
	}
}

func TestReadIsTheCallers(t *testing.T) { // P5.4
	f := made(t, 2)
	is(t, "Write", f.Write(0, 1, [4]byte{1, 2, 3, 4}), api.OK)
	before := look(t, f)
	one, _ := f.Read(0)
	two, _ := f.Read(0)
	want := slices.Clone(two)
	clear(one)
	one = one[:cap(one)]
	for i := range one {
		one[i] = 7
	}
	same(t, "behind writing into what was read", f, before)
	if !bytes.Equal(two, want) {
		t.Error("two answers share memory")
	}
	is(t, "Write", f.Write(0, 1, [4]byte{}), api.OK)
	is(t, "Erase", f.Erase(0), api.OK)
	if !bytes.Equal(two, want) {
		t.Error("an answer changes with the flash")
	}
}

func TestCopyIsTheSame(t *testing.T) { // P5.3
	f := made(t, 3)
	is(t, "Write", f.Write(2, 255, [4]byte{1, 2, 3, 4}), api.OK)
	for _, after := range []int{-1, 0, 1, 2, 9} {
		f.Cut(after)
		c := f.Copy()
		if c == f || c == nil {
			t.Fatal("Copy: none of its own")
		}
		same(t, "a copy", c, look(t, f))
		same(t, "a copy's copy", c.Copy(), look(t, f))
		if left(f) != after {
			t.Errorf("Cut(%d): %d are left", after, left(f))
		}
	}
	f.Cut(0)
	is(t, "Erase", f.Erase(0), api.ErrCut)
	c := f.Copy()
	if !c.Off() {
		t.Error("a copy of one without power has it")
	}
	same(t, "a copy without power", c, look(t, f))
}

// Of two flashes that are the same, what is done to the one (the copy, or what was copied) is not seen in the other.
func TestCopySharesNothing(t *testing.T) { // P5.3, P5.4
	acts := []func(f *flash.Flash){
		func(f *flash.Flash) { f.Write(0, 0, [4]byte{}) },
		func(f *flash.Flash) { f.Write(2, 255, [4]byte{}) },
		func(f *flash.Flash) { f.Erase(1) },
		func(f *flash.Flash) { f.Cut(0) },
		func(f *flash.Flash) { f.Cut(5) },
		func(f *flash.Flash) { f.Cut(-1) },
		func(f *flash.Flash) { f.On() },
		func(f *flash.Flash) { f.Cut(0); f.Erase(1) },
	}
	for i, act := range acts {
		for _, copyActs := range []bool{false, true} {
			f := made(t, 3)
			is(t, "Write", f.Write(1, 1, [4]byte{1, 2, 3, 4}), api.OK)
			f.Cut(3)
			one, other := f, f.Copy()
			if copyActs {
				one, other = other, one
			}
			want := look(t, other)
			act(one)
			same(t, "the other one", other, want)
			changed := look(t, one)
			other.Erase(1)
			other.Write(0, 0, [4]byte{9, 9, 9, 9})
			other.Cut(0)
			other.Erase(2)
			same(t, "the one", one, changed)
			if t.Failed() {
				t.Fatalf("act %d, on the copy: %t", i, copyActs)
			}
		}
	}
}

func TestChapterExamples(t *testing.T) { // the section 'Examples'
	f := made(t, 2)
	is(t, "Write", f.Write(0, 1, [4]byte{1, 2, 3, 4}), api.OK)
	word(t, f, 0, 1, [4]byte{1, 2, 3, 4})
	is(t, "Write", f.Write(0, 1, [4]byte{1, 0, 3, 4}), api.OK)
	is(t, "Write", f.Write(0, 1, [4]byte{1, 2, 3, 4}), api.ErrErase)
	word(t, f, 0, 1, [4]byte{1, 0, 3, 4})

	f = made(t, 2)
	is(t, "Write", f.Write(2, 0, [4]byte{}), api.ErrSector)
	is(t, "Write", f.Write(0, 256, [4]byte{}), api.ErrSector)
	is(t, "Erase", f.Erase(-1), api.ErrSector)

	f = made(t, 2)
	f.Cut(1)
	is(t, "Erase", f.Erase(0), api.OK)
	is(t, "Write", f.Write(0, 0, [4]byte{}), api.ErrCut)
	if !f.Off() {
		t.Error("Off: false")
	}
	is(t, "Erase", f.Erase(1), api.ErrCut)
	f.On()
	word(t, f, 0, 0, ones)
}
