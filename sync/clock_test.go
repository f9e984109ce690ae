package sync_test

import (
	"fmt"
	"math"
	"testing"

	"campanile/api"
	"campanile/frame"
	"campanile/sync"
	"campanile/types"
)

const dayLength = 86400000

// stamped holds what Stamped tells of a frame that is one.
func stamped(t *testing.T, f api.Frame, id, days uint16, ms uint32) {
	t.Helper()
	if d, m, ok := sync.Stamped(f, id); d != days || m != ms || !ok {
		t.Errorf("Stamped(%v, %x): %d, %d, %t, want %d, %d", f, id, d, m, ok, days, ms)
	}
}

func notStamped(t *testing.T, f api.Frame, id uint16) {
	t.Helper()
	if d, m, ok := sync.Stamped(f, id); d != 0 || m != 0 || ok {
		t.Errorf("Stamped(%v, %x): %d, %d, %t, want nothing", f, id, d, m, ok)
	}
}

func TestStamp(t *testing.T) { // P15.5
	for _, c := range []struct {
		id, days uint16
		ms       uint32
		want     string
	}{
		{0x100, 0, 0, "100#000000000000"},
		{0x100, 2, 1, "100#010000000200"},
		{0, 65535, 86399999, "000#FF5B2605FFFF"},
		{0x7FF, 0x1234, 0x01020304, "7FF#040302013412"},
		{0x7FE, 256, 256, "7FE#000100000001"},
		{1, 255, 65536, "001#00000100FF00"},
		{2, 1, 0x04000000, "002#000000040100"},
	} {
		f, errno := sync.Stamp(c.id, c.days, c.ms)
		if errno != api.OK || f != read(t, c.want) {
			t.Errorf("Stamp(%x, %d, %d): %v, %d, want %s", c.id, c.days, c.ms, f, errno, c.want)
		}
		stamped(t, f, c.id, c.days, c.ms)
		// Its bytes are a value of the type TTime, whose text tells days and milliseconds.
		if s, errno := types.Text(api.TTime, frame.Data(f)); errno != api.OK || s != fmt.Sprintf("%d:%d", c.days, c.ms) {
			t.Errorf("Stamp(%x, %d, %d) carries the time %s, %d", c.id, c.days, c.ms, s, errno)
		}
	}
}

func TestStampRefused(t *testing.T) { // P15.5
	for _, c := range []struct {
		id uint16
		ms uint32
	}{
		{0x800, 0}, {0xFFFF, 0}, {0x900, 5}, {0x800, 86399999},
		{0, 86400000}, {0x7FF, 86400000}, {0x100, 86400001}, {0x100, math.MaxUint32}, {0x100, 1 << 31},
		{0x800, 86400000},
	} {
		for _, days := range []uint16{0, 65535} {
			if f, errno := sync.Stamp(c.id, days, c.ms); errno != api.ErrArg || f != (api.Frame{}) {
				t.Errorf("Stamp(%x, %d, %d): %v, %d, want ErrArg", c.id, days, c.ms, f, errno)
			}
		}
	}
}

func TestStamped(t *testing.T) { // P15.5
	right := read(t, "100#040302013412")
	stamped(t, right, 0x100, 0x1234, 0x01020304)
	stamped(t, read(t, "7FF#FF5B26050000"), 0x7FF, 0, 86399999)
	stamped(t, read(t, "000#000000000000"), 0, 0, 0)
	for _, id := range []uint16{0, 0xFF, 0x101, 0x7FF, 0x900, 0x8100, 0xFFFF} {
		notStamped(t, right, id)
		other := right
		other.ID = id
		notStamped(t, other, 0x100)
	}
	for _, id := range []uint16{0x800, 0x900, 0xFFFF} { // a frame that is not right is none, though the IDs are one
		other := right
		other.ID = id
		notStamped(t, other, id)
		notStamped(t, api.Frame{}, id) // nor is the frame beside an error
		notStamped(t, api.Frame{ID: id}, id)
	}
	for _, n := range []int{math.MinInt, -1, 0, 1, 2, 3, 4, 5, 7, 8, 9, 262, math.MaxInt} {
		other := right
		other.Len = n
		notStamped(t, other, 0x100)
		notStamped(t, api.Frame{ID: 0x100, Len: n}, 0x100)
		notStamped(t, api.Frame{ID: 0x100, Len: n, Remote: true}, 0x100)
	}
	for _, text := range []string{"100#R6", "100#R0", "100#", "100#01020304", "100#0403020134", "100#04030201341200", "100#0403020134120000"} {
		notStamped(t, read(t, text), 0x100)
	}
	asks := right
	asks.Remote = true
	notStamped(t, asks, 0x100)
	for _, place := range []int{6, 7} { // bytes behind its length
		other := right
		other.Data[place] = 1
		notStamped(t, other, 0x100)
	}
	for _, text := range []string{"100#005C26050000", "100#015C26053412", "100#FFFFFFFF0100", "100#000000060000", "100#000000800000"} { // 86400000 milliseconds or more
		notStamped(t, read(t, text), 0x100)
	}
}

func TestSet(t *testing.T) { // P15.6
	for _, c := range []struct {
		days uint16
		ms   uint32
		now  int64
	}{
		{0, 0, 0}, {1, 2, 3}, {65535, 86399999, 0}, {7, 86399999, api.MaxTime}, {65535, 0, api.MaxTime},
	} {
		k := clock(t, c.days, c.ms, c.now)
		shows(t, k, c.now, c.days, c.ms)
		shows(t, k, c.now, c.days, c.ms) // asking changes nothing
	}
}

// What is refused leaves the clock as it was: not set, or set.
func TestSetRefused(t *testing.T) { // P15.6
	type args struct {
		ms  uint32
		now int64
	}
	wrong := []args{{86400000, 10}, {86400001, 10}, {math.MaxUint32, 10}, {86400000, -1}}
	for _, now := range noTimes() {
		wrong = append(wrong, args{0, now}, args{86399999, now}, args{86400000, now})
	}
	for _, isSet := range []bool{false, true} {
		k := new(sync.Clock)
		if isSet {
			sets(t, k, 3, 5, 20)
		}
		for _, a := range wrong {
			if errno := k.Set(9, a.ms, a.now); errno != api.ErrArg {
				t.Errorf("Set(9, %d, %d): %d, want ErrArg", a.ms, a.now, errno)
			}
			showsNothing(t, k, 10)
			if isSet {
				shows(t, k, 20, 3, 5)
			} else {
				showsNothing(t, k, 20)
			}
		}
	}
}

func TestNilClock(t *testing.T) { // P15.6
	var k *sync.Clock
	for _, now := range append(noTimes(), 0, 10, api.MaxTime) {
		for _, ms := range []uint32{0, 86399999, 86400000} {
			if errno := k.Set(1, ms, now); errno != api.ErrNil {
				t.Errorf("Set(1, %d, %d): %d, want ErrNil", ms, now, errno)
			}
		}
		showsNothing(t, k, now)
	}
}

// A clock that was not set shows nothing.
func TestNotSet(t *testing.T) { // P15.6
	var k sync.Clock
	for _, now := range append(noTimes(), 0, 1, dayLength, api.MaxTime) {
		showsNothing(t, &k, now)
	}
}

// Set anew, only what was set last counts.
func TestSetTwice(t *testing.T) { // P15.6
	k := clock(t, 3, 5, 20)
	sets(t, k, 1, 7, 30)
	showsNothing(t, k, 20)
	showsNothing(t, k, 29)
	shows(t, k, 30, 1, 7)
	shows(t, k, 33, 1, 10)
	sets(t, k, 8, 9, 10) // ahead of what was
	showsNothing(t, k, 9)
	shows(t, k, 10, 8, 9)
	shows(t, k, 30, 8, 29)
	sets(t, k, 0, 0, 10)
	shows(t, k, 10, 0, 0)
}

func TestAt(t *testing.T) { // P15.6
	k := clock(t, 3, 86399990, 100)
	for _, now := range append(noTimes(), 0, 1, 99) {
		showsNothing(t, k, now)
	}
	shows(t, k, 100, 3, 86399990)
	shows(t, k, 109, 3, 86399999)
	shows(t, k, 110, 4, 0) // midnight
	shows(t, k, 111, 4, 1)
	shows(t, k, 100+dayLength-1, 4, 86399989)
	shows(t, k, 100+dayLength, 4, 86399990)
	shows(t, k, 100+dayLength+10, 5, 0)
	shows(t, k, 100+7*dayLength, 10, 86399990)
	shows(t, k, 100, 3, 86399990) // time may go back, but not ahead of when it was set
}

// Behind day 65535 comes day 0; all times are shown.
func TestAtGreatTimes(t *testing.T) { // P15.6
	k := clock(t, 65535, 86399999, 0)
	shows(t, k, 0, 65535, 86399999)
	shows(t, k, 1, 0, 0)
	shows(t, k, dayLength, 0, 86399999)
	shows(t, k, dayLength+1, 1, 0)
	shows(t, k, api.MaxTime, 12725, 71627775) // 2^40 is 12725 days and 71627776
	k = clock(t, 65534, 0, dayLength)
	shows(t, k, 2*dayLength, 65535, 0)
	shows(t, k, 3*dayLength-1, 65535, 86399999)
	shows(t, k, 3*dayLength, 0, 0)
	k = clock(t, 5, 86399999, api.MaxTime)
	shows(t, k, api.MaxTime, 5, 86399999)
	showsNothing(t, k, api.MaxTime-1)
	showsNothing(t, k, api.MaxTime+1)
	k = clock(t, 65535, 0, 1)
	shows(t, k, api.MaxTime, 12724, 71627775)
}

// Clocks have nothing in common.
func TestClocksApart(t *testing.T) { // P15.6
	a, b := clock(t, 1, 2, 3), clock(t, 4, 5, 6)
	shows(t, a, 6, 1, 5)
	shows(t, b, 6, 4, 5)
}
