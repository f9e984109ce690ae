package client_test

import (
	"slices"
	"testing"

	"campanile/api"
	"campanile/client"
	"campanile/dict"
	"campanile/server"
)

const rw = api.RRead | api.RWrite

// carried is a frame on its way.
type carried struct {
	frame    api.Frame
	toServer bool
}

// pair is a client and a server, and a line between them that loses frames.
type pair struct {
	c           *client.Client
	s           *server.Server
	d           *dict.Dict
	now         int64
	serverFirst bool           // whose turn is first, when time goes on
	lost        func(int) bool // is the n-th frame of a transfer lost?
	between     func()         // what the device does between frames

	line        []carried
	gone        []carried // all frames of the transfer, in order, lost or not
	lastReached bool      // did the last frame of a write reach the server?
}

// paired makes a pair over entries; the waits are the client's and the server's.
func paired(t *testing.T, h server.Hook, waits [2]int64, l ...api.Entry) *pair {
	t.Helper()
	d, errno := dict.New(l)
	if errno != api.OK {
		t.Fatalf("dict.New: %d", errno)
	}
	s, _ := server.New(5, d, h, waits[1])
	c, _ := client.New(5, waits[0])
	return &pair{c: c, s: s, d: d}
}

// domain tells the text as an entry of any bytes, with a value.
func domain(b []byte) api.Entry {
	return api.Entry{Index: text.Index, Sub: text.Sub, Type: api.TDomain, Rights: rw, Default: b}
}

func (p *pair) send(l []api.Frame, toServer bool) {
	for _, f := range l {
		p.line = append(p.line, carried{f, toServer})
	}
}

// carry lets all go that is on the line, and what comes of it.
func (p *pair) carry() {
	for len(p.line) > 0 {
		x := p.line[0]
		p.line = p.line[1:]
		n := len(p.gone)
		p.gone = append(p.gone, x)
		if p.between != nil {
			p.between()
		}
		switch {
		case p.lost != nil && p.lost(n):
		case x.toServer:
			p.lastReached = p.lastReached || isLast(x.frame)
			p.send(p.s.Hear(x.frame, p.now), false)
		default:
			p.send(p.c.Hear(x.frame, p.now), true)
		}
	}
}

// isLast: is it the last frame of a write, by which it is committed? (No segment of these tests looks so: it has a byte that is not 0 behind the third one, or a number that is another one.)
func isLast(f api.Frame) bool {
	b := f.Data
	switch {
	case b[0] >= 0x22 && b[0] <= 0x2F: // Write, Quick
		return true
	case b[0] <= 0x1F: // Part, Last
		return b[0]&1 == 1
	}
	return b[0]&0xE3 == 0xC1 && [5]byte(b[3:]) == [5]byte{} // PutEnd
}

// tick lets a tick go by.
func (p *pair) tick() {
	p.now++
	if p.serverFirst {
		p.send(p.s.Tick(p.now), false)
		p.send(p.c.Tick(p.now), true)
	} else {
		p.send(p.c.Tick(p.now), true)
		p.send(p.s.Tick(p.now), false)
	}
	p.carry()
}

// ends carries on till the client is done, and tells how.
func (p *pair) ends(t *testing.T, l []api.Frame, errno api.Errno) client.Result {
	t.Helper()
	if errno != api.OK {
		t.Fatalf("it does not begin: %d", errno)
	}
	p.gone, p.lastReached = nil, false
	p.send(l, true)
	p.carry()
	for p.c.Busy() {
		p.tick()
	}
	r, done := p.c.Done()
	if !done {
		t.Fatal("no result")
	}
	return r
}

func (p *pair) write(t *testing.T, b []byte, mode uint8) client.Result {
	t.Helper()
	l, errno := p.c.Write(text, b, mode, p.now)
	return p.ends(t, l, errno)
}

func (p *pair) read(t *testing.T, mode uint8) client.Result {
	t.Helper()
	l, errno := p.c.Read(text, mode, p.now)
	return p.ends(t, l, errno)
}

// holds a write against what is promised, and tells whether it was committed.
func (p *pair) holdWrite(t *testing.T, r client.Result, b, before []byte, changes int64) bool {
	t.Helper()
	if r.Place != text || !r.Write || len(r.Data) != 0 {
		t.Errorf("another result: %v", r)
	}
	value, _ := p.d.Get(text)
	n := p.d.Changes() - changes
	switch {
	case n == 0 && slices.Equal(value, before):
	case n == 1 && slices.Equal(value, b):
	default:
		t.Errorf("%d changes, %d bytes, of which %d were to be written", n, len(value), len(b))
	}
	if r.Code == 0 && n != 1 {
		t.Errorf("it ends with 0, and is committed %d times", n)
	}
	if !p.lastReached && n != 0 {
		t.Errorf("it is committed, and its last frame has not come")
	}
	return n == 1
}

// waitsOfBoth are who waits longer.
func waitsOfBoth() [][2]int64 { return [][2]int64{{10, 10}, {10, 25}, {25, 10}} }

// Without losses all bytes go over, by each mode.
func TestPairs(t *testing.T) { // P11.6
	for _, n := range append(lengths(), 127*7-1, 127*7, 127*7+1) {
		for mode := range uint8(3) {
			p := paired(t, nil, [2]int64{10, 10}, domain([]byte("before")))
			if r := p.write(t, some(n), mode); r.Code != 0 || !p.holdWrite(t, r, some(n), []byte("before"), 0) {
				t.Errorf("%d bytes, mode %d: written: %v", n, mode, r)
			}
			changes := p.d.Changes()
			if r := p.read(t, mode); !sameResult(r, client.Result{Place: text, Data: some(n)}) || p.d.Changes() != changes {
				t.Errorf("%d bytes, mode %d: read: %v", n, mode, r)
			}
			if _, on := p.s.Busy(); on || p.now != 0 {
				t.Errorf("%d bytes, mode %d: the server is busy, or time went on", n, mode)
			}
		}
	}
}

// 4096 bytes in blocks are 586 segments, and 5 acknowledgements.
func TestFramesOfBlocks(t *testing.T) { // P11.3, P11.6
	p := paired(t, nil, [2]int64{10, 10}, domain(nil))
	p.write(t, some(4096), client.Blocks)
	if n := len(p.gone); n != 2+586+5+2 {
		t.Errorf("%d frames of a write", n)
	}
	p.read(t, client.Blocks)
	if n := len(p.gone); n != 3+586+5+2 {
		t.Errorf("%d frames of a read", n)
	}
	p = paired(t, nil, [2]int64{10, 10}, domain(some(4096)))
	p.lost = func(n int) bool { return n == 3+50 }
	// 50 of the first block's 127 are good; 536 go again, behind one acknowledgement more.
	if r := p.read(t, client.Blocks); r.Code != 0 || len(p.gone) != 3+127+536+6+2 {
		t.Errorf("with one lost: %X, %d frames", r.Code, len(p.gone))
	}
}

// amidBlock: is a frame one of a block, and not the one that ends it? (All else goes to and fro by turns.)
func amidBlock(gone []carried, n int) bool {
	return n+1 < len(gone) && gone[n].toServer == gone[n+1].toServer
}

// eachLost runs a transfer once for each of its frames, and loses that.
func eachLost(t *testing.T, run func(p *pair) client.Result, value []byte, check func(p *pair, r client.Result, whole []carried, n int)) {
	t.Helper()
	whole := paired(t, nil, [2]int64{10, 10}, domain(value))
	run(whole)
	for n := range whole.gone {
		for i, waits := range waitsOfBoth() {
			if len(whole.gone) > 50 && n%3 != i {
				continue
			}
			p := paired(t, nil, waits, domain(value))
			p.serverFirst = n%2 == 0
			p.lost = func(i int) bool { return i == n }
			r := run(p)
			if r.Code != 0 && r.Code != api.AbTimeout {
				t.Errorf("frame %d lost: %X", n, r.Code)
			}
			check(p, r, whole.gone, n)
		}
	}
}

// someLengths are those of values each of whose frames is lost in turn.
func someLengths(mode uint8) []int {
	l := []int{0, 1, 4, 5, 7, 8, 14, 15, 30}
	if mode == client.Blocks {
		l = append(l, 127*7, 127*7+1, 300*7-2)
	}
	return l
}

func TestWritesWithAFrameLost(t *testing.T) { // P11.6
	for mode := range uint8(3) {
		for _, length := range someLengths(mode) {
			b := some(length)
			run := func(p *pair) client.Result { return p.write(t, b, mode) }
			eachLost(t, run, []byte("before"), func(p *pair, r client.Result, whole []carried, n int) {
				committed := p.holdWrite(t, r, b, []byte("before"), 0)
				if amid := amidBlock(whole, n); (r.Code == 0) != amid {
					t.Errorf("mode %d, %d bytes, frame %d lost: %X", mode, length, n, r.Code)
				}
				if wanted := r.Code == 0 || n == len(whole)-1; committed != wanted { // the last one tells that it is committed
					t.Errorf("mode %d, %d bytes, frame %d lost: committed: %t", mode, length, n, committed)
				}
			})
		}
	}
}

func TestReadsWithAFrameLost(t *testing.T) { // P11.6
	for mode := range uint8(3) {
		for _, length := range someLengths(mode) {
			b := some(length)
			run := func(p *pair) client.Result { return p.read(t, mode) }
			eachLost(t, run, b, func(p *pair, r client.Result, whole []carried, n int) {
				// In blocks the client is the one who tells that it is over.
				good := amidBlock(whole, n) || mode == client.Blocks && n == len(whole)-1
				want := client.Result{Place: text, Data: b}
				if !good {
					want = client.Result{Place: text, Code: api.AbTimeout}
				}
				if !sameResult(r, want) || p.d.Changes() != 0 {
					t.Errorf("mode %d, %d bytes, frame %d lost: %X, %d bytes", mode, length, n, r.Code, len(r.Data))
				}
			})
		}
	}
}

// Transfers one behind the other, of which any frames are lost, the stops among them: what was left under way at the server does no harm.
func TestManyLosses(t *testing.T) { // P11.6
	ends := map[api.Abort]int{}
	for seed := range 300 {
		dice := dice(seed)
		p := paired(t, nil, waitsOfBoth()[dice.roll(3)], domain(some(20)))
		p.serverFirst = dice.often(50)
		percent := []int{0, 1, 3, 10, 30}[dice.roll(5)]
		p.lost = func(int) bool { return dice.often(percent) }
		for range 25 {
			mode := uint8(dice.roll(3))
			before, _ := p.d.Get(text)
			if dice.often(50) {
				b := some([]int{dice.roll(8), dice.roll(60), 5 + 7*dice.roll(300)}[dice.roll(3)])
				for i := range b {
					b[i] = 1 + b[i]%7*byte(1+dice.roll(9)) // unlike from one to the next
				}
				changes := p.d.Changes()
				r := p.write(t, b, mode)
				p.holdWrite(t, r, b, before, changes)
				ends[r.Code]++
			} else {
				p.readAmidChanges(t, &dice, mode, ends)
			}
			for range dice.roll(30) {
				p.tick()
			}
			p.c.Done()
		}
		if t.Failed() {
			t.Fatalf("row %d", seed)
		}
	}
	if ends[0] < 1000 || ends[api.AbTimeout] < 500 {
		t.Errorf("the ends: %v", ends)
	}
}

// readAmidChanges reads while the device sets the value as it likes: what is read is one of these.
func (p *pair) readAmidChanges(t *testing.T, d *dice, mode uint8, ends map[api.Abort]int) {
	t.Helper()
	before, _ := p.d.Get(text)
	shown := [][]byte{before}
	p.between = func() {
		if d.often(10) {
			b := slices.Clone(some(d.roll(100)))
			for i := range b {
				b[i] += byte(len(shown))
			}
			shown = append(shown, b)
			p.d.Set(text, b)
		}
	}
	r := p.read(t, mode)
	p.between = nil
	ends[r.Code]++
	if r.Place != text || r.Write || r.Code != 0 && len(r.Data) != 0 {
		t.Errorf("another result: %v", r)
	}
	if r.Code == 0 && !slices.ContainsFunc(shown, func(b []byte) bool { return slices.Equal(b, r.Data) }) {
		t.Errorf("%v was read, which was never there", r.Data)
	}
}

// hook answers a code.
type hook api.Abort

func (h hook) Asked(uint8, api.Place, []byte) api.Abort { return api.Abort(h) }

// several tells entries of each kind of rights, with bounds and without.
func several() []api.Entry {
	return []api.Entry{
		{Index: 0x2000, Type: api.TUint8, Rights: api.RRead, Default: []byte{1}},
		{Index: 0x2000, Sub: 1, Type: api.TUint8, Rights: rw, Default: []byte{5}, Low: []byte{1}, High: []byte{9}},
		{Index: 0x2002, Type: api.TText, Rights: rw, Default: []byte("a text of twenty one")},
		{Index: 0x2003, Sub: 1, Type: api.TUint8, Rights: api.RWrite},
		{Index: 0x2003, Sub: 4, Type: api.TUint32, Rights: rw, Tag: 4},
		{Index: 0x2003, Sub: 8, Type: api.TUint64, Rights: rw},
		{Index: 0x2004, Type: api.TDomain, Rights: rw, Tag: 7},
		{Index: 0x2004, Sub: 1, Type: api.TOctets, Rights: api.RRead, Default: some(100)},
		{Index: 0x2004, Sub: 3, Type: api.TText},
	}
}

// Without losses a transfer ends as the dictionary says, and its hook.
func TestEndsAsTheDictionarySays(t *testing.T) { // P11.6
	places := []api.Place{at(0x2001, 0), at(0x2000, 2), {}}
	for _, e := range several() {
		places = append(places, at(e.Index, e.Sub))
	}
	ends := map[api.Abort]bool{}
	for _, place := range places {
		for mode := range uint8(3) {
			for _, h := range []hook{0, hook(api.AbState)} {
				for _, b := range [][]byte{nil, {0}, {7}, {10}, {7, 7}, {1, 2, 3, 4}, some(8), some(9), some(1000), []byte("\xFF\xFE\xFD\xFC\xFB")} {
					p := paired(t, h, [2]int64{10, 10}, several()...)
					tag, code := p.d.May(place, b)
					if code == 0 && tag != 0 {
						code = api.Abort(h)
					}
					before, _ := p.d.Get(place)
					l, errno := p.c.Write(place, b, mode, 0)
					if r := p.ends(t, l, errno); !sameResult(r, client.Result{Place: place, Write: true, Code: code}) {
						t.Errorf("%x, mode %d, % x: written: %v, want %X", place, mode, b, r, code)
					}
					ends[code] = true
					if value, _ := p.d.Get(place); code == 0 && !slices.Equal(value, b) || code != 0 && !slices.Equal(value, before) {
						t.Errorf("%x, mode %d: % x, not % x", place, mode, value, b)
					}
					value, code := p.d.Read(place)
					l, errno = p.c.Read(place, mode, 0)
					if r := p.ends(t, l, errno); !sameResult(r, client.Result{Place: place, Data: value, Code: code}) {
						t.Errorf("%x, mode %d: read: %v, want %X", place, mode, r, code)
					}
					ends[code] = true
				}
			}
		}
	}
	for _, code := range []api.Abort{0, api.AbNoEntry, api.AbNoSub, api.AbReadOnly, api.AbWriteOnly, api.AbHigh, api.AbLow, api.AbLong, api.AbShort, api.AbState} {
		if !ends[code] {
			t.Errorf("nothing ended with %X", code)
		}
	}
}

// What the client stops is stopped at the server, too.
func TestStopsOfTheClient(t *testing.T) { // P11.4, P11.6
	for mode := range uint8(3) {
		for _, isWrite := range []bool{false, true} {
			p := paired(t, nil, [2]int64{10, 10}, domain([]byte("before")))
			begin := func() (l []api.Frame) {
				if isWrite {
					l, _ = p.c.Write(text, some(20), mode, 0)
				} else {
					l, _ = p.c.Read(text, mode, 0)
				}
				return l
			}
			p.send(p.s.Hear(begin()[0], 0), false)
			if _, on := p.s.Busy(); !on {
				t.Errorf("mode %d: the server is not busy", mode)
			}
			p.line = nil
			p.send(p.c.Stop(api.AbState), true)
			p.carry()
			if _, on := p.s.Busy(); on || p.d.Changes() != 0 {
				t.Errorf("mode %d: the server is busy, or has written", mode)
			}
			failed(t, p.c, isWrite, api.AbState)
		}
	}
}
