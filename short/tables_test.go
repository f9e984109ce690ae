package short_test

import (
	"slices"
	"strings"
	"testing"

	"campanile/api"
	"campanile/short"
)

// row is a row of the chapter's tables for one number of b0: what the command is beside what the other bytes tell, and what these are, a letter each: i and u a place, d data, z a size, c a code, q Seq, k Block, m a sum, . nothing.
type row struct {
	c    short.Cmd
	rest string
}

// table tells the rows of a side by b0.
type table map[byte]row

// beginRows are those of a client's Write, or of a server's Read.
func (l table) beginRows(kind uint8, first byte) {
	l[first+0x3] = row{short.Cmd{Kind: kind, Quick: true, Sized: true}, "iiudddd"}
	l[first+0x7] = row{short.Cmd{Kind: kind, Quick: true, Sized: true}, "iiuddd."}
	l[first+0xB] = row{short.Cmd{Kind: kind, Quick: true, Sized: true}, "iiudd.."}
	l[first+0xF] = row{short.Cmd{Kind: kind, Quick: true, Sized: true}, "iiud..."}
	l[first+0x2] = row{short.Cmd{Kind: kind, Quick: true}, "iiudddd"}
	l[first+0x1] = row{short.Cmd{Kind: kind, Sized: true}, "iiuzzzz"}
	l[first] = row{short.Cmd{Kind: kind}, "iiu...."}
}

// partRows are those of a client's Part, or of a server's More.
func (l table) partRows(kind uint8) {
	for i, toggle := range []bool{false, true} {
		first := byte(0x10 * i)
		l[first] = row{short.Cmd{Kind: kind, Toggle: toggle}, "ddddddd"}
		for empty := range 8 {
			l[first+byte(2*empty)+1] = row{short.Cmd{Kind: kind, Toggle: toggle, Last: true}, "ddddddd"[empty:] + "......."[:empty]}
		}
	}
}

// endRows are those of a client's PutEnd, or of a server's GetEnd.
func (l table) endRows(kind uint8) {
	for empty := range 8 {
		l[0xC1+byte(4*empty)] = row{short.Cmd{Kind: kind, Empty: empty}, "mm....."}
	}
}

// bothRows are those of other kinds that both sides have: who tells a size when blocks begin, and who tells a Block.
func (l table) bothRows(sized, counted uint8) {
	l[0x80] = row{short.Cmd{Kind: short.Stop}, "iiucccc"}
	l[0xA2] = row{short.Cmd{Kind: short.Ack}, "qk....."}
	l[0xC0] = row{short.Cmd{Kind: sized}, "iiu...."}
	l[0xC2] = row{short.Cmd{Kind: sized, Sized: true}, "iiuzzzz"}
	l[0xC4] = row{short.Cmd{Kind: sized, Check: true}, "iiu...."}
	l[0xC6] = row{short.Cmd{Kind: sized, Check: true, Sized: true}, "iiuzzzz"}
	l[0xA0] = row{short.Cmd{Kind: counted}, "iiuk..."}
	l[0xA4] = row{short.Cmd{Kind: counted, Check: true}, "iiuk..."}
}

func clientTable() table {
	l := table{}
	l.beginRows(short.Write, 0x20)
	l.partRows(short.Part)
	l.endRows(short.PutEnd)
	l.bothRows(short.Put, short.Get)
	l[0x40] = row{short.Cmd{Kind: short.Read}, "iiu...."}
	l[0x60] = row{short.Cmd{Kind: short.More}, "......."}
	l[0x70] = row{short.Cmd{Kind: short.More, Toggle: true}, "......."}
	l[0xA3] = row{short.Cmd{Kind: short.GetStart}, "......."}
	l[0xA1] = row{short.Cmd{Kind: short.GetEnd}, "......."}
	return l
}

func serverTable() table {
	l := table{}
	l.beginRows(short.Read, 0x40)
	l.partRows(short.More)
	l.endRows(short.GetEnd)
	l.bothRows(short.Get, short.Put)
	l[0x60] = row{short.Cmd{Kind: short.Write}, "iiu...."}
	l[0x20] = row{short.Cmd{Kind: short.Part}, "......."}
	l[0x30] = row{short.Cmd{Kind: short.Part, Toggle: true}, "......."}
	l[0xA1] = row{short.Cmd{Kind: short.PutEnd}, "......."}
	return l
}

// read tells the command of bytes, by the letters; false, if there is none.
func (l table) read(b [8]byte) (short.Cmd, bool) {
	r, ok := l[b[0]]
	if !ok {
		return short.Cmd{}, false
	}
	c, numbers := r.c, map[rune][]byte{}
	for i, letter := range r.rest {
		numbers[letter] = append(numbers[letter], b[1+i])
	}
	for _, x := range numbers['.'] {
		if x != 0 {
			return short.Cmd{}, false
		}
	}
	number := func(letter rune) (n uint32) {
		for i, x := range numbers[letter] {
			n += uint32(x) << (8 * i)
		}
		return n
	}
	c.Place = at(uint16(number('i')), uint8(number('u')))
	c.Data, c.Size, c.Code = numbers['d'], number('z'), api.Abort(number('c'))
	c.Seq, c.Block, c.Sum = int(number('q')), int(number('k')), uint16(number('m'))
	if c.Seq > 127 || c.Block > 127 || len(numbers['k']) == 1 && c.Block == 0 {
		return short.Cmd{}, false
	}
	return c, true
}

// tell tells the bytes of a command: those, by any row, out of which it is read; false, if there are none.
func (l table) tell(c short.Cmd) ([8]byte, bool) {
	for first, r := range l {
		if r.c.Kind != c.Kind {
			continue
		}
		b, data := [8]byte{first}, slices.Clone(c.Data)
		for i, letter := range r.rest {
			switch letter {
			case 'i':
				b[1+i] = byte(c.Place.Index >> (8 * i))
			case 'u':
				b[1+i] = c.Place.Sub
			case 'd':
				if len(data) > 0 {
					b[1+i], data = data[0], data[1:]
				}
			case 'z':
				b[1+i] = byte(c.Size >> (8 * (i - 3)))
			case 'c':
				b[1+i] = byte(c.Code >> (8 * (i - 3)))
			case 'q':
				b[1+i] = byte(c.Seq)
			case 'k':
				b[1+i] = byte(c.Block)
			case 'm':
				b[1+i] = byte(c.Sum >> (8 * i))
			}
		}
		if again, ok := l.read(b); ok && same(again, c) {
			return b, true
		}
	}
	return [8]byte{}, false
}

// agrees checks what a side reads out of bytes, by its table; it tells whether they are a command's.
func agrees(t *testing.T, s side, b [8]byte) bool {
	t.Helper()
	want, ok := s.rows.read(b)
	if !ok {
		unread(t, s, b)
		return false
	}
	told(t, s, pair{want, b})
	return true
}

// dice tells numbers that look random and are the same in each run.
type dice uint32

func (d *dice) next(n int) int {
	*d = *d*1664525 + 1013904223
	return int(uint32(*d)>>8) % n
}

// The tables of this test are those of the pairs that are told by hand.
func TestTablesHavePairs(t *testing.T) {
	for _, s := range sides() {
		for _, x := range s.all {
			if c, ok := s.rows.read(x.b); !ok || !same(c, x.c) {
				t.Errorf("%s % X: %+v, %t", s.name, x.b, c, ok)
			}
			if b, ok := s.rows.tell(x.c); !ok || b != x.b {
				t.Errorf("%s %+v: % X, %t", s.name, x.c, b, ok)
			}
		}
	}
}

// Each number of b0, with noughts, with one bit more, with one byte more, and with all bytes.
func TestEachFirstByte(t *testing.T) { // P9.2, P9.4
	for _, s := range sides() {
		for first := range 256 {
			agrees(t, s, [8]byte{byte(first)})
			agrees(t, s, [8]byte{byte(first), 1, 1, 1, 1, 1, 1, 1})
			agrees(t, s, [8]byte{byte(first), 1, 2, 3, 4, 0, 0, 0})
			agrees(t, s, [8]byte{byte(first), 1, 2, 0, 0, 0, 0, 0})
			for i := 1; i < 8; i++ {
				for value := 1; value < 256; value++ {
					b := [8]byte{byte(first)}
					b[i] = byte(value)
					agrees(t, s, b)
				}
			}
		}
	}
}

// Of each row that is told by hand each bit is turned: what is then not named is refused, what is named is read.
func TestEachBitTurned(t *testing.T) { // P9.2, P9.4
	for _, s := range sides() {
		for _, x := range s.all {
			for i := range 64 {
				b := x.b
				b[i/8] ^= 1 << (i % 8)
				agrees(t, s, b)
			}
			for i := range 8 {
				b := x.b
				b[i] = ^b[i]
				agrees(t, s, b)
			}
		}
	}
}

func TestThrownBytes(t *testing.T) { // P9.2, P9.4, P9.7
	d := dice(1)
	for _, s := range sides() {
		rights := 0
		for range 200000 {
			b := [8]byte{byte(d.next(256))}
			for range d.next(8) {
				b[1+d.next(7)] = byte(d.next(256))
			}
			if agrees(t, s, b) {
				rights++
			}
		}
		if rights < 10000 || rights > 190000 {
			t.Errorf("%s: of 200000 rows %d are right: too few of one kind", s.name, rights)
		}
	}
}

// set sets one of a command's fields to something that is not zero.
type set struct {
	name string
	set  func(c *short.Cmd)
	is   func(c short.Cmd) bool
}

func sets() []set {
	return []set{
		{"Index", func(c *short.Cmd) { c.Place.Index = 0x100 }, func(c short.Cmd) bool { return c.Place.Index != 0 }},
		{"Sub", func(c *short.Cmd) { c.Place.Sub = 1 }, func(c short.Cmd) bool { return c.Place.Sub != 0 }},
		{"Sized", func(c *short.Cmd) { c.Sized = true }, func(c short.Cmd) bool { return c.Sized }},
		{"Size", func(c *short.Cmd) { c.Size = 7 }, func(c short.Cmd) bool { return c.Size != 0 }},
		{"Quick", func(c *short.Cmd) { c.Quick = true }, func(c short.Cmd) bool { return c.Quick }},
		{"Data", func(c *short.Cmd) { c.Data = []byte{0} }, func(c short.Cmd) bool { return len(c.Data) > 0 }},
		{"Toggle", func(c *short.Cmd) { c.Toggle = true }, func(c short.Cmd) bool { return c.Toggle }},
		{"Last", func(c *short.Cmd) { c.Last = true }, func(c short.Cmd) bool { return c.Last }},
		{"Check", func(c *short.Cmd) { c.Check = true }, func(c short.Cmd) bool { return c.Check }},
		{"Block", func(c *short.Cmd) { c.Block = 1 }, func(c short.Cmd) bool { return c.Block != 0 }},
		{"Seq", func(c *short.Cmd) { c.Seq = 1 }, func(c short.Cmd) bool { return c.Seq != 0 }},
		{"Sum", func(c *short.Cmd) { c.Sum = 0x100 }, func(c short.Cmd) bool { return c.Sum != 0 }},
		{"Empty", func(c *short.Cmd) { c.Empty = 1 }, func(c short.Cmd) bool { return c.Empty != 0 }},
		{"Code", func(c *short.Cmd) { c.Code = 1 << 31 }, func(c short.Cmd) bool { return c.Code != 0 }},
	}
}

// What a kind of each side has, by the chapter's tables; all else, if it is set, is refused.
func TestFieldsThatAKindHasNot(t *testing.T) { // P9.1, P9.3
	asks := map[uint8]string{
		short.Write: "Index Sub Sized Size Quick Data", short.Part: "Data Toggle Last", short.Read: "Index Sub", short.More: "Toggle",
		short.Stop: "Index Sub Code", short.Put: "Index Sub Check Sized Size", short.PutEnd: "Empty Sum",
		short.Get: "Index Sub Check Block", short.GetStart: "", short.Ack: "Seq Block", short.GetEnd: "",
	}
	answers := map[uint8]string{
		short.Write: "Index Sub", short.Part: "Toggle", short.Read: "Index Sub Sized Size Quick Data", short.More: "Data Toggle Last",
		short.Stop: "Index Sub Code", short.Put: "Index Sub Check Block", short.Ack: "Seq Block", short.PutEnd: "",
		short.Get: "Index Sub Check Sized Size", short.GetEnd: "Empty Sum",
	}
	for i, has := range []map[uint8]string{asks, answers} {
		s := sides()[i]
		for _, x := range s.all {
			for _, f := range sets() {
				c := x.c
				if f.set(&c); !slices.Contains(strings.Fields(has[c.Kind]), f.name) {
					refused(t, s, c)
				} else if want, ok := s.rows.tell(c); ok {
					told(t, s, pair{c, want})
				} else {
					refused(t, s, c)
				}
			}
			for _, f := range sets() {
				if f.is(x.c) && !slices.Contains(strings.Fields(has[x.c.Kind]), f.name) {
					t.Errorf("%s %+v has %s", s.name, x.c, f.name)
				}
			}
		}
	}
}

// command tells one that is right or nearly so.
func (d *dice) command(s side) short.Cmd {
	c := s.all[d.next(len(s.all))].c
	c.Data = slices.Clone(c.Data)
	for range d.next(4) {
		switch d.next(16) {
		case 0:
			c.Kind = byte(d.next(13))
		case 1, 2:
			c.Place = at(uint16(d.next(1<<16)), uint8(d.next(256)))
		case 3:
			c.Sized = !c.Sized
		case 4:
			c.Size = uint32(d.next(1 << 16))
		case 5:
			c.Quick = !c.Quick
		case 6, 7:
			c.Data = make([]byte, d.next(10))
			for i := range c.Data {
				c.Data[i] = byte(d.next(256))
			}
		case 8:
			c.Toggle = !c.Toggle
		case 9:
			c.Last = !c.Last
		case 10:
			c.Check = !c.Check
		case 11:
			c.Block = d.next(140) - 5
		case 12:
			c.Seq = d.next(140) - 5
		case 13:
			c.Sum = uint16(d.next(1 << 16))
		case 14:
			c.Empty = d.next(12) - 2
		case 15:
			c.Code = api.Abort(d.next(1<<16)) << 8
		}
	}
	return c
}

func TestThrownCommands(t *testing.T) { // P9.1, P9.3, P9.7
	d := dice(2)
	for _, s := range sides() {
		rights := 0
		for range 100000 {
			c := d.command(s)
			want, ok := s.rows.tell(c)
			if !ok {
				refused(t, s, c)
				continue
			}
			rights++
			told(t, s, pair{c, want})
		}
		if rights < 10000 || rights > 90000 {
			t.Errorf("%s: of 100000 commands %d are right: too few of one kind", s.name, rights)
		}
	}
}

// Commands that are unlike have bytes that are unlike.
func TestBytesTellCommands(t *testing.T) { // P9.7
	d := dice(3)
	for _, s := range sides() {
		seen := map[[8]byte]short.Cmd{}
		for range 50000 {
			c := d.command(s)
			b, errno := s.tell(c)
			if errno != api.OK {
				continue
			}
			if other, ok := seen[b]; ok && !same(other, c) {
				t.Errorf("%s % X: %+v, %+v", s.name, b, other, c)
			}
			seen[b] = c
		}
	}
}

// One row of bytes, asked and answered.
func TestTwoLanguages(t *testing.T) { // P9.7
	for _, x := range []struct {
		b             [8]byte
		ask, answered short.Cmd
	}{
		{[8]byte{0x40, 0, 0x20, 1}, short.Cmd{Kind: short.Read, Place: at(0x2000, 1)}, short.Cmd{Kind: short.Read, Place: at(0x2000, 1)}},
		{[8]byte{0x60}, short.Cmd{Kind: short.More}, short.Cmd{Kind: short.Write}},
		{[8]byte{0x20}, short.Cmd{Kind: short.Write}, short.Cmd{Kind: short.Part}},
		{[8]byte{0xA1}, short.Cmd{Kind: short.GetEnd}, short.Cmd{Kind: short.PutEnd}},
		{[8]byte{0x1B, 0x41, 0x42}, short.Cmd{Kind: short.Part, Toggle: true, Last: true, Data: []byte("AB")}, short.Cmd{Kind: short.More, Toggle: true, Last: true, Data: []byte("AB")}},
		{[8]byte{0xA4, 0, 0x20, 0, 127}, short.Cmd{Kind: short.Get, Place: at(0x2000, 0), Check: true, Block: 127}, short.Cmd{Kind: short.Put, Place: at(0x2000, 0), Check: true, Block: 127}},
		{[8]byte{0xC6, 0, 0x20, 0, 20}, short.Cmd{Kind: short.Put, Place: at(0x2000, 0), Check: true, Sized: true, Size: 20}, short.Cmd{Kind: short.Get, Place: at(0x2000, 0), Check: true, Sized: true, Size: 20}},
		{[8]byte{0xD5, 0x34, 0x12}, short.Cmd{Kind: short.PutEnd, Empty: 5, Sum: 0x1234}, short.Cmd{Kind: short.GetEnd, Empty: 5, Sum: 0x1234}},
	} {
		told(t, client(), pair{x.ask, x.b})
		told(t, server(), pair{x.answered, x.b})
	}
	unread(t, client(), [8]byte{0x60, 0, 0x20, 0}) // a server's Write
	unread(t, server(), [8]byte{0x20, 0, 0x20, 0}) // a client's
	unread(t, client(), [8]byte{0x30})
	unread(t, server(), [8]byte{0x70})
}
