package short_test

import (
	"slices"
	"testing"

	"campanile/api"
	"campanile/short"
)

// side is one of the two languages: its calls, some of its commands, its tables; and which kinds of it begin a transfer with data (by which first byte), carry a part and carry none, begin blocks with a size and with a Block, and end them with a sum.
type side struct {
	name                                            string
	tell                                            func(c short.Cmd) ([8]byte, api.Errno)
	read                                            func(b [8]byte) (short.Cmd, api.Errno)
	all                                             []pair
	rows                                            table
	first                                           byte
	begins, carries, toggles, sized, counted, ended uint8
	kinds                                           int
}

// pair is a command and its bytes.
type pair struct {
	c short.Cmd
	b [8]byte
}

func client() side {
	return side{name: "a client's", tell: short.Ask, read: short.Asked, all: askedPairs(), rows: clientTable(), kinds: 11,
		begins: short.Write, first: 0x20, carries: short.Part, toggles: short.More, sized: short.Put, counted: short.Get, ended: short.PutEnd}
}

func server() side {
	return side{name: "a server's", tell: short.Answer, read: short.Answered, all: answeredPairs(), rows: serverTable(), kinds: 10,
		begins: short.Read, first: 0x40, carries: short.More, toggles: short.Part, sized: short.Get, counted: short.Put, ended: short.GetEnd}
}

func sides() []side { return []side{client(), server()} }

func at(index uint16, sub uint8) api.Place { return api.Place{Index: index, Sub: sub} }

// same: are they one command? No bytes are nil.
func same(a, b short.Cmd) bool {
	return a.Kind == b.Kind && a.Place == b.Place && a.Sized == b.Sized && a.Size == b.Size && a.Quick == b.Quick &&
		slices.Equal(a.Data, b.Data) && a.Toggle == b.Toggle && a.Last == b.Last && a.Check == b.Check && a.Block == b.Block &&
		a.Seq == b.Seq && a.Sum == b.Sum && a.Empty == b.Empty && a.Code == b.Code
}

// askedPairs tells commands of each of the client's rows, by hand.
func askedPairs() []pair {
	p := at(0xA1B2, 0xC3)
	return []pair{
		{short.Cmd{Kind: short.Write, Place: p, Quick: true, Sized: true, Data: []byte{1}}, [8]byte{0x2F, 0xB2, 0xA1, 0xC3, 1, 0, 0, 0}},
		{short.Cmd{Kind: short.Write, Place: p, Quick: true, Sized: true, Data: []byte{1, 2}}, [8]byte{0x2B, 0xB2, 0xA1, 0xC3, 1, 2, 0, 0}},
		{short.Cmd{Kind: short.Write, Place: p, Quick: true, Sized: true, Data: []byte{1, 2, 3}}, [8]byte{0x27, 0xB2, 0xA1, 0xC3, 1, 2, 3, 0}},
		{short.Cmd{Kind: short.Write, Place: p, Quick: true, Sized: true, Data: []byte{1, 2, 3, 4}}, [8]byte{0x23, 0xB2, 0xA1, 0xC3, 1, 2, 3, 4}},
		{short.Cmd{Kind: short.Write, Place: p, Quick: true, Data: []byte{1, 2, 3, 4}}, [8]byte{0x22, 0xB2, 0xA1, 0xC3, 1, 2, 3, 4}},
		{short.Cmd{Kind: short.Write, Place: p}, [8]byte{0x20, 0xB2, 0xA1, 0xC3}},
		{short.Cmd{Kind: short.Write, Place: p, Sized: true, Size: 0x12345678}, [8]byte{0x21, 0xB2, 0xA1, 0xC3, 0x78, 0x56, 0x34, 0x12}},
		{short.Cmd{Kind: short.Write, Place: p, Sized: true}, [8]byte{0x21, 0xB2, 0xA1, 0xC3}},
		{short.Cmd{Kind: short.Write, Place: p, Sized: true, Size: 0xFFFFFFFF}, [8]byte{0x21, 0xB2, 0xA1, 0xC3, 255, 255, 255, 255}},
		{short.Cmd{Kind: short.Part, Data: []byte{1, 2, 3, 4, 5, 6, 7}}, [8]byte{0x00, 1, 2, 3, 4, 5, 6, 7}},
		{short.Cmd{Kind: short.Part, Toggle: true, Data: []byte{1, 2, 3, 4, 5, 6, 7}}, [8]byte{0x10, 1, 2, 3, 4, 5, 6, 7}},
		{short.Cmd{Kind: short.Part, Last: true, Data: []byte{1, 2, 3, 4, 5, 6, 7}}, [8]byte{0x01, 1, 2, 3, 4, 5, 6, 7}},
		{short.Cmd{Kind: short.Part, Toggle: true, Last: true, Data: []byte{1, 2, 3, 4, 5, 6}}, [8]byte{0x13, 1, 2, 3, 4, 5, 6, 0}},
		{short.Cmd{Kind: short.Part, Last: true, Data: []byte{1, 2, 3, 4}}, [8]byte{0x07, 1, 2, 3, 4}},
		{short.Cmd{Kind: short.Part, Toggle: true, Last: true, Data: []byte{1}}, [8]byte{0x1D, 1}},
		{short.Cmd{Kind: short.Part, Last: true}, [8]byte{0x0F}},
		{short.Cmd{Kind: short.Part, Toggle: true, Last: true}, [8]byte{0x1F}},
		{short.Cmd{Kind: short.Read, Place: p}, [8]byte{0x40, 0xB2, 0xA1, 0xC3}},
		{short.Cmd{Kind: short.More}, [8]byte{0x60}},
		{short.Cmd{Kind: short.More, Toggle: true}, [8]byte{0x70}},
		{short.Cmd{Kind: short.Stop, Place: p, Code: api.AbHigh}, [8]byte{0x80, 0xB2, 0xA1, 0xC3, 0x31, 0x00, 0x09, 0x06}},
		{short.Cmd{Kind: short.Stop, Place: p}, [8]byte{0x80, 0xB2, 0xA1, 0xC3}},
		{short.Cmd{Kind: short.Stop, Code: 0xFFFFFFFF}, [8]byte{0x80, 0, 0, 0, 255, 255, 255, 255}},
		{short.Cmd{Kind: short.Put, Place: p}, [8]byte{0xC0, 0xB2, 0xA1, 0xC3}},
		{short.Cmd{Kind: short.Put, Place: p, Check: true}, [8]byte{0xC4, 0xB2, 0xA1, 0xC3}},
		{short.Cmd{Kind: short.Put, Place: p, Sized: true, Size: 0x12345678}, [8]byte{0xC2, 0xB2, 0xA1, 0xC3, 0x78, 0x56, 0x34, 0x12}},
		{short.Cmd{Kind: short.Put, Place: p, Check: true, Sized: true}, [8]byte{0xC6, 0xB2, 0xA1, 0xC3}},
		{short.Cmd{Kind: short.PutEnd, Sum: 0x31C3}, [8]byte{0xC1, 0xC3, 0x31}},
		{short.Cmd{Kind: short.PutEnd, Empty: 1}, [8]byte{0xC5}},
		{short.Cmd{Kind: short.PutEnd, Empty: 4, Sum: 0x0100}, [8]byte{0xD1, 0, 1}},
		{short.Cmd{Kind: short.PutEnd, Empty: 7, Sum: 0xFFFF}, [8]byte{0xDD, 0xFF, 0xFF}},
		{short.Cmd{Kind: short.Get, Place: p, Block: 1}, [8]byte{0xA0, 0xB2, 0xA1, 0xC3, 1}},
		{short.Cmd{Kind: short.Get, Place: p, Check: true, Block: 127}, [8]byte{0xA4, 0xB2, 0xA1, 0xC3, 127}},
		{short.Cmd{Kind: short.GetStart}, [8]byte{0xA3}},
		{short.Cmd{Kind: short.Ack, Seq: 0, Block: 1}, [8]byte{0xA2, 0, 1}},
		{short.Cmd{Kind: short.Ack, Seq: 127, Block: 127}, [8]byte{0xA2, 127, 127}},
		{short.Cmd{Kind: short.Ack, Seq: 5, Block: 9}, [8]byte{0xA2, 5, 9}},
		{short.Cmd{Kind: short.GetEnd}, [8]byte{0xA1}},
	}
}

// answeredPairs tells commands of each of the server's rows, by hand.
func answeredPairs() []pair {
	p := at(0xA1B2, 0xC3)
	return []pair{
		{short.Cmd{Kind: short.Write, Place: p}, [8]byte{0x60, 0xB2, 0xA1, 0xC3}},
		{short.Cmd{Kind: short.Part}, [8]byte{0x20}},
		{short.Cmd{Kind: short.Part, Toggle: true}, [8]byte{0x30}},
		{short.Cmd{Kind: short.Read, Place: p, Quick: true, Sized: true, Data: []byte{1}}, [8]byte{0x4F, 0xB2, 0xA1, 0xC3, 1, 0, 0, 0}},
		{short.Cmd{Kind: short.Read, Place: p, Quick: true, Sized: true, Data: []byte{1, 2}}, [8]byte{0x4B, 0xB2, 0xA1, 0xC3, 1, 2, 0, 0}},
		{short.Cmd{Kind: short.Read, Place: p, Quick: true, Sized: true, Data: []byte{1, 2, 3}}, [8]byte{0x47, 0xB2, 0xA1, 0xC3, 1, 2, 3, 0}},
		{short.Cmd{Kind: short.Read, Place: p, Quick: true, Sized: true, Data: []byte{1, 2, 3, 4}}, [8]byte{0x43, 0xB2, 0xA1, 0xC3, 1, 2, 3, 4}},
		{short.Cmd{Kind: short.Read, Place: p, Quick: true, Data: []byte{1, 2, 3, 4}}, [8]byte{0x42, 0xB2, 0xA1, 0xC3, 1, 2, 3, 4}},
		{short.Cmd{Kind: short.Read, Place: p}, [8]byte{0x40, 0xB2, 0xA1, 0xC3}},
		{short.Cmd{Kind: short.Read, Place: p, Sized: true, Size: 0x12345678}, [8]byte{0x41, 0xB2, 0xA1, 0xC3, 0x78, 0x56, 0x34, 0x12}},
		{short.Cmd{Kind: short.Read, Place: p, Sized: true}, [8]byte{0x41, 0xB2, 0xA1, 0xC3}},
		{short.Cmd{Kind: short.Read, Place: p, Sized: true, Size: 0xFFFFFFFF}, [8]byte{0x41, 0xB2, 0xA1, 0xC3, 255, 255, 255, 255}},
		{short.Cmd{Kind: short.More, Data: []byte{1, 2, 3, 4, 5, 6, 7}}, [8]byte{0x00, 1, 2, 3, 4, 5, 6, 7}},
		{short.Cmd{Kind: short.More, Toggle: true, Data: []byte{1, 2, 3, 4, 5, 6, 7}}, [8]byte{0x10, 1, 2, 3, 4, 5, 6, 7}},
		{short.Cmd{Kind: short.More, Last: true, Data: []byte{1, 2, 3, 4, 5, 6, 7}}, [8]byte{0x01, 1, 2, 3, 4, 5, 6, 7}},
		{short.Cmd{Kind: short.More, Toggle: true, Last: true, Data: []byte{1, 2, 3, 4, 5, 6}}, [8]byte{0x13, 1, 2, 3, 4, 5, 6, 0}},
		{short.Cmd{Kind: short.More, Last: true, Data: []byte{1, 2, 3, 4}}, [8]byte{0x07, 1, 2, 3, 4}},
		{short.Cmd{Kind: short.More, Toggle: true, Last: true, Data: []byte{1}}, [8]byte{0x1D, 1}},
		{short.Cmd{Kind: short.More, Last: true}, [8]byte{0x0F}},
		{short.Cmd{Kind: short.More, Toggle: true, Last: true}, [8]byte{0x1F}},
		{short.Cmd{Kind: short.Stop, Place: p, Code: api.AbHigh}, [8]byte{0x80, 0xB2, 0xA1, 0xC3, 0x31, 0x00, 0x09, 0x06}},
		{short.Cmd{Kind: short.Stop}, [8]byte{0x80}},
		{short.Cmd{Kind: short.Stop, Code: 0xFFFFFFFF}, [8]byte{0x80, 0, 0, 0, 255, 255, 255, 255}},
		{short.Cmd{Kind: short.Put, Place: p, Block: 1}, [8]byte{0xA0, 0xB2, 0xA1, 0xC3, 1}},
		{short.Cmd{Kind: short.Put, Place: p, Check: true, Block: 127}, [8]byte{0xA4, 0xB2, 0xA1, 0xC3, 127}},
		{short.Cmd{Kind: short.Ack, Seq: 0, Block: 1}, [8]byte{0xA2, 0, 1}},
		{short.Cmd{Kind: short.Ack, Seq: 127, Block: 127}, [8]byte{0xA2, 127, 127}},
		{short.Cmd{Kind: short.Ack, Seq: 5, Block: 9}, [8]byte{0xA2, 5, 9}},
		{short.Cmd{Kind: short.PutEnd}, [8]byte{0xA1}},
		{short.Cmd{Kind: short.Get, Place: p}, [8]byte{0xC0, 0xB2, 0xA1, 0xC3}},
		{short.Cmd{Kind: short.Get, Place: p, Check: true}, [8]byte{0xC4, 0xB2, 0xA1, 0xC3}},
		{short.Cmd{Kind: short.Get, Place: p, Sized: true, Size: 0x12345678}, [8]byte{0xC2, 0xB2, 0xA1, 0xC3, 0x78, 0x56, 0x34, 0x12}},
		{short.Cmd{Kind: short.Get, Place: p, Check: true, Sized: true}, [8]byte{0xC6, 0xB2, 0xA1, 0xC3}},
		{short.Cmd{Kind: short.GetEnd, Sum: 0x31C3}, [8]byte{0xC1, 0xC3, 0x31}},
		{short.Cmd{Kind: short.GetEnd, Empty: 1}, [8]byte{0xC5}},
		{short.Cmd{Kind: short.GetEnd, Empty: 4, Sum: 0x0100}, [8]byte{0xD1, 0, 1}},
		{short.Cmd{Kind: short.GetEnd, Empty: 7, Sum: 0xFFFF}, [8]byte{0xDD, 0xFF, 0xFF}},
	}
}

// told checks that a side tells a command by the bytes, and reads it out of them again.
func told(t *testing.T, s side, x pair) {
	t.Helper()
	if b, errno := s.tell(x.c); b != x.b || errno != api.OK {
		t.Errorf("%s %+v: % X, %d; want % X", s.name, x.c, b, errno, x.b)
	}
	if c, errno := s.read(x.b); !same(c, x.c) || errno != api.OK {
		t.Errorf("%s % X: %+v, %d; want %+v", s.name, x.b, c, errno, x.c)
	}
}

// refused checks that a side has no such command.
func refused(t *testing.T, s side, c short.Cmd) {
	t.Helper()
	if b, errno := s.tell(c); b != [8]byte{} || errno != api.ErrArg {
		t.Errorf("%s %+v: % X, %d", s.name, c, b, errno)
	}
}

// unread checks that a side has no such bytes.
func unread(t *testing.T, s side, b [8]byte) {
	t.Helper()
	if c, errno := s.read(b); !same(c, short.Cmd{}) || errno != api.ErrBytes {
		t.Errorf("%s % X: %+v, %d", s.name, b, c, errno)
	}
}

func TestKinds(t *testing.T) { // P9.1, P9.3
	got := []uint8{short.Write, short.Part, short.Read, short.More, short.Stop, short.Put, short.PutEnd, short.Get, short.GetStart, short.Ack, short.GetEnd}
	if !slices.Equal(got, []uint8{1, 2, 3, 4, 5, 6, 7, 8, 9, 10, 11}) {
		t.Errorf("%v", got)
	}
}

func TestRows(t *testing.T) { // P9.1 to P9.4, P9.7
	for _, s := range sides() {
		for _, x := range s.all {
			told(t, s, x)
		}
	}
}

// Each kind of a side stands among its rows, and no other.
func TestRowsOfEachKind(t *testing.T) { // P9.1, P9.3
	for _, s := range sides() {
		seen := map[uint8]int{}
		for _, x := range s.all {
			seen[x.c.Kind]++
		}
		if len(seen) != s.kinds {
			t.Errorf("%s: %v", s.name, seen)
		}
	}
}

func TestExamples(t *testing.T) { // P9.1 to P9.4
	told(t, client(), pair{short.Cmd{Kind: short.Write, Quick: true, Sized: true, Place: at(0x1017, 0), Data: []byte{0xE8, 3}}, [8]byte{0x2B, 0x17, 0x10, 0, 0xE8, 3, 0, 0}})
	told(t, client(), pair{short.Cmd{Kind: short.Read, Place: at(0x1018, 1)}, [8]byte{0x40, 0x18, 0x10, 1, 0, 0, 0, 0}})
	told(t, server(), pair{short.Cmd{Kind: short.Read, Quick: true, Sized: true, Place: at(0x1018, 1), Data: []byte{1, 2, 3, 4}}, [8]byte{0x43, 0x18, 0x10, 1, 1, 2, 3, 4}})
	told(t, client(), pair{short.Cmd{Kind: short.Part, Toggle: true, Last: true, Data: []byte{0x41, 0x42}}, [8]byte{0x1B, 0x41, 0x42, 0, 0, 0, 0, 0}})
	told(t, client(), pair{short.Cmd{Kind: short.Stop, Place: at(0x2000, 1), Code: 0x06020000}, [8]byte{0x80, 0, 0x20, 1, 0, 0, 2, 6}})
	told(t, client(), pair{short.Cmd{Kind: short.Put, Check: true, Sized: true, Place: at(0x2000, 0), Size: 20}, [8]byte{0xC6, 0, 0x20, 0, 0x14, 0, 0, 0}})
	for _, tail := range [][4]byte{{}, {1}, {0xE8, 3}, {1, 2, 3, 4}} {
		unread(t, client(), [8]byte{0x2C, 0x17, 0x10, 0, tail[0], tail[1], tail[2], tail[3]})
	}
	unread(t, server(), [8]byte{0x60, 0, 0x20, 0, 1, 0, 0, 0})
}

// What transfers of the whole's examples say, as frames carry it.
func TestExamplesOfTheWhole(t *testing.T) { // P9.1 to P9.4
	told(t, client(), pair{short.Cmd{Kind: short.Read, Place: at(0x1000, 0)}, [8]byte{0x40, 0, 0x10}})
	told(t, client(), pair{short.Cmd{Kind: short.Write, Quick: true, Sized: true, Place: at(0x2000, 0), Data: []byte{7}}, [8]byte{0x2F, 0, 0x20, 0, 7}})
	told(t, server(), pair{short.Cmd{Kind: short.Stop, Place: at(0x2000, 0), Code: api.AbHigh}, [8]byte{0x80, 0, 0x20, 0, 0x31, 0, 9, 6}})
}
