package short

// line is a line of the chapter's tables: a kind, its first byte without the bits that vary, these bits, and how the rest is written and read.
type line struct {
	kind    uint8
	first   byte
	varying byte
	write   func(b [8]byte, c Cmd) [8]byte
	read    func(b [8]byte) Cmd
}

// asks tells the lines of what a client asks.
func asks() []line {
	return []line{
		{Write, 0x20, 0x0F, writeBegin, readBegin},
		{Part, 0x00, 0x1F, writePart, readPart},
		{Read, 0x40, 0x00, writePlace, readPlace},
		{More, 0x60, 0x10, writeToggle, readToggle},
		{Stop, 0x80, 0x00, writeStop, readStop},
		{Put, 0xC0, 0x06, writeSize, readSize},
		{PutEnd, 0xC1, 0x1C, writeEnd, readEnd},
		{Get, 0xA0, 0x04, writeBlock, readBlock},
		{GetStart, 0xA3, 0x00, writeBare, readBare},
		{Ack, 0xA2, 0x00, writeAck, readAck},
		{GetEnd, 0xA1, 0x00, writeBare, readBare},
	}
}

// answers tells the lines of what a server answers.
func answers() []line {
	return []line{
		{Write, 0x60, 0x00, writePlace, readPlace},
		{Part, 0x20, 0x10, writeToggle, readToggle},
		{Read, 0x40, 0x0F, writeBegin, readBegin},
		{More, 0x00, 0x1F, writePart, readPart},
		{Stop, 0x80, 0x00, writeStop, readStop},
		{Put, 0xA0, 0x04, writeBlock, readBlock},
		{Ack, 0xA2, 0x00, writeAck, readAck},
		{PutEnd, 0xA1, 0x00, writeBare, readBare},
		{Get, 0xC0, 0x06, writeSize, readSize},
		{GetEnd, 0xC1, 0x1C, writeEnd, readEnd},
	}
}
