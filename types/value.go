package types

import (
	"math"
	"strings"

	"campanile/api"
)

// greatestPower is how far from 0 the power of 2 in a float's text may be.
const greatestPower = 9999

// Value tells the value of a text.
func Value(t uint8, s string) (b []byte, errno api.Errno) {
	k, size := kindOf(t)
	if k == noKind {
		return nil, api.ErrType
	}
	defer func() {
		if recover() != nil {
			b, errno = nil, api.ErrText
		}
	}()
	return readValue(k, size, s), api.OK
}

// must gives up the reading, unless what was found is right; Value recovers.
func must(right bool) {
	if !right {
		panic("types: a text that is no value of the type")
	}
}

// readValue reads a value of a type of the kind and size.
func readValue(k kind, size int, s string) []byte {
	switch k {
	case truth:
		return readTruth(s)
	case signed:
		half := uint64(1) << (8*size - 1)
		return bytesOf(readSigned(s, half, half-1), size)
	case unsigned:
		return bytesOf(readUnsigned(s, math.MaxUint64>>(64-8*size)), size)
	case float:
		return bytesOf(readFloat(s, size), size)
	case moment:
		return readMoment(s)
	case quoted:
		return readText(s)
	}
	return readOctets(s)
}

func readTruth(s string) []byte {
	must(s == "false" || s == "true")
	if s == "true" {
		return []byte{1}
	}
	return []byte{0}
}

// readDecimal reads a number without a sign that is at most that.
func readDecimal(s string, most uint64) uint64 {
	must(s == "0" || s != "" && s[0] != '0')
	n := uint64(0)
	for i := range len(s) {
		must(s[i] >= '0' && s[i] <= '9')
		digit := uint64(s[i] - '0')
		// Asked ahead of the sum, which could wrap round.
		must(digit <= most && n <= (most-digit)/10)
		n = 10*n + digit
	}
	return n
}

// readSigned reads a number that is at most so far below 0, and at most so far above; two's complement.
func readSigned(s string, below, above uint64) uint64 {
	digits, negative := strings.CutPrefix(s, "-")
	if !negative {
		return readDecimal(s, above)
	}
	n := readDecimal(digits, below)
	must(n > 0)
	return -n
}

func readUnsigned(s string, most uint64) uint64 {
	digits, isHex := strings.CutPrefix(s, "0x")
	if !isHex {
		return readDecimal(s, most)
	}
	must(len(digits) >= 1 && len(digits) <= 16)
	n := readHex(digits, true)
	must(n <= most)
	return n
}

// readHex reads digits, at most 16: small ones, and great ones, if they are allowed.
func readHex(s string, great bool) uint64 {
	n := uint64(0)
	for i := range len(s) {
		c := s[i]
		if great && c >= 'A' && c <= 'F' {
			c += 'a' - 'A'
		}
		digit := strings.IndexByte(smallDigits, c)
		must(digit >= 0)
		n = n<<4 | uint64(digit)
	}
	return n
}

// readFloat reads a float of so many bytes: its bits.
func readFloat(s string, size int) uint64 {
	if digits, isNaN := strings.CutPrefix(s, "nan:"); isNaN {
		return readNaN(digits, size)
	}
	s, negative := strings.CutPrefix(s, "-")
	n := readSize(s, layoutOf(size))
	if negative {
		n |= 1 << (8*size - 1)
	}
	return n
}

// readNaN reads the digits of a NaN; those of other floats are not told so.
func readNaN(digits string, size int) uint64 {
	must(len(digits) == 2*size)
	n := readHex(digits, false)
	sign := uint64(1) << (8*size - 1)
	must(n&^sign > layoutOf(size).infinity())
	return n
}

// readSize reads a float without a sign.
func readSize(s string, l layout) uint64 {
	if s == "inf" {
		return l.infinity()
	}
	m, e, found := strings.Cut(s, "p")
	must(found)
	power := int64(readSigned(e, greatestPower, greatestPower))
	n, exact := l.together(readDecimal(m, math.MaxUint64), int(power))
	must(exact)
	return n
}

func readMoment(s string) []byte {
	days, milliseconds, found := strings.Cut(s, ":")
	must(found)
	return append(
		bytesOf(readDecimal(milliseconds, dayLength-1), 4),
		bytesOf(readDecimal(days, math.MaxUint16), 2)...)
}

// readText reads a text that is bare or in quotes.
func readText(s string) []byte {
	inner, isQuoted := strings.CutPrefix(s, `"`)
	if !isQuoted {
		must(len(s) <= api.MaxValue)
		return []byte(s)
	}
	inner, ended := strings.CutSuffix(inner, `"`)
	must(ended)
	var b []byte
	for inner != "" {
		c, used := readQuoted(inner)
		b = append(b, c)
		must(len(b) <= api.MaxValue)
		inner = inner[used:]
	}
	return b
}

// readQuoted reads the byte that the inside of quotes begins with, and tells how many bytes of the text it takes; it may be told in one way only.
func readQuoted(s string) (byte, int) {
	switch {
	case s[0] != '\\':
		must(isPlain(s[0]) && s[0] != '"')
		return s[0], 1
	case len(s) >= 2 && (s[1] == '"' || s[1] == '\\'):
		return s[1], 2
	}
	must(len(s) >= 4 && s[1] == 'x')
	c := byte(readHex(s[2:4], false))
	must(!isPlain(c))
	return c, 4
}

func readOctets(s string) []byte {
	must(len(s)%2 == 0 && len(s) <= 2*api.MaxValue)
	b := make([]byte, len(s)/2)
	for i := range b {
		b[i] = byte(readHex(s[2*i:2*i+2], true))
	}
	return b
}
