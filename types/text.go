package types

import (
	"math"
	"slices"
	"strconv"
	"strings"

	"campanile/api"
)

const smallDigits = "0123456789abcdef"

// Text tells a value as a text.
func Text(t uint8, b []byte) (string, api.Errno) {
	k, _ := kindOf(t)
	switch {
	case k == noKind:
		return "", api.ErrType
	case checkBytes(t, b) != 0:
		return "", api.ErrBytes
	}
	return textOf(k, b), api.OK
}

// textOf tells the text of a value of a type of the kind.
func textOf(k kind, b []byte) string {
	switch k {
	case truth:
		return strconv.FormatBool(b[0] == 1)
	case signed:
		return strconv.FormatInt(signedNumber(b), 10)
	case unsigned:
		return decimalText(number(b))
	case float:
		return floatText(b)
	case moment:
		return decimalText(number(b[4:])) + ":" + decimalText(number(b[:4]))
	case quoted:
		return quotedText(b)
	}
	return hexText(b)
}

func decimalText(n uint64) string {
	return strconv.FormatUint(n, 10)
}

// floatText tells a float: a NaN by its own bits, all else by the number that it is.
func floatText(b []byte) string {
	x := floatOf(b)
	if math.IsNaN(x) {
		highestFirst := slices.Clone(b)
		slices.Reverse(highestFirst)
		return "nan:" + hexText(highestFirst)
	}
	sign := ""
	if signBit(x) == 1 {
		sign = "-"
	}
	return sign + sizeText(math.Abs(x))
}

// sizeText tells a float without a sign that is no NaN.
func sizeText(x float64) string {
	switch {
	case math.IsInf(x, 1):
		return "inf"
	case x == 0:
		return "0p0"
	}
	m, e := odd(layoutOf(8).apart(math.Float64bits(x)))
	return decimalText(m) + "p" + strconv.Itoa(e)
}

// quotedText tells bytes in quotes.
func quotedText(b []byte) string {
	var s strings.Builder
	s.WriteByte('"')
	for _, c := range b {
		switch {
		case c == '"', c == '\\':
			s.WriteByte('\\')
			fallthrough
		case isPlain(c):
			s.WriteByte(c)
		default:
			s.WriteString(`\x` + hexText([]byte{c}))
		}
	}
	s.WriteByte('"')
	return s.String()
}

// isPlain: may the byte stand in a quoted text as it is, if need be behind a \?
func isPlain(c byte) bool {
	return c >= 32 && c <= 126
}

// hexText tells each byte as two digits.
func hexText(b []byte) string {
	var s strings.Builder
	for _, c := range b {
		s.WriteByte(smallDigits[c>>4])
		s.WriteByte(smallDigits[c&15])
	}
	return s.String()
}
