package frame

import (
	"strings"

	"campanile/api"
)

const digits = "0123456789ABCDEF"

// Write tells a right frame's text.
func Write(f api.Frame) (string, api.Errno) {
	if !Right(f) {
		return "", api.ErrFrame
	}
	text := []byte{digits[f.ID>>8], digits[f.ID>>4&15], digits[f.ID&15], '#'}
	if f.Remote {
		text = append(text, 'R', digits[f.Len])
	}
	for _, b := range carried(f) {
		text = append(text, digits[b>>4], digits[b&15])
	}
	return string(text), api.OK
}

// Read tells the right frame of a text.
func Read(s string) (api.Frame, api.Errno) {
	head, tail, found := strings.Cut(s, "#")
	id, right := number(head, 3)
	if !found || !right {
		return api.Frame{}, api.ErrFrame
	}
	f, errno := readTail(id, tail)
	if errno != api.OK {
		return api.Frame{}, api.ErrFrame
	}
	return f, api.OK
}

// readTail reads what stands behind the #. Whether the ID and the length may be, Ask and Make tell.
func readTail(id uint16, tail string) (api.Frame, api.Errno) {
	if length, asks := strings.CutPrefix(tail, "R"); asks {
		n, right := number(length, 1)
		if !right {
			return api.Frame{}, api.ErrFrame
		}
		return Ask(id, int(n))
	}
	data, right := readBytes(tail)
	if !right {
		return api.Frame{}, api.ErrFrame
	}
	return Make(id, data...)
}

// readBytes reads two digits a byte; false, if the text is not of such, or is longer than a frame's.
func readBytes(s string) ([]byte, bool) {
	if len(s)%2 != 0 || len(s) > 2*api.MaxData {
		return nil, false
	}
	var b []byte
	for ; s != ""; s = s[2:] {
		n, right := number(s[:2], 2)
		if !right {
			return nil, false
		}
		b = append(b, byte(n))
	}
	return b, true
}

// number reads a number of just so many digits to the base 16, at most 4; false, if the text is not of such.
func number(s string, length int) (uint16, bool) {
	if len(s) != length {
		return 0, false
	}
	n := uint16(0)
	for i := range len(s) {
		digit := strings.IndexByte(digits, s[i])
		if digit < 0 {
			return 0, false
		}
		n = n<<4 | uint16(digit)
	}
	return n, true
}
