package types

import (
	"bytes"
	"math"
	"strings"
	"testing"

	"campanile/api"
)

// Values and their texts, each the other one's: P1.4, P1.5.
var pairs = []struct {
	t uint8
	b []byte
	s string
}{
	{api.TBool, []byte{0}, "false"},
	{api.TBool, []byte{1}, "true"},
	{api.TInt8, []byte{0}, "0"},
	{api.TInt8, []byte{127}, "127"},
	{api.TInt8, []byte{128}, "-128"},
	{api.TInt8, []byte{255}, "-1"},
	{api.TInt16, []byte{254, 255}, "-2"},
	{api.TInt16, []byte{255, 127}, "32767"},
	{api.TInt16, []byte{0, 128}, "-32768"},
	{api.TInt24, []byte{255, 255, 127}, "8388607"},
	{api.TInt24, []byte{0, 0, 128}, "-8388608"},
	{api.TInt24, []byte{1, 2, 3}, "197121"},
	{api.TInt32, []byte{255, 255, 255, 127}, "2147483647"},
	{api.TInt32, []byte{0, 0, 0, 128}, "-2147483648"},
	{api.TInt64, whole(math.MaxInt64, 8), "9223372036854775807"},
	{api.TInt64, whole(math.MinInt64, 8), "-9223372036854775808"},
	{api.TInt64, whole(-10, 8), "-10"},
	{api.TUint8, []byte{0}, "0"},
	{api.TUint8, []byte{255}, "255"},
	{api.TUint16, []byte{255, 255}, "65535"},
	{api.TUint16, []byte{1, 2}, "513"},
	{api.TUint24, []byte{1, 0, 1}, "65537"},
	{api.TUint24, []byte{255, 255, 255}, "16777215"},
	{api.TUint32, []byte{255, 255, 255, 255}, "4294967295"},
	{api.TUint64, whole(-1, 8), "18446744073709551615"},
	{api.TReal32, real32(0), "0p0"},
	{api.TReal32, real32(0x80000000), "-0p0"},
	{api.TReal32, real32(0x3fc00000), "3p-1"},
	{api.TReal32, real32(0xbfc00000), "-3p-1"},
	{api.TReal32, real32(0x3f800000), "1p0"},
	{api.TReal32, real32(1), "1p-149"},
	{api.TReal32, real32(0x80000001), "-1p-149"},
	{api.TReal32, real32(0x7fffff), "8388607p-149"},
	{api.TReal32, real32(0x800000), "1p-126"},
	{api.TReal32, real32(0x800001), "8388609p-149"},
	{api.TReal32, real32(0x400000), "1p-127"},
	{api.TReal32, real32(0x7f7fffff), "16777215p104"},
	{api.TReal32, real32(0x7f000000), "1p127"},
	{api.TReal32, real32(0x7f800000), "inf"},
	{api.TReal32, real32(0xff800000), "-inf"},
	{api.TReal32, real32(0x7fc00001), "nan:7fc00001"},
	{api.TReal32, real32(0x7f800001), "nan:7f800001"},
	{api.TReal32, real32(0xffabcdef), "nan:ffabcdef"},
	{api.TReal64, real64(0), "0p0"},
	{api.TReal64, real64(1 << 63), "-0p0"},
	{api.TReal64, real64(0x3ff8000000000000), "3p-1"},
	{api.TReal64, real64(1), "1p-1074"},
	{api.TReal64, real64(0xfffffffffffff), "4503599627370495p-1074"},
	{api.TReal64, real64(0x10000000000000), "1p-1022"},
	{api.TReal64, real64(0x7fefffffffffffff), "9007199254740991p971"},
	{api.TReal64, real64(0xffefffffffffffff), "-9007199254740991p971"},
	{api.TReal64, real64(0x7fe0000000000000), "1p1023"},
	{api.TReal64, real64(0x7ff0000000000000), "inf"},
	{api.TReal64, real64(0xfff0000000000000), "-inf"},
	{api.TReal64, real64(0x7ff0000000000001), "nan:7ff0000000000001"},
	{api.TReal64, real64(0xfff8000000000abc), "nan:fff8000000000abc"},
	{api.TTime, moments(0, 0), "0:0"},
	{api.TTime, moments(1, 2), "2:1"},
	{api.TTime, moments(86399999, 65535), "65535:86399999"},
	{api.TDiff, moments(1000, 10), "10:1000"},
	{api.TText, nil, `""`},
	{api.TText, []byte("a\"\n"), `"a\"\x0a"`},
	{api.TText, []byte(`\`), `"\\"`},
	{api.TText, []byte(" ~\x1f\x7f\x80\xff\x00"), `" ~\x1f\x7f\x80\xff\x00"`},
	{api.TText, []byte("ä"), `"\xc3\xa4"`},
	{api.TText, []byte(`\x41`), `"\\x41"`},
	{api.TText, bytes.Repeat([]byte{0}, api.MaxValue), `"` + strings.Repeat(`\x00`, api.MaxValue) + `"`},
	{api.TOctets, nil, ""},
	{api.TOctets, []byte{0, 171, 255}, "00abff"},
	{api.TDomain, nil, ""},
	{api.TDomain, []byte{16, 1}, "1001"},
	{api.TOctets, bytes.Repeat([]byte{0xfe}, api.MaxValue), strings.Repeat("fe", api.MaxValue)},
	{api.TDomain, bytes.Repeat([]byte{0x0d}, api.MaxValue), strings.Repeat("0d", api.MaxValue)},
}

func TestPairs(t *testing.T) {
	for _, x := range pairs {
		if s, e := Text(x.t, x.b); s != x.s || e != api.OK {
			t.Errorf("Text(%d, %v): %q %v, not %q", x.t, x.b, s, e, x.s)
		}
		if b, e := Value(x.t, x.s); !bytes.Equal(b, x.b) || e != api.OK {
			t.Errorf("Value(%d, %q): %v %v, not %v", x.t, x.s, b, e, x.b)
		}
	}
}

// P1.4: each byte of a text on its own.
func TestEachByteQuoted(t *testing.T) {
	const digits = "0123456789abcdef"
	for n := range 256 {
		want := `\x` + string(digits[n/16]) + string(digits[n%16])
		switch {
		case n == '"':
			want = `\"`
		case n == '\\':
			want = `\\`
		case n >= 32 && n <= 126:
			want = string(rune(n))
		}
		if s, e := Text(api.TText, []byte{byte(n)}); s != `"`+want+`"` || e != api.OK {
			t.Errorf("Text(TText, %d): %q %v", n, s, e)
		}
		if b, e := Value(api.TText, `"`+want+`"`); !bytes.Equal(b, []byte{byte(n)}) || e != api.OK {
			t.Errorf("Value(TText, %q): %v %v", want, b, e)
		}
	}
}

// P1.4: wrong types ahead of wrong bytes.
func TestTextErrors(t *testing.T) {
	for n := range 256 {
		size, is := sizes[uint8(n)]
		for _, length := range []int{0, 1, 2, 3, 4, 5, 6, 7, 8, 9, api.MaxValue, api.MaxValue + 1} {
			want := api.OK
			switch {
			case !is:
				want = api.ErrType
			case size > 0 && length != size, length > api.MaxValue:
				want = api.ErrBytes
			}
			if s, e := Text(uint8(n), make([]byte, length)); e != want || e != api.OK && s != "" {
				t.Errorf("Text(%d, %d bytes): %q %v, not %v", n, length, s, e, want)
			}
		}
	}
	for _, x := range []struct {
		t uint8
		b []byte
	}{{api.TBool, []byte{2}}, {api.TTime, moments(86400000, 0)}, {api.TDiff, moments(86400000, 7)}} {
		if s, e := Text(x.t, x.b); s != "" || e != api.ErrBytes {
			t.Errorf("Text(%d, %v): %q %v", x.t, x.b, s, e)
		}
	}
}

// P1.5: what is no type, whatever the text.
func TestValueType(t *testing.T) {
	for n := range 256 {
		if _, is := sizes[uint8(n)]; is {
			continue
		}
		for _, s := range []string{"", "0", "true", `"`, "0:0", "1p0"} {
			if b, e := Value(uint8(n), s); len(b) != 0 || e != api.ErrType {
				t.Errorf("Value(%d, %q): %v %v", n, s, b, e)
			}
		}
	}
}

// P1.5: texts that Text does not tell, and that are read all the same.
func TestValueBesides(t *testing.T) {
	for _, x := range []struct {
		t uint8
		s string
		b []byte
	}{
		{api.TUint8, "0x0", []byte{0}},
		{api.TUint8, "0xfF", []byte{255}},
		{api.TUint8, "0x00000000000000ff", []byte{255}},
		{api.TUint16, "0x1F", []byte{31, 0}},
		{api.TUint16, "0xffff", []byte{255, 255}},
		{api.TUint24, "0xABCDEF", []byte{0xef, 0xcd, 0xab}},
		{api.TUint24, "0xabcdef", []byte{0xef, 0xcd, 0xab}},
		{api.TUint32, "0xFFFFFFFF", []byte{255, 255, 255, 255}},
		{api.TUint64, "0xFFFFFFFFFFFFFFFF", whole(-1, 8)},
		{api.TUint64, "0x0123456789abcdef", whole(0x0123456789abcdef, 8)},
		{api.TReal32, "6p-2", real32(0x3fc00000)},
		{api.TReal32, "2p-150", real32(1)},
		{api.TReal32, "-4p-151", real32(0x80000001)},
		{api.TReal32, "0p9999", real32(0)},
		{api.TReal32, "0p-9999", real32(0)},
		{api.TReal32, "-0p7", real32(0x80000000)},
		{api.TReal32, "9223372036854775808p64", real32(0x7f000000)},
		{api.TReal32, "18446742974197923840p64", real32(0x7f7fffff)},
		{api.TReal32, "9223372036854775808p-212", real32(1)},
		{api.TReal64, "18446744073709549568p0", real64(0x43efffffffffffff)},
		{api.TReal64, "9223372036854775808p-1137", real64(1)},
		{api.TReal64, "9223372036854775808p960", real64(0x7fe0000000000000)},
		{api.TReal64, "-0p-9999", real64(1 << 63)},
		{api.TReal64, "10p0", real64(0x4024000000000000)},
		{api.TOctets, "ABcd0F", []byte{0xab, 0xcd, 0x0f}},
		{api.TDomain, "AbCd0f", []byte{0xab, 0xcd, 0x0f}},
		{api.TText, "", nil},
		{api.TText, "a", []byte("a")},
		{api.TText, `a"`, []byte(`a"`)},
		{api.TText, ` "a"`, []byte(` "a"`)},
		{api.TText, `\"\x41`, []byte(`\"\x41`)},
		{api.TText, "\x00\n\xff", []byte{0, 10, 255}},
		{api.TText, strings.Repeat("a", api.MaxValue), bytes.Repeat([]byte("a"), api.MaxValue)},
	} {
		if b, e := Value(x.t, x.s); !bytes.Equal(b, x.b) || e != api.OK {
			t.Errorf("Value(%d, %q): %v %v, not %v", x.t, x.s, b, e, x.b)
		}
	}
}

func refuse(t *testing.T, kind uint8, texts ...string) {
	t.Helper()
	for _, s := range texts {
		if b, e := Value(kind, s); len(b) != 0 || e != api.ErrText {
			t.Errorf("Value(%d, %.50q): %v %v", kind, s, b, e)
		}
	}
}

// P1.5: texts of no value.
func TestValueNumbersRefused(t *testing.T) {
	numbers := []uint8{api.TInt8, api.TInt16, api.TInt24, api.TInt32, api.TInt64, api.TUint8, api.TUint16, api.TUint24, api.TUint32, api.TUint64}
	for _, kind := range numbers {
		refuse(t, kind, "", "-", "-0", "+1", "00", "01", "-01", " 1", "1 ", "1.0", "1e1", "1_0", "--1", "a", "/", ":", "1/", "1:",
			"0x", "0X1", "0xg", "0x ", "0x-1", "-0x1", "0x_1", "0x00000000000000001", "0b1", "0o1", "1p0", "true", "\x00", "１",
			"18446744073709551616", "18446744073709551617", "184467440737095516150", "-9223372036854775809", "99999999999999999999", strings.Repeat("9", 1000))
	}
	for _, kind := range numbers[:5] {
		refuse(t, kind, "0x1", "0x0")
	}
	for _, kind := range numbers[5:] {
		refuse(t, kind, "-1")
	}
	for kind, s := range map[uint8][]string{
		api.TInt8: {"128", "-129", "255", "256"}, api.TInt16: {"32768", "-32769"}, api.TInt24: {"8388608", "-8388609"},
		api.TInt32: {"2147483648", "-2147483649"}, api.TInt64: {"9223372036854775808", "-9223372036854775809"},
		api.TUint8: {"256", "0x100"}, api.TUint16: {"65536", "0x10000"}, api.TUint24: {"16777216", "0x1000000"},
		api.TUint32: {"4294967296", "0x100000000"}, api.TUint64: {"18446744073709551616", "0x10000000000000000"},
	} {
		refuse(t, kind, s...)
	}
	refuse(t, api.TBool, "", "0", "1", "True", "TRUE", "truefalse", " true", "true ", "t")
	for _, kind := range []uint8{api.TTime, api.TDiff} {
		refuse(t, kind, "", ":", "0", "0:", ":0", "0:86400000", "65536:0", "00:0", "0:00", "-1:0", "0:-1", "-0:0", "0:0:0", "0x1:0", "0:0x1", " 0:0", "0:0 ", "0;0")
	}
}

func TestValueFloatsRefused(t *testing.T) {
	for _, kind := range []uint8{api.TReal32, api.TReal64} {
		refuse(t, kind, "", "-", "p", "p0", "0p", "1p", "1", "1.5", "1e5", "1P0", "+1p0", "1p+0", "1p-0", "1p00", "1p01", "01p0", "00p0", "--1p0", "1p--1",
			" 1p0", "1p0 ", "1p 0", "1p0p0", "0x1p0", "Inf", "+inf", "--inf", "infinity", "-", "nan", "-nan", "nan:", "NaN", "0p10000", "0p-10000", "1p10000", "1p9999", "1p-9999",
			"0p18446744073709551616", "18446744073709551616p-64", "18446744073709551615p0", "18446744073709551616p0", "00p1", "-p0")
	}
	refuse(t, api.TReal32, "1p-150", "3p-150", "1p128", "16777217p0", "33554433p0", "16777215p105", "16777216p104", "8388609p-150", "16777215p-150", "1p-1074", "9007199254740991p0",
		"nan:7f800000", "nan:ff800000", "nan:00000000", "nan:3f800000", "nan:7FC00001", "nan:7fC00001", "nan:7fc0001", "nan:07fc00001", "nan:7ff8000000000000", "-nan:7fc00001", "nan:7fc0000g", "nan:-7fc0001")
	refuse(t, api.TReal64, "1p-1075", "3p-1075", "1p1024", "9007199254740993p0", "9007199254740992p971", "9007199254740991p972", "9007199254740991p-1075",
		"nan:7ff0000000000000", "nan:fff0000000000000", "nan:0000000000000000", "nan:7FF8000000000000", "nan:7fc00001", "nan:7ff80000000000000", "nan:7ff800000000000")
}

func TestValueBytesRefused(t *testing.T) {
	refuse(t, api.TText, `"`, `"a`, `"a\"`, `"\"`, `"a"b`, `"a"b"`, `"""`, `"\a"`, `"\n"`, `"\`, `"\x"`, `"\x0"`, `"\x0g"`, `"\x0A"`, `"\X0a"`, `"\x41"`, `"\x22"`, `"\x5c"`, `"\x20"`, `"\x7e"`,
		"\"\n\"", "\"\x7f\"", "\"\x1f\"", "\"\x80\"", "\"\xff\"", "\"\x00\"", `"ä"`, `"a" `,
		strings.Repeat("a", api.MaxValue+1), `"`+strings.Repeat("a", api.MaxValue+1)+`"`, `"`+strings.Repeat(`\x00`, api.MaxValue+1)+`"`)
	for _, kind := range []uint8{api.TOctets, api.TDomain} {
		refuse(t, kind, "0", "abc", "0g", "g0", "G0", "0x12", " 0", "0 ", "00 ", "-1", `""`, "@0", "`0", "/0", ":0", "[0", "é", "abİ", "abKa", "\xff\xff", strings.Repeat("0", 2*api.MaxValue+1), strings.Repeat("00", api.MaxValue+1))
	}
}
