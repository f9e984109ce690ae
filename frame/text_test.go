package frame_test

import (
	"fmt"
	"math"
	"regexp"
	"strings"
	"testing"

	"campanile/api"
	"campanile/frame"
)

// texts is what the chapter's words make of a text that is a right frame's.
var texts = regexp.MustCompile(`\A[0-7][0-9A-F]{2}#(R[0-8]|([0-9A-F]{2}){0,8})\z`)

// textByWords tells a right frame's text.
func textByWords(f api.Frame) string {
	if f.Remote {
		return fmt.Sprintf("%03X#R%d", f.ID, f.Len)
	}
	return fmt.Sprintf("%03X#%X", f.ID, f.Data[:f.Len])
}

// mustHold asks of a text all that P3.4 and P3.5 say of it.
func mustHold(t *testing.T, s string) {
	t.Helper()
	f, errno := frame.Read(s)
	if !texts.MatchString(s) {
		if f != (api.Frame{}) || errno != api.ErrFrame {
			t.Fatalf("Read(%q): %v, %d", s, f, errno)
		}
		return
	}
	if errno != api.OK || !rightByWords(f) || textByWords(f) != s {
		t.Fatalf("Read(%q): %v, %d", s, f, errno)
	}
	if w, e := frame.Write(f); w != s || e != api.OK {
		t.Fatalf("Read(%q), written: %q, %d", s, w, e)
	}
}

func TestTextExamples(t *testing.T) { // P3.4
	f, _ := frame.Make(0x181, 0x01, 0x02, 0xFF)
	if s, errno := frame.Write(f); s != "181#0102FF" || errno != api.OK {
		t.Errorf("Write(%v): %q, %d", f, s, errno)
	}
	r, _ := frame.Ask(5, 4)
	if s, errno := frame.Write(r); s != "005#R4" || errno != api.OK {
		t.Errorf("Write(%v): %q, %d", r, s, errno)
	}
	for s, want := range map[string]api.Frame{
		"000#":                 {},
		"7FF#":                 {ID: 0x7FF},
		"181#0102FF":           {ID: 0x181, Len: 3, Data: [8]byte{1, 2, 255}},
		"181#00":               {ID: 0x181, Len: 1},
		"0AB#00112233CCDDEEFF": {ID: 0xAB, Len: 8, Data: [8]byte{0, 0x11, 0x22, 0x33, 0xCC, 0xDD, 0xEE, 0xFF}},
		"005#R4":               {ID: 5, Len: 4, Remote: true},
		"7FF#R0":               {ID: 0x7FF, Remote: true},
		"000#R8":               {Len: 8, Remote: true},
	} {
		if f, errno := frame.Read(s); f != want || errno != api.OK {
			t.Errorf("Read(%q): %v, %d", s, f, errno)
		}
		if w, errno := frame.Write(want); w != s || errno != api.OK {
			t.Errorf("Write(%v): %q, %d", want, w, errno)
		}
	}
}

func TestTextsThatAreAlmostAFrames(t *testing.T) { // P3.4
	for _, s := range []string{
		"181#0102F", "800#", "181#r4", "5#", // the chapter's
		"", "#", "1", "181", "18#", "1810#", "0181#", "0005#", "01#00", // digits of an ID
		"FFF#", "80F#", "FFF#R0", "800#R8", "7ff#", "7Ff#", "a#", "0a0#", "G00#", "-01#", "+01#", "0x1#", "18 #", " 181#", "1 1#",
		"181#0", "181#012", "181#0102ff", "181#aA", "181#0g", "181#0G", "181#G0", "181# 0", "181#0 ", "181#01 02", "181#0x", "181#-1", // bytes
		"181#00112233445566778", "181#001122334455667788", "181#00112233445566", "181#001122334455667", "181#" + strings.Repeat("0", 1<<20),
		"181#R", "181#R9", "181#RA", "181#R00", "181#R08", "181#R10", "181#R-1", "181#R ", "181#R4 ", "181#RR", "181#RR4", "181#r", "181#4R", "181#R4#", "181#R401", "181#01R4", "181#R" + strings.Repeat("0", 1<<20), // lengths
		"181##", "181##00", "#181", "181#00#", "181#00\n", "181#\n", "\n181#", "181\x00#", "181#\x00", "181:00", "181$", "181R4", "18100", "#", "##", "###", "####", "181#é", "１81#", "181＃", "\xff81#", "181#\xff\xff", "181#00\x00",
	} {
		mustHold(t, s)
	}
}

// Each text that differs from a right one's in one byte, lacks one, or has one more, is read just as the words say.
func TestTextsOneByteOff(t *testing.T) { // P3.4, P3.5
	for _, s := range []string{"181#0102FF", "7FF#R8", "000#", "7FF#0011223344556677", "09F#R0", "0A9#"} {
		for i := 0; i <= len(s); i++ {
			for c := range 256 {
				mustHold(t, s[:i]+string([]byte{byte(c)})+s[i:])
				if i < len(s) {
					mustHold(t, s[:i]+string([]byte{byte(c)})+s[i+1:])
				}
			}
			mustHold(t, s[:i])
			mustHold(t, s[i:])
			if i < len(s) {
				mustHold(t, s[:i]+s[i+1:])
			}
		}
		mustHold(t, strings.ToLower(s))
	}
}

func TestTextsByDice(t *testing.T) { // P3.4, P3.5
	const letters = "00112233445566778899ABCDEFR##afg"
	d := dice(3)
	for range 200000 {
		s := make([]byte, d.next(14))
		for i := range s {
			s[i] = letters[d.next(len(letters))]
		}
		if len(s) > 4 && d.next(4) > 0 {
			s[3] = '#'
		}
		mustHold(t, string(s))
	}
}

func TestWriteAndRead(t *testing.T) { // P3.4, P3.5
	d := dice(4)
	for id := range 0x800 {
		for n := 0; n <= 8; n++ {
			f := api.Frame{ID: uint16(id), Len: n}
			for i := range n {
				f.Data[i] = byte(d.next(256))
			}
			for _, f := range []api.Frame{f, {ID: uint16(id), Len: n, Remote: true}} {
				s, errno := frame.Write(f)
				if s != textByWords(f) || errno != api.OK {
					t.Fatalf("Write(%v): %q, %d", f, s, errno)
				}
				if g, errno := frame.Read(s); g != f || errno != api.OK {
					t.Fatalf("%v, written and read: %v, %d", f, g, errno)
				}
			}
		}
	}
	for b := range 256 { // each byte, in each place
		for place := range 8 {
			f := api.Frame{ID: 0x181, Len: 8}
			f.Data[place] = byte(b)
			s, _ := frame.Write(f)
			if g, errno := frame.Read(s); s != textByWords(f) || g != f || errno != api.OK {
				t.Fatalf("%v, written: %q, and read: %v, %d", f, s, g, errno)
			}
		}
	}
}

func TestWriteOfWrongFrames(t *testing.T) { // P3.4
	full := [8]byte{1, 2, 3, 4, 5, 6, 7, 8}
	for _, f := range []api.Frame{
		{ID: 0x800}, {ID: 0xFFFF, Len: 8, Data: full}, {ID: 0x800, Len: 4, Remote: true},
		{Len: -1}, {Len: 9}, {Len: 9, Data: full}, {Len: math.MaxInt}, {Len: math.MinInt}, {Len: 9, Remote: true}, {Len: -1, Remote: true},
		{Len: 7, Data: full}, {Len: 0, Data: [8]byte{1}}, {Len: 3, Data: [8]byte{1, 2, 3, 0, 0, 0, 0, 1}},
		{Len: 8, Data: full, Remote: true}, {Len: 8, Data: [8]byte{7: 1}, Remote: true},
	} {
		if s, errno := frame.Write(f); s != "" || errno != api.ErrFrame {
			t.Errorf("Write(%v): %q, %d", f, s, errno)
		}
	}
	d := dice(5)
	for range 100000 {
		f := d.frame()
		s, errno := frame.Write(f)
		if !rightByWords(f) {
			if s != "" || errno != api.ErrFrame {
				t.Fatalf("Write(%v): %q, %d", f, s, errno)
			}
			continue
		}
		if s != textByWords(f) || errno != api.OK {
			t.Fatalf("Write(%v): %q, %d", f, s, errno)
		}
	}
}
