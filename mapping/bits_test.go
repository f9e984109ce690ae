package mapping

import (
	"slices"
	"testing"
)

// What is told may be gone over again, and left early.
func TestBits(t *testing.T) {
	all := bits([]byte{0x35, 0x02}, 2, 8) // 1010 1100 0100 0000, of which the first two are left out
	for range 2 {
		var got []byte
		for i, bit := range all {
			if i != len(got) {
				t.Errorf("bit %d is told as %d", len(got), i)
			}
			got = append(got, bit)
		}
		if want := []byte{1, 0, 1, 1, 0, 0, 0, 1}; !slices.Equal(got, want) {
			t.Errorf("%v, want %v", got, want)
		}
		for i := range all {
			if i == 3 {
				break
			}
		}
	}
	for i := range bits(nil, 0, 0) {
		t.Errorf("bit %d of none", i)
	}
}
