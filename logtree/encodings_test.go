package logtree

import (
	"strings"
	"testing"

	"cachetier/api"
)

// A caller that takes only some of the encodings gets no more than these, in the order of the heads.
func TestEncodingsEndEarly(t *testing.T) {
	part := strings.Repeat("d", api.DigestSize)
	heads := make([]api.Head, 4)
	for p := range heads {
		heads[p] = api.Head{Position: p, Chain: part, State: part}
	}
	for most := 1; most <= len(heads); most++ {
		number := 0
		for code := range encodings(heads) {
			if want, _ := Encode(heads[number]); code != want {
				t.Errorf("the encoding %d is %x", number, code)
			}
			number++
			if number == most {
				break
			}
		}
		if number != most {
			t.Errorf("%d encodings, want %d", number, most)
		}
	}
}
