package logtree

import (
	"strings"

	"cachetier/api"
	"cachetier/digest"
	"cachetier/row"
	"cachetier/wire"
)

// valid reports whether h may be the head of a position.
func valid(h api.Head) bool {
	return h.Position >= 0 && h.Position <= api.MaxPosition && isDigest(h.Chain) && isDigest(h.State)
}

// isDigest reports whether s has the length of a digest.
func isDigest(s string) bool {
	return len(s) == api.DigestSize
}

// Next returns the head that follows h if r is appended with a state.
func Next(h api.Head, r api.Record, state string) (api.Head, api.Errno) {
	code, err := row.EncodeRecord(r)
	if err != api.OK || !valid(h) || r.Position != h.Position+1 || !isDigest(state) {
		return api.Head{}, api.ErrLog
	}
	return api.Head{Position: r.Position, Chain: digest.Chain(h.Chain, code), State: strings.Clone(state)}, api.OK
}

// Follows reports whether the records of l lead from the head a to the head b.
func Follows(a api.Head, l []api.Record, b api.Head) bool {
	if !valid(a) || !valid(b) || len(l) != b.Position-a.Position {
		return false
	}
	h := a
records:
	for _, r := range l {
		// The records do not tell the states on the way, and only the last head is compared: it gets the state of b.
		next, err := Next(h, r, b.State)
		switch err {
		case api.OK:
			h = next
		default:
			break records // h stays at a position before that of b
		}
	}
	return h == b
}

// Encode returns the encoding of h, or ErrLog if h is not valid.
func Encode(h api.Head) (string, api.Errno) {
	if !valid(h) {
		return "", api.ErrLog
	}
	return encode(h), api.OK
}

// encode returns the encoding of a valid head.
func encode(h api.Head) string {
	position, _ := wire.PutInt(h.Position) // a valid position is within the bounds of PutInt
	return position + h.Chain + h.State
}

// Decode returns the valid head whose encoding is s, or an error.
func Decode(s string) (api.Head, api.Errno) {
	position, at, err := wire.Int(s, 0)
	if err != api.OK || len(s)-at != 2*api.DigestSize {
		return api.Head{}, api.ErrWire
	}
	middle := at + api.DigestSize
	h := api.Head{Position: position, Chain: strings.Clone(s[at:middle]), State: strings.Clone(s[middle:])}
	if !valid(h) {
		return api.Head{}, api.ErrLog
	}
	return h, api.OK
}

// Verify reports whether path shows that h is a head of the log of n records with this root.
func Verify(root string, n int, h api.Head, path []string) bool {
	if n < 0 || n > api.MaxPosition || !valid(h) || h.Position > n {
		return false
	}
	return digest.Verify(root, n+1, h.Position, encode(h), path)
}
