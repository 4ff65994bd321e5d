package row

import (
	"errors"
	"strings"

	"cachetier/api"
	"cachetier/wire"
)

// The number between the key of a change and its values says which values follow: it is the sum of these.
const (
	hadMark = 1
	hasMark = 2
)

// Encode returns the encoding of r, or ErrRow if r is not valid.
func Encode(r api.Row) (string, api.Errno) {
	if !Valid(r) {
		return "", api.ErrRow
	}
	return encode(r.Table, r.Key) + encode(r.V[:]...), api.OK
}

// EncodeRecord returns the encoding of r, or ErrRow if r is not valid.
func EncodeRecord(r api.Record) (string, api.Errno) {
	if !ValidRecord(r) {
		return "", api.ErrRow
	}
	var code strings.Builder
	code.WriteString(encode(r.Position, len(r.Changes)))
	for _, c := range r.Changes {
		code.WriteString(encodeChange(c))
	}
	return code.String(), api.OK
}

func encodeChange(c api.Change) string {
	marks, values := 0, ""
	if c.Had {
		marks += hadMark
		values += encode(c.Old[:]...)
	}
	if c.Has {
		marks += hasMark
		values += encode(c.New[:]...)
	}
	return encode(c.Table, c.Key, marks) + values
}

// encode returns the encodings of the numbers, one after the other.
func encode(numbers ...int) string {
	var code strings.Builder
	for _, n := range numbers {
		s, _ := wire.PutInt(n) // no number of a valid row or record is beyond the bounds of PutInt
		code.WriteString(s)
	}
	return code.String()
}

// Decode returns the valid row whose encoding is s, or an error.
func Decode(s string) (r api.Row, err api.Errno) {
	defer func() {
		if failure, ok := recover().(error); ok {
			r, err = api.Row{}, codeOf(failure)
		}
	}()
	from := &reader{s: s}
	r = readRow(from.number)
	from.end()
	if !Valid(r) {
		return api.Row{}, api.ErrRow
	}
	return r, api.OK
}

// DecodeRecord returns the valid record whose encoding is s, or an error.
func DecodeRecord(s string) (r api.Record, err api.Errno) {
	defer func() {
		if failure, ok := recover().(error); ok {
			r, err = api.Record{}, codeOf(failure)
		}
	}()
	from := &reader{s: s}
	r = readRecord(from.number)
	from.end()
	if !ValidRecord(r) {
		return api.Record{}, api.ErrRow
	}
	return r, api.OK
}

// What reading panics with.
var (
	errWire  = errors.New("row: a number is expected and none begins there, or bytes are left over")
	errRange = errors.New("row: a number that says what follows is out of its range")
)

// codeOf returns the error code for what reading has panicked with.
func codeOf(failure error) api.Errno {
	if errors.Is(failure, errWire) {
		return api.ErrWire
	}
	return api.ErrRow
}

// reader reads numbers from s, the next one at the offset at.
type reader struct {
	s  string
	at int
}

// number returns the next number, or panics with errWire if none begins there.
func (r *reader) number() int {
	n, next, err := wire.Int(r.s, r.at)
	if err != api.OK {
		panic(errWire)
	}
	r.at = next
	return n
}

// end panics with errWire if not all has been read.
func (r *reader) end() {
	if r.at != len(r.s) {
		panic(errWire)
	}
}

// The functions below take their numbers from next, in the order of the encoding. Go calls the functions within an expression from left to right.

func readRow(next func() int) api.Row {
	return api.Row{Table: next(), Key: next(), V: readValues(next)}
}

func readValues(next func() int) [3]int {
	return [3]int{next(), next(), next()}
}

func readRecord(next func() int) api.Record {
	r := api.Record{Position: next()}
	r.Changes = make([]api.Change, upTo(api.MaxChanges, next()))
	for i := range r.Changes {
		r.Changes[i] = readChange(next)
	}
	return r
}

func readChange(next func() int) api.Change {
	c := api.Change{Table: next(), Key: next()}
	marks := upTo(hadMark+hasMark, next())
	if marks&hadMark != 0 {
		c.Had, c.Old = true, readValues(next)
	}
	if marks&hasMark != 0 {
		c.Has, c.New = true, readValues(next)
	}
	return c
}

// upTo returns n, or panics with errRange if n is not from 1 to most. It is called as soon as n is read, since n says how much is read after it.
func upTo(most int, n int) int {
	if n < 1 || n > most {
		panic(errRange)
	}
	return n
}
