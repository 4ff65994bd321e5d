package query

import (
	"errors"
	"strconv"
	"strings"

	"cachetier/api"
)

// words contains, for each kind, the word by which its lines begin.
var words = [...]string{
	api.QRow:   "row",
	api.QRange: "rows",
	api.QCount: "count",
	api.QSum:   "sum",
	api.QMin:   "min",
	api.QMax:   "max",
	api.QJoin:  "join",
}

// kinds returns the kind of each word by which lines begin. No line begins with the empty word, whose kind is none.
func kinds() map[string]int {
	out := map[string]int{}
	for kind, word := range words {
		out[word] = kind
	}
	return out
}

// spell goes through the line of a query of q's Kind behind its first word: it calls word with each further word, and number with each field of q that the line has, in their order. Print and Parse both follow it, so that they cannot differ in the form of a line.
func spell(q *api.Query, word func(string), number func(*int)) {
	switch q.Kind {
	case api.QRow:
		number(&q.Table)
		number(&q.Low)
		q.High = q.Low // the line has the key once
	case api.QSum, api.QMin, api.QMax, api.QJoin:
		number(&q.By)
		if q.Kind == api.QJoin {
			word("to")
			number(&q.Other)
		}
		word("of")
		fallthrough
	case api.QRange, api.QCount:
		number(&q.Table)
		number(&q.Column)
		number(&q.Low)
		number(&q.High)
	}
}

// Print returns the line of q, or ErrQuery if q is not valid.
func Print(q api.Query) (string, api.Errno) {
	if !Valid(q) {
		return "", api.ErrQuery
	}
	line := []string{words[q.Kind]}
	spell(&q, func(word string) {
		line = append(line, word)
	}, func(field *int) {
		line = append(line, strconv.Itoa(*field))
	})
	return strings.Join(line, " "), api.OK
}

// Parse returns the valid query whose line is s, or ErrQuery if there is none.
func Parse(s string) (api.Query, api.Errno) {
	q, failure := read(s)
	if errors.Is(failure, errLine) || !Valid(q) {
		return api.Query{}, api.ErrQuery
	}
	return q, api.OK
}

// What reading panics with.
var errLine = errors.New("query: another word or number is expected, or something is left over")

// read returns the query that s spells, which need not be valid; or an error, and a zero query, which is not valid.
func read(s string) (q api.Query, failure error) {
	defer func() {
		if reason, ok := recover().(error); ok {
			failure = reason
		}
	}()
	rest, more := s, true
	next := func() string { // without a check of more: what is missing reads as an empty word, which no line has
		var word string
		word, rest, more = strings.Cut(rest, " ")
		return word
	}
	found := api.Query{Kind: kinds()[next()]}
	spell(&found, func(word string) {
		expect(next() == word)
	}, func(field *int) {
		*field = numberOf(next())
	})
	expect(!more)
	return found, nil
}

// numberOf returns the number that is written as word. Of the ways to write a number that strconv reads, only the one in which it writes it counts.
func numberOf(word string) int {
	n, err := strconv.Atoi(word)
	expect(err == nil && strconv.Itoa(n) == word)
	return n
}

// expect panics with errLine if what is expected is not there.
func expect(there bool) {
	if !there {
		panic(errLine)
	}
}
