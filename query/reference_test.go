package query_test

import (
	"fmt"
	"math"
	"math/rand/v2"
	"regexp"
	"slices"
	"strconv"

	"cachetier/api"
)

// The references below follow the chapter in another way than the package: validity is a table of the bounds of every field, lines are formats, and they are read by regular expressions.

// bounds contains, for each kind, the least and the greatest number of each field: Table, Column, Low, High, By, Other.
var bounds = map[int][6][2]int{
	1: {{0, 3}, {0, 0}, {1, 1000000}, {1, 1000000}, {0, 0}, {0, 0}},
	2: {{0, 3}, {0, 3}, {-1000000000, 1000000000}, {-1000000000, 1000000000}, {0, 0}, {0, 0}},
	3: {{0, 3}, {0, 3}, {-1000000000, 1000000000}, {-1000000000, 1000000000}, {0, 0}, {0, 0}},
	4: {{0, 3}, {0, 3}, {-1000000000, 1000000000}, {-1000000000, 1000000000}, {1, 3}, {0, 0}},
	5: {{0, 3}, {0, 3}, {-1000000000, 1000000000}, {-1000000000, 1000000000}, {1, 3}, {0, 0}},
	6: {{0, 3}, {0, 3}, {-1000000000, 1000000000}, {-1000000000, 1000000000}, {1, 3}, {0, 0}},
	7: {{0, 3}, {0, 3}, {-1000000000, 1000000000}, {-1000000000, 1000000000}, {1, 3}, {0, 3}},
}

func fields(q api.Query) [6]int {
	return [6]int{q.Table, q.Column, q.Low, q.High, q.By, q.Other}
}

func queryOf(kind int, f [6]int) api.Query {
	return api.Query{Kind: kind, Table: f[0], Column: f[1], Low: f[2], High: f[3], By: f[4], Other: f[5]}
}

// with returns q with the number n in a field, counted as in bounds.
func with(q api.Query, field, n int) api.Query {
	f := fields(q)
	f[field] = n
	return queryOf(q.Kind, f)
}

func refValid(q api.Query) bool {
	b, ok := bounds[q.Kind]
	if !ok || q.Low > q.High || q.Kind == 1 && q.Low < q.High {
		return false
	}
	for i, n := range fields(q) {
		if n < b[i][0] || n > b[i][1] {
			return false
		}
	}
	return true
}

func refPrint(q api.Query) (string, api.Errno) {
	if !refValid(q) {
		return "", api.ErrQuery
	}
	scan := fmt.Sprintf("%d %d %d %d", q.Table, q.Column, q.Low, q.High)
	switch q.Kind {
	case 1:
		return fmt.Sprintf("row %d %d", q.Table, q.Low), api.OK
	case 2, 3:
		return fmt.Sprintf("%s %s", []string{"rows", "count"}[q.Kind-2], scan), api.OK
	case 4, 5, 6:
		return fmt.Sprintf("%s %d of %s", []string{"sum", "min", "max"}[q.Kind-4], q.By, scan), api.OK
	}
	return fmt.Sprintf("join %d to %d of %s", q.By, q.Other, scan), api.OK
}

const (
	oneNumber  = `(0|-?[1-9][0-9]{0,9})`
	twoNumbers = oneNumber + ` ` + oneNumber
	someScan   = twoNumbers + ` ` + twoNumbers
)

// forms contains the forms of lines, and for each of them which fields its numbers are, counted as in bounds.
var forms = []struct {
	kind int
	form *regexp.Regexp
	at   []int
}{
	{1, regexp.MustCompile(`\Arow ` + twoNumbers + `\z`), []int{0, 2}},
	{2, regexp.MustCompile(`\Arows ` + someScan + `\z`), []int{0, 1, 2, 3}},
	{3, regexp.MustCompile(`\Acount ` + someScan + `\z`), []int{0, 1, 2, 3}},
	{4, regexp.MustCompile(`\Asum ` + oneNumber + ` of ` + someScan + `\z`), []int{4, 0, 1, 2, 3}},
	{5, regexp.MustCompile(`\Amin ` + oneNumber + ` of ` + someScan + `\z`), []int{4, 0, 1, 2, 3}},
	{6, regexp.MustCompile(`\Amax ` + oneNumber + ` of ` + someScan + `\z`), []int{4, 0, 1, 2, 3}},
	{7, regexp.MustCompile(`\Ajoin ` + oneNumber + ` to ` + oneNumber + ` of ` + someScan + `\z`), []int{4, 5, 0, 1, 2, 3}},
}

func refParse(s string) (api.Query, api.Errno) {
	for _, x := range forms {
		found := x.form.FindStringSubmatch(s)
		if found == nil {
			continue
		}
		var f [6]int
		for i, field := range x.at {
			f[field], _ = strconv.Atoi(found[i+1])
		}
		if x.kind == 1 {
			f[3] = f[2]
		}
		if q := queryOf(x.kind, f); refValid(q) {
			return q, api.OK
		}
	}
	return api.Query{}, api.ErrQuery
}

func source(n uint64) *rand.Rand { return rand.New(rand.NewPCG(5, n)) }

func pick(r *rand.Rand, list ...int) int { return list[r.IntN(len(list))] }

// randomQuery returns a valid query; its numbers are often at their bounds.
func randomQuery(r *rand.Rand) api.Query {
	kind := 1 + r.IntN(7)
	var f [6]int
	for i, b := range bounds[kind] {
		f[i] = pick(r, b[0], b[1], b[0]+r.IntN(b[1]-b[0]+1), max(b[0], min(b[1], r.IntN(21)-10)))
	}
	f[2], f[3] = min(f[2], f[3]), max(f[2], f[3])
	if kind == 1 {
		f[3] = f[2]
	}
	return queryOf(kind, f)
}

// extremes are numbers beside and far beyond the bounds of kinds and fields.
func extremes() []int {
	list := []int{math.MinInt, math.MinInt + 1, math.MaxInt, math.MaxInt - 1}
	for _, n := range []int{0, 3, 7, 1000000, 1000000000, 1 << 31, 1 << 32, 1<<32 + 5, 10000000000} {
		for d := -2; d <= 2; d++ {
			list = append(list, n+d, -n+d)
		}
	}
	slices.Sort(list)
	return slices.Compact(list)
}
