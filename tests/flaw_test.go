package tests

import (
	"math"
	"testing"
)

// flaw is one thing that may be wrong with what a call is given, and the code
// that the call has by it. Flaws of a lower rank are asked ahead of others.
type flaw[T any] struct {
	name string
	rank int
	code int64
	make func(given *T)
}

// wantFlaws holds each flaw alone, and each two of unlike rank together,
// against what ask tells: the code of the one that is asked first.
func wantFlaws[T any](t *testing.T, what string, given func() T, flaws []flaw[T], ask func(t *testing.T, what string, given T, code int64)) {
	t.Helper()
	ask(t, what+" without a flaw", given(), 0)
	for _, first := range flaws {
		alone := given()
		first.make(&alone)
		ask(t, what+": "+first.name, alone, first.code)
		for _, second := range flaws {
			if second.rank <= first.rank {
				continue
			}
			// The later one is made first, while the rest is still whole.
			both := given()
			second.make(&both)
			first.make(&both)
			ask(t, what+": "+first.name+" and "+second.name, both, first.code)
		}
	}
}

// lifted are flaws of a part as flaws of the whole.
func lifted[T, P any](flaws []flaw[P], rank int, part func(whole *T) *P) []flaw[T] {
	var whole []flaw[T]
	for _, f := range flaws {
		whole = append(whole, flaw[T]{f.name, rank + f.rank, f.code, func(given *T) { f.make(part(given)) }})
	}
	return whole
}

// numberFlaws has a flaw for each number just beyond the bounds and far beyond them.
func numberFlaws[T any](name string, rank int, code int64, least, most int64, at func(given *T) *int64) []flaw[T] {
	var flaws []flaw[T]
	for _, number := range beyond(least, most) {
		flaws = append(flaws, flaw[T]{name + " beyond", rank, code, func(given *T) { *at(given) = number }})
	}
	return flaws
}

func beyond(least, most int64) []int64 {
	return []int64{least - 1, most + 1, -1 << 32, 1<<32 + least, math.MinInt64, math.MinInt64 + 1, math.MaxInt64 - 1, math.MaxInt64}
}
