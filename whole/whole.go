// Package whole is layer 1, exact whole numbers and configs: see shared/doc/01-whole.md.
package whole

import (
	"cmp"
	"sort"

	"footpath/api"
)

const (
	most       = 1 << 61
	mostFactor = 1 << 30 // two products of such numbers, added up, are at most 2^61
	mostHeight = 32
	mostSlope  = 100
	roots      = 1 << 31 // above each root of most, and its square no more than 2^62
)

// Floor: P1.1.
func Floor(a, b int) (int, api.Errno) {
	a, b = tame(a), tame(b)
	if b == 0 {
		return 0, api.ErrArg
	}
	q := a / b
	// Go rounds towards 0, which is up where a / b is below 0.
	if a%b != 0 && (a < 0) != (b < 0) {
		q--
	}
	return q, api.OK
}

// Ceil: P1.1.
func Ceil(a, b int) (int, api.Errno) {
	// Brought in first: the least int has no counterpart above 0.
	q, e := Floor(-tame(a), b)
	return -q, e
}

// Mod: P1.1.
func Mod(a, b int) (int, api.Errno) {
	a, b = tame(a), tame(b)
	if b < 1 {
		return 0, api.ErrArg
	}
	q, e := Floor(a, b)
	return a - b*q, e
}

// Root: P1.2.
func Root(n int) (int, api.Errno) {
	return search(n, func(n, k int) bool { return (k+1)*(k+1) > n })
}

// RootUp: P1.2.
func RootUp(n int) (int, api.Errno) {
	return search(n, func(n, k int) bool { return k*k >= n })
}

// Sign: P1.1.
func Sign(a int) int {
	return into(a, -1, 1)
}

// Cross: P1.3.
func Cross(a, b, c, d int) (int, api.Errno) {
	for _, n := range [4]int{a, b, c, d} {
		if !within(n, -mostFactor, mostFactor) {
			return 0, api.ErrArg
		}
	}
	return a*d - b*c, api.OK
}

// Check: P1.4.
func Check(c api.Config) api.Errno {
	switch {
	case !within(c.Clear, 0, api.MaxClear),
		!within(c.Climb, 0, api.MaxClimb),
		!within(c.Height, c.Climb+1, mostHeight),
		!within(c.Rise, 0, mostSlope),
		!within(c.Run, 1, mostSlope),
		!within(c.W, 1, api.MaxSide),
		!within(c.D, 1, api.MaxSide):
		return api.ErrConfig
	}
	return api.OK
}

// into is what the document calls to bring into a stretch.
func into[T cmp.Ordered](n, lo, hi T) T {
	return max(lo, min(n, hi))
}

// within leans on into: what lies in a stretch is left by it as it is.
func within[T cmp.Ordered](n, lo, hi T) bool {
	return into(n, lo, hi) == n
}

// tame keeps squares, sums and turned signs of numbers that are handed in from running over.
func tame(n int) int {
	return into(n, -most, most)
}

// search finds the least root that is enough for n; every root behind it has to be enough, too.
func search(n int, enough func(n, k int) bool) (int, api.Errno) {
	n = tame(n)
	if n < 0 {
		return 0, api.ErrArg
	}
	return sort.Search(roots, func(k int) bool { return enough(n, k) }), api.OK
}
