// Package sat is layer 1: ticks that never run over: see shared/doc/01-sat.md.
package sat

import "doorman/api"

// Fit is a number, brought within bounds.
func Fit(n int) int { return min(max(n, 0), api.MaxTick) }

// Add is a sum. Both terms are fitted first: that leaves at most 41 bits, which an int holds.
func Add(a, b int) int { return Fit(Fit(a) + Fit(b)) }

// Sub is a difference.
func Sub(a, b int) int { return Fit(Fit(a) - Fit(b)) }

// Mul is a product.
func Mul(a, b int) int {
	a, b = Fit(a), Fit(b)
	// A product may have 81 bits, too many for an int, so it is held against MaxTick by a division.
	if a > 0 && b > api.MaxTick/a {
		return api.MaxTick
	}
	return a * b
}

// Twice is a number, doubled so often.
func Twice(a, k int) int {
	n := Fit(a)
	// Neither 0 nor MaxTick changes any more, so a great k needs no more than 40 rounds.
	for i := 0; i < k && 0 < n && n < api.MaxTick; i++ {
		n = Add(n, n)
	}
	return n
}
