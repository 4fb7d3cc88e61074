// Package seq is layer 1: see shared/doc/01-seq.md.
package seq

import "iter"

// number is a number that wraps around, of either size.
type number interface{ uint32 | uint64 }

// Before reports whether b comes behind a, by less than half of all numbers.
func Before(a, b uint32) bool { return before(a, b) }

// Plus returns the number n behind a, or before it if n is negative.
func Plus(a uint32, n int) uint32 { return a + uint32(n) }

// Gap returns how far b is behind a; it is negative if b comes before a.
func Gap(a, b uint32) int { return gap(a, b) }

// In returns where x is among the n numbers from from on, and whether it is one of them.
func In(x, from uint32, n int) (int, bool) {
	at := int(x - from)
	if at >= n {
		return 0, false
	}
	return at, true
}

// Expand returns the number nearest to near whose lowest 32 bits are low.
func Expand(low uint32, near uint64) uint64 {
	var nearest uint64
	least := ^uint64(0)
	for c := range candidates(low, near) {
		if d := apart(near, c); d < least {
			nearest, least = c, d
		}
	}
	return nearest
}

// Far returns how far b is behind a; it is negative if b comes before a.
func Far(a, b uint64) int { return gap(a, b) }

// before is Before, of either size.
func before[N number](a, b N) bool {
	d := b - a
	return d != 0 && d <= ^N(0)>>1
}

// apart returns the shorter one of the two ways between a and b.
func apart[N number](a, b N) N {
	if before(a, b) {
		return b - a
	}
	return a - b
}

// gap returns apart with the sign of its way. At exactly half of all numbers the way leads back, so that the least int needs no case of its own.
func gap[N number](a, b N) int {
	if before(a, b) {
		return int(apart(a, b))
	}
	return -int(apart(a, b))
}

// candidates yields the numbers that end in low and may be nearest to near. The forward ones come first, so that whoever keeps the first of two equally near ones keeps the forward one.
func candidates(low uint32, near uint64) iter.Seq[uint64] {
	const turn = 1 << 32
	same := near/turn*turn + uint64(low)
	return func(yield func(uint64) bool) {
		for _, c := range [...]uint64{same + turn, same, same - turn} {
			if !yield(c) {
				return
			}
		}
	}
}
